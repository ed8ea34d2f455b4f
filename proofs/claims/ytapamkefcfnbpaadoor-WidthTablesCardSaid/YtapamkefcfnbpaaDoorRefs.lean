/- The law's own turning of ranges into the document's, and whether these are right: the contracts of refs and bodkinref02.Right. -/
import Derived.Test.YtapamkefcfnbpaaDoorNew
namespace Go.Proofs.YtapamkefcfnbpaaDoor
open Go.RowKit
theorem flat_snoc {rs : List (Int × Int)} {j : Nat} (hj : j < rs.length) : flat (rs.take (j + 1)) = flat (rs.take j) ++ [.int .i32 (rlo rs j), .int .i32 (rhi rs j)] := by
  have e : rs.getD j (0, 0) = rs[j] := by simp [List.getD, hj]
  unfold rlo rhi flat
  rw [List.take_succ_eq_append_getElem hj, List.flatMap_append, e]
  rfl
theorem two_new (w : World) (a b : Value) (t : TypeId) : ∀ (j : Nat) (u : Value), [a, b][j]? = some u → (w.alloc (.cells #[a, b] t)).cell? ((⟨w.heap.size, 0, none⟩ : Addr).add j) = some u := by
  intro j u hu
  rw [Go.WideShapes.add_plain, cell_of_row _ _ _ _ t _ (heap_alloc_new w _), Nat.zero_add, ← Array.getElem?_toList]
  exact hu
theorem rrange_info : (Tryd.prog.info? 75).map (fun i => (i.zero, i.size, i.bytes)) = some (some (.agg #[.int .i32 0, .int .i32 0]), 2, 8) := by kernel_rfl
set_option maxHeartbeats 1000000 in
theorem refs_any (A : Option Addr) (n c : Nat) (rs : List (Int × Int)) (w : World) (hA : RngAt w A rs) (hl : rs.length = n) (hn : n ≤ 1000000) :
    Calls Tryd.prog 30 #[.slice A n c] w fun e w' => ∃ A' c', e = .returned (.slice A' n c') ∧ Below w.heap.size w w' ∧ RngAt w' A' rs := by
  obtain ⟨i0, hi0, hz0, hz1, hz2⟩ := info_parts rrange_info
  have HL := Lib.hid hl; clear hl
  have HA := Lib.hid hA; clear hA
  go_enter Tryd.func30, Tryd.ntmps30
  go_wp2
  go_loopg [3, 8] n (fun k v i wr => ∃ j : Nat, i = .int .i64 j ∧ j ≤ n ∧ n - j ≤ k ∧ Below w.heap.size w wr ∧ wr.ownsRow w.heap.size 75 2 v j (flat (rs.take j)))
  case atStart => exact ⟨0, rfl, by omega, by omega, Below.refl _ _, World.ownsRow_nil _ _ _ _⟩
  case round =>
    obtain ⟨j, rfl, h1, h2, hb, hown⟩ := hrel
    by_cases hlt : j < n
    · have hm : j < rs.length := by rw [HL.out]; omega
      obtain ⟨b, off, rfl, hbs, hc⟩ := HA.out (by omega)
      obtain ⟨c1, c2⟩ := hc _ hm
      clear hc
      obtain ⟨H1, H2⟩ := old_cells hb
      have HM := Lib.hid hm; clear hm
      go_wp2_with (at_builtin; refine wpList_append_own _ rfl (.tmp 12) (.tmp 18) _ rfl w.heap.size 75 i0 _ 2 8 Tryd.underlying45 hi0 hz0 hz1 hz2 rfl (by omega) _ j (flat (rs.take j)) rfl ((hown.alloc _).alloc _) ⟨wr.heap.size + 1, 0, none⟩ 1 1 [.int .i32 (rlo rs j), .int .i32 (rhi rs j)] rfl rfl (by have := two_new (wr.alloc (.cells #[.int .i32 (rlo rs j), .int .i32 (rhi rs j)] 51)) (.int .i32 (rlo rs j)) (.int .i32 (rhi rs j)) 75; simpa using this) (fun u hu => by simp at hu; rcases hu with rfl | rfl <;> rfl) (by simp only [maxLen]; omega) (by omega) (by have := hb.size; simp; omega) ?_; intro v1 w1 hown1 hg1 hnil1; clear hnil1)
      have hbw : Below w.heap.size w w1 := ((hb.alloc hb.size _).alloc (by have := hb.size; simp; omega) _).grown hg1 (by have := hb.size; simp; omega) (fun k hk => (hown.lt k hk).1)
      go_roundg (gk - 1)
      case measure => omega
      case rel => exact ⟨j + 1, by go_num, by omega, by omega, hbw, by rw [flat_snoc HM.out]; exact hown1⟩
    · go_wp2
      go_ret
      have hj : j = n := by omega
      obtain ⟨A', c', e, hR, _, _⟩ := RngAt.of_own (rs := rs) (n := n) (by rw [hj, ← HL.out, List.take_length] at hown; rw [← HL.out]; exact hown)
      exact ⟨A', c', by rw [← e]; rfl, hb, hR⟩
end Go.Proofs.YtapamkefcfnbpaaDoor
