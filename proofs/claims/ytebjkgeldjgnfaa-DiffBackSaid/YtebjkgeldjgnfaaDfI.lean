/- Rows and cells: slices.Clone, Grow, Concat at them. -/
import Derived.Test.YtebjkgeldjgnfaaDfA
import Derived.Lib.AppendZeros
import Derived.Lib.SliceRun
namespace Go.Proofs.Ytebjkgeldjgnfaa
open Go.RowKit
set_option linter.unusedVariables false
theorem own_madeD (w : World) (e : TypeId) (k : Nat) : (w.alloc (.cells #[] e)).ownsRow w.heap.size e k (.slice (some ⟨w.heap.size, 0, none⟩) 0 0) 0 [] :=
  ⟨by simp, .inr ⟨w.heap.size, 0, #[], rfl, Nat.le_refl _, heap_alloc_new w _, Nat.le_refl _, by decide, by simp, by simp⟩⟩
set_option maxHeartbeats 4000000 in
set_option maxRecDepth 100000 in
theorem dClone_any (A : Option Addr) (n c : Nat) (l : List Cl) (w : World) (hA : RowsAt encC 4 w A l) (hcap : Caps A n c) (hl : l.length = n) (hn : n ≤ 100000) :
    Calls Try.prog 27 #[.slice A n c] w fun e w' => ∃ v, e = .returned v ∧ w'.ownsRow w.heap.size 41 4 v n (kfl encC l) ∧ Below w.heap.size w w' ∧ (0 < n → ∃ g cap, v = .slice (some ⟨g, 0, none⟩) n cap) := by
  have HL := Lib.hid hl
  have HC := Lib.hid hcap
  have ST := cell_slt
  have ON := Lib.hid (own_madeD w 41 4)
  have x1 : Below w.heap.size w (w.alloc (.cells #[] 41)) := (Below.refl _ _).alloc (Nat.le_refl _) _
  have HA := Lib.hid (hA.below x1)
  clear hl hcap hA
  rcases A with _ | a
  · have hc0 : c = 0 := HC.out.2 rfl
    have hn0 : n = 0 := by have := HC.out.1; omega
    subst hc0
    subst hn0
    have hz : l = [] := List.eq_nil_of_length_eq_zero HL.out
    subst hz
    have he := fun W : World => Lib.run_eql_slice_nil (P := Try.prog) W 22 41 none 0 0 0 0 Try.underlying22
    clear HA HC HL ON x1 ST
    go_enter Try.func27, Try.ntmps27
    go_wp2
    go_ret
    exact ⟨_, rfl, World.ownsRow_nil _ _ _ _, Below.refl _ _, fun h => absurd h (by omega)⟩
  · have he := fun W : World => Lib.run_eql_slice_nil (P := Try.prog) W 22 41 (some a) n c 0 0 Try.underlying22
    go_enter Try.func27, Try.ntmps27
    go_wp2_with (at_builtin; refine wpList_appK (enc := encC) ST encC_len (by omega) rfl (.tmp 5) (.tmp 6) rfl (base := w.heap.size) (v := .slice (some ⟨w.heap.size, 0, none⟩) 0 0) (n := 0) (xs := []) rfl ON.out (some a) n c l rfl HA.out HC.out HL.out (kfl_one' encC_one l) (by simp only [maxLen]; omega) (by omega) x1.size ?_; intro v1 w1 hown1 hg1 hor1)
    have hbw : Below w.heap.size w w1 := x1.grown hg1 x1.size (fun k hk => Nat.le_of_eq (by simpa [Value.ownBlock] using hk))
    rw [Nat.zero_add, List.nil_append] at hown1
    have HO := Lib.hid hown1
    clear hown1 hg1 hor1
    go_wp2
    go_ret
    exact ⟨v1, rfl, HO.out, hbw, fun h => own_slice HO.out h⟩
set_option maxHeartbeats 4000000 in
set_option maxRecDepth 100000 in
theorem dGrow_any (n : Nat) (w : World) (hn : n ≤ 1000000) :
    Calls Try.prog 30 #[.slice none 0 0, .int .i64 n] w fun e w' => ∃ v, e = .returned v ∧ w'.ownsRow w.heap.size 24 7 v 0 [] ∧ Below w.heap.size w w' := by
  obtain ⟨i0, hi0, hz0, hz1, hz2⟩ := info_parts row_info
  rcases Nat.eq_zero_or_pos n with rfl | hp
  · go_enter Try.func30, Try.ntmps30
    go_wp2_with fail
    go_ret
    exact ⟨_, rfl, World.ownsRow_nil _ _ _ _, Below.refl _ _⟩
  have hrun := Lib.run_append_nil_zeros w 30 3 30 24 i0 _ .i64 .i64 Try.underlying30 Try.underlying3 hi0 hz0 n hp (by omega) (by omega) (by rw [hz2]; omega)
  have hcap := grownCap_le_maxLen w n 0 24 (by unfold maxLen; omega)
  have hcap2 := grownCap_ge w n 0 24
  generalize hC : grownCap w n 0 24 = C at *
  go_enter Try.func30, Try.ntmps30
  go_wp2_with (at_builtin; refine Lib.wpList_append_run _ rfl (.tmp 20) (.tmp 21) _ _ rfl _ _ rfl rfl _ _ hrun ?_)
  go_ret
  refine ⟨_, rfl, ⟨by simp, .inr ⟨w.heap.size, C, _, rfl, Nat.le_refl _, heap_alloc_new w.drew _, by omega, hcap, ?_, by simp⟩⟩, ((Below.refl _ _).drew).alloc (Nat.le_refl _) _⟩
  rw [Array.size_append, size_zeroCells, size_zeroCells, ← Nat.add_mul]
  congr 1
  omega
set_option maxHeartbeats 4000000 in
set_option maxRecDepth 100000 in
theorem dConcat_any (b : Nat) (A B C : Option Addr) (n c m d q e cap : Nat) (x y z : List Rw) (w : World) (h0 : w.cell? ⟨b, 0, none⟩ = some (.slice A n c)) (h1 : w.cell? ⟨b, 1, none⟩ = some (.slice B m d)) (h2 : w.cell? ⟨b, 2, none⟩ = some (.slice C q e)) (hbs : b < w.heap.size)
    (hA : RowsAt encR 7 w A x) (hx : x.length = n) (hc : Caps A n c) (hB : RowsAt encR 7 w B y) (hy : y.length = m) (hd : Caps B m d) (hC : RowsAt encR 7 w C z) (hz : z.length = q) (he : Caps C q e) (hn : n ≤ 100000) (hm : m ≤ 100000) (hq : q ≤ 100000) :
    Calls Try.prog 26 #[.slice (some ⟨b, 0, none⟩) 3 cap] w fun e w' => ∃ v, e = .returned v ∧ w'.ownsRow w.heap.size 24 7 v (n + m + q) (kfl encR (x ++ y ++ z)) ∧ Below w.heap.size w w' := by
  have HA := Lib.hid hA
  have HB := Lib.hid hB
  have HC := Lib.hid hC
  have HX := Lib.hid hx
  have HY := Lib.hid hy
  have HZ := Lib.hid hz
  have HCA := Lib.hid hc
  have HCB := Lib.hid hd
  have HCC := Lib.hid he
  clear hA hB hC hx hy hz hc hd he
  have wn : IntKind.i64.wrap (n : Int) = (n : Int) := IntWalk.i64_in _ (by omega)
  have wnm : IntKind.i64.wrap ((n : Int) + (m : Int)) = (n : Int) + (m : Int) := IntWalk.i64_in _ (by omega)
  have wnmq : IntKind.i64.wrap ((n : Int) + (m : Int) + (q : Int)) = (n : Int) + (m : Int) + (q : Int) := IntWalk.i64_in _ (by omega)
  have nneg : ¬ ((n : Int) < 0) := by omega
  have nmneg : ¬ ((n : Int) + (m : Int) < 0) := by omega
  have nmqneg : ¬ ((n : Int) + (m : Int) + (q : Int) < 0) := by omega
  go_enter Try.func26, Try.ntmps26
  go_wp2_with fail
  go_loopg [3, 11] 3 (fun k s i wr => ∃ j : Nat, i = .int .i64 j ∧ j ≤ 3 ∧ 3 - j ≤ k ∧ wr = w ∧ ((j = 0 ∧ s = .int .i64 0) ∨ (j = 1 ∧ s = .int .i64 n) ∨ (j = 2 ∧ s = .int .i64 (n + m)) ∨ (j = 3 ∧ s = .int .i64 (n + m + q))))
  case atStart => exact ⟨0, rfl, by omega, by omega, rfl, .inl ⟨rfl, rfl⟩⟩
  case round =>
    obtain ⟨j, rfl, h4, h3, rfl, ⟨rfl, rfl⟩ | ⟨rfl, rfl⟩ | ⟨rfl, rfl⟩ | ⟨rfl, rfl⟩⟩ := hrel
    · go_wp2
      go_roundg (gk - 1)
      case measure => omega
      case rel => exact ⟨1, rfl, by omega, by omega, rfl, .inr (.inl ⟨rfl, rfl⟩)⟩
    · go_wp2
      go_roundg (gk - 1)
      case measure => omega
      case rel => exact ⟨2, rfl, by omega, by omega, rfl, .inr (.inr (.inl ⟨rfl, rfl⟩))⟩
    · go_wp2
      go_roundg (gk - 1)
      case measure => omega
      case rel => exact ⟨3, rfl, by omega, by omega, rfl, .inr (.inr (.inr ⟨rfl, rfl⟩))⟩
    · have CG := Lib.hid (dGrow_any (n + m + q) wr (by omega))
      rw [Int.natCast_add, Int.natCast_add] at CG
      go_wp2_with fail
      refine CG.out.mono ?_
      rintro e w1 ⟨v1, rfl, hown1, hb1⟩
      have HO1 := Lib.hid hown1; clear hown1
      obtain ⟨w0, hw0⟩ : ∃ x, x = wr := ⟨wr, rfl⟩
      subst hw0
      obtain ⟨gO, hgO⟩ : ∃ g, g = gk := ⟨gk, rfl⟩
      subst hgO
      go_wp2_with fail
      go_loopg [6, 27] 3 (fun k v i W => ∃ (j : Nat) (u : Value), i = .int .i64 j ∧ u = v ∧ j ≤ 3 ∧ 3 - j ≤ k ∧ Below w0.heap.size w0 W ∧ ((j = 0 ∧ Hid (W.ownsRow w0.heap.size 24 7 u (0) ([]))) ∨ (j = 1 ∧ Hid (W.ownsRow w0.heap.size 24 7 u (n) (kfl encR x))) ∨ (j = 2 ∧ Hid (W.ownsRow w0.heap.size 24 7 u (n + m) (kfl encR x ++ kfl encR y))) ∨ (j = 3 ∧ Hid (W.ownsRow w0.heap.size 24 7 u (n + m + q) (kfl encR x ++ kfl encR y ++ kfl encR z)))))
      case atStart => exact ⟨0, _, rfl, rfl, by omega, by omega, hb1, .inl ⟨rfl, HO1⟩⟩
      case round =>
        obtain ⟨j, u, rfl, rfl, h3, h4, hb, ⟨rfl, hown⟩ | ⟨rfl, hown⟩ | ⟨rfl, hown⟩ | ⟨rfl, hown⟩⟩ := hrel
        · have q0 : wr.cell? ⟨b, 0, none⟩ = some (.slice A n c) := ((old_cells hb).1 _ _ hbs).trans h0
          go_wp2_with (at_builtin; refine wpList_appK (enc := encR) row_slt encR_len (by omega) rfl (.tmp 31) (.tmp 32) rfl rfl hown.out A n c x rfl (HA.out.below hb) HCA.out HX.out (kfl_one' encR_one _) (by simp only [maxLen]; omega) (by omega) hb.size ?_; intro v4 w4 hown4 hg4 hn4)
          have hb4 := hb.grown hg4 hb.size (fun k hk => (hown.out.lt k hk).1)
          rw [Nat.zero_add, List.nil_append] at hown4
          have HO4 := Lib.hid hown4
          clear hown4 hg4 hn4
          go_wp2
          go_roundg (gk - 1)
          case measure => omega
          case rel => exact ⟨1, _, rfl, rfl, by omega, by omega, hb4, .inr (.inl ⟨rfl, HO4⟩)⟩
        · have q0 : wr.cell? ⟨b, 1, none⟩ = some (.slice B m d) := ((old_cells hb).1 _ _ hbs).trans h1
          go_wp2_with (at_builtin; refine wpList_appK (enc := encR) row_slt encR_len (by omega) rfl (.tmp 31) (.tmp 32) rfl rfl hown.out B m d y rfl (HB.out.below hb) HCB.out HY.out (kfl_one' encR_one _) (by simp only [maxLen]; omega) (by omega) hb.size ?_; intro v4 w4 hown4 hg4 hn4)
          have hb4 := hb.grown hg4 hb.size (fun k hk => (hown.out.lt k hk).1)
          have HO4 := Lib.hid hown4
          clear hown4 hg4 hn4
          go_wp2
          go_roundg (gk - 1)
          case measure => omega
          case rel => exact ⟨2, _, rfl, rfl, by omega, by omega, hb4, .inr (.inr (.inl ⟨rfl, HO4⟩))⟩
        · have q0 : wr.cell? ⟨b, 2, none⟩ = some (.slice C q e) := ((old_cells hb).1 _ _ hbs).trans h2
          go_wp2_with (at_builtin; refine wpList_appK (enc := encR) row_slt encR_len (by omega) rfl (.tmp 31) (.tmp 32) rfl rfl hown.out C q e z rfl (HC.out.below hb) HCC.out HZ.out (kfl_one' encR_one _) (by simp only [maxLen]; omega) (by omega) hb.size ?_; intro v4 w4 hown4 hg4 hn4)
          have hb4 := hb.grown hg4 hb.size (fun k hk => (hown.out.lt k hk).1)
          have HO4 := Lib.hid hown4
          clear hown4 hg4 hn4
          go_wp2
          go_roundg (gk - 1)
          case measure => omega
          case rel => exact ⟨3, _, rfl, rfl, by omega, by omega, hb4, .inr (.inr (.inr ⟨rfl, HO4⟩))⟩
        · have hx := hown.out
          obtain ⟨A7, c7, rfl⟩ := own_form hx
          have HI := Lib.hid hx
          clear hx hown
          go_wp2
          go_ret
          exact ⟨_, rfl, by rw [kfl_append, kfl_append]; exact HI.out, hb⟩
end Go.Proofs.Ytebjkgeldjgnfaa
