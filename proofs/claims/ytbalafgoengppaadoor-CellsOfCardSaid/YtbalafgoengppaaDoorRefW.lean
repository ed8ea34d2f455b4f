/- What the document's own answers of widths do (package bodkinref02): a contract for each function. -/
import Derived.Test.YtbalafgoengppaaDoorSum
namespace Go.Proofs.YtbalafgoengppaaDoor
open Go.RowKit
set_option maxHeartbeats 400000 in
theorem rin_any (A : Option Addr) (n c : Nat) (rs : List (Int × Int)) (r : Int) (w : World) (hA : RngAt w A rs) (hl : rs.length = n) (hn : n ≤ 1000000) :
    Calls Tryd.prog 46 #[.slice A n c, .int .i32 r] w fun e w' => e = .returned (.bool (inR rs r)) ∧ Below w.heap.size w w' := by
  have HL := Lib.hid hl; clear hl
  go_enter Tryd.func46, Tryd.ntmps46
  go_wp2
  go_loopg [9] n (fun k i wr => ∃ j : Nat, i = .int .i64 j ∧ j ≤ n ∧ n - j ≤ k ∧ Below w.heap.size w wr ∧ ∀ m, m < j → rhi rs m < r ∨ r < rlo rs m)
  case atStart => exact ⟨0, rfl, by omega, by omega, Below.refl _ _, fun m h => by omega⟩
  case round =>
    obtain ⟨j, rfl, h1, h2, hb, hall⟩ := hrel
    have HH := Lib.hid hall; clear hall
    by_cases hlt : j < n
    · have hm : j < rs.length := by rw [HL.out]; omega
      obtain ⟨b, off, rfl, hbs, hc⟩ := hA (by omega)
      obtain ⟨c1, c2⟩ := hc _ hm
      clear hc
      obtain ⟨H1, H2⟩ := old_cells hb
      have HM := Lib.hid hm; clear hm
      by_cases g1 : rlo rs j ≤ r
      · by_cases g2 : r ≤ rhi rs j
        · go_wp2
          go_ret
          exact ⟨ret_bool (inR_true HM.out g1 g2).symm, hb.alloc hb.size _⟩
        · have g3 : ¬ (r ≤ rhi rs j) := g2
          go_wp2
          go_roundg (gk - 1)
          case measure => omega
          case rel => exact ⟨j + 1, by go_num, by omega, by omega, hb.alloc hb.size _, fun m hm => by
            by_cases e : m < j
            · exact HH.out m e
            · obtain rfl : m = j := by omega
              exact .inl (by omega)⟩
      · go_wp2
        go_roundg (gk - 1)
        case measure => omega
        case rel => exact ⟨j + 1, by go_num, by omega, by omega, hb.alloc hb.size _, fun m hm => by
            by_cases e : m < j
            · exact HH.out m e
            · obtain rfl : m = j := by omega
              exact .inr (by omega)⟩
    · go_wp2
      go_ret
      exact ⟨ret_bool (inR_false fun m hm => HH.out m (by rw [HL.out] at hm; omega)).symm, hb⟩
/-- A table of the document's lies in a block. -/
def RTab (w : World) (tb : Nat) (zs ws : List (Int × Int)) : Prop :=
  ∃ (A1 A2 : Option Addr) (c1 c2 : Nat), tb < w.heap.size ∧ w.cell? ⟨tb, 0, none⟩ = some (.slice A1 zs.length c1) ∧ w.cell? ⟨tb, 1, none⟩ = some (.slice A2 ws.length c2) ∧
    RngAt w A1 zs ∧ RngAt w A2 ws ∧ zs.length ≤ 1000000 ∧ ws.length ≤ 1000000
theorem RTab.below {w w' : World} {tb : Nat} {zs ws : List (Int × Int)} (h : RTab w tb zs ws) (hb : Below w.heap.size w w') : RTab w' tb zs ws := by
  obtain ⟨A1, A2, c1, c2, h0, h1, h2, h3, h4, h5⟩ := h
  exact ⟨A1, A2, c1, c2, Nat.lt_of_lt_of_le h0 hb.size, ((old_cells hb).1 _ _ h0).trans h1, ((old_cells hb).1 _ _ h0).trans h2, h3.below hb, h4.below hb, h5⟩
set_option maxHeartbeats 400000 in
theorem rof_any (tb : Nat) (zs ws : List (Int × Int)) (r : Int) (w : World) (h : RTab w tb zs ws) :
    Calls Tryd.prog 37 #[.pointer (some ⟨tb, 0, none⟩), .int .i32 r] w fun e w' => e = .returned (.int .i64 (wid zs ws r)) ∧ Below w.heap.size w w' := by
  obtain ⟨A1, A2, c1, c2, h0, h1, h2, h3, h4, h5, h6⟩ := h
  generalize hl1 : zs.length = n1 at *
  generalize hl2 : ws.length = n2 at *
  have H1 := Lib.hid hl1; clear hl1
  have H2 := Lib.hid hl2; clear hl2
  cases hz : inR zs r
  · cases hw : inR ws r
    all_goals
      have Hz := Lib.hid hz; clear hz
      have Hw := Lib.hid hw; clear hw
      go_enter Tryd.func37, Tryd.ntmps37
      go_wp2_with fail
      refine (rin_any A1 n1 c1 zs r w h3 H1.out h5).mono ?_
      rintro e w1 ⟨rfl, hb1⟩
      rw [Hz.out]
      obtain ⟨hc1, hf1⟩ := old_cells hb1
      go_wp2_with fail
      refine (rin_any A2 n2 c2 ws r _ (h4.below hb1) H2.out h6).mono ?_
      rintro e w2 ⟨rfl, hb2⟩
      rw [Hw.out]
      go_wp2_with fail
      go_ret
      exact ⟨ret_int (by simp [wid, Hz.out, Hw.out]), hb1.trans (hb2.mono hb1.size)⟩
  · have Hz := Lib.hid hz; clear hz
    go_enter Tryd.func37, Tryd.ntmps37
    go_wp2_with fail
    refine (rin_any A1 n1 c1 zs r w h3 H1.out h5).mono ?_
    rintro e w1 ⟨rfl, hb1⟩
    rw [Hz.out]
    go_wp2_with fail
    go_ret
    exact ⟨ret_int (by simp [wid, Hz.out]), hb1⟩
end Go.Proofs.YtbalafgoengppaaDoor
