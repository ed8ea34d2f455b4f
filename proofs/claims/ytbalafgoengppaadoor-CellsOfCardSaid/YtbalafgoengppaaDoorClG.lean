/- Cells: the small case of the laws. -/
import Derived.Test.YtbalafgoengppaaDoorClF
import Derived.Test.YtbalafgoengppaaDoorStT
namespace Go.Proofs.YtbalafgoengppaaDoor
open Go.RowKit
set_option linter.unusedVariables false
theorem four_ofL : ofL (wid zeroL wideL) 4 [⟨1, 5, [9]⟩] = [⟨9, 1, 1, 5⟩, ⟨32, 4, 1, 5⟩, ⟨32, 4, 1, 5⟩, ⟨32, 4, 1, 5⟩] := rfl
set_option maxHeartbeats 4000000 in
set_option maxRecDepth 100000 in
theorem four_any (w : World) (h : Tabs w) : Calls Tryd.prog 24 #[] w fun e w' => e = .returned (.bool true) ∧ Below w.heap.size w w' := by
  have CP := Lib.hid (plain_any w h)
  clear h
  go_enter Tryd.func24, Tryd.ntmps24
  go_wp2_with fail
  with_reducible refine (CP.out).mono ?_
  rintro e w1 ⟨tb, rfl, hb1, ht1⟩
  have x2 : Below w1.heap.size w1 (w1.alloc (.cells #[.int .i32 9] 21)) := (Below.refl _ _).alloc (Nat.le_refl _) _
  have x3 : Below w1.heap.size w1 ((w1.alloc (.cells #[.int .i32 9] 21)).alloc (.cells #[.int .i64 1, .int .i64 5, .slice (some ⟨w1.heap.size, 0, none⟩) 1 1] 64)) := x2.alloc x2.size _
  have R2 := new2 w1 21 64 #[.int .i32 9] #[.int .i64 1, .int .i64 5, .slice (some ⟨w1.heap.size, 0, none⟩) 1 1]
  have hrow : RowsAt ptcs 3 ((w1.alloc (.cells #[.int .i32 9] 21)).alloc (.cells #[.int .i64 1, .int .i64 5, .slice (some ⟨w1.heap.size, 0, none⟩) 1 1] 64)) (some ⟨w1.heap.size + 1, 0, none⟩) [⟨1, 5, some ⟨w1.heap.size, 0, none⟩, 1, 1, [9]⟩] := rows_of_block ptcs_len R2.2.1 rfl
  have hok : PtOk ((w1.alloc (.cells #[.int .i32 9] 21)).alloc (.cells #[.int .i64 1, .int .i64 5, .slice (some ⟨w1.heap.size, 0, none⟩) 1 1] 64)) ⟨1, 5, some ⟨w1.heap.size, 0, none⟩, 1, 1, [9]⟩ := ⟨rfl, (show 1 ≤ maxLen by unfold maxLen; omega), ⟨Nat.le_refl _, fun h => by cases h⟩, i32_of R2.1 rfl, (show Lit.wf (.int .i64 1) by decide), (show Lit.wf (.int .i64 5) by decide)⟩
  have CO := Lib.hid (cOf_any (.pointer (some ⟨tb, 0, none⟩)) (wid zeroL wideL) (some ⟨w1.heap.size + 1, 0, none⟩) 1 1 [⟨1, 5, some ⟨w1.heap.size, 0, none⟩, 1, 1, [9]⟩] 4 _ (TabV.of (ht1.below x3)) hrow rfl (by omega) (fun s hs => by rw [List.mem_singleton.1 hs]; exact hok) (fun s hs => by rw [List.mem_singleton.1 hs]; exact ⟨(show (0 : Int) ≤ 5 by decide), (show (5 : Int) ≤ 1099511627776 by decide), (show 1 ≤ 1000 by decide)⟩) (show 1 ≤ 10000 by decide) (by omega) (by omega))
  have HB3 := Lib.hid (hb1.trans (x3.mono hb1.size))
  clear x2 x3 R2 hrow hok hb1 ht1 CP
  go_wp2_with fail
  with_reducible refine (CO.out).mono ?_
  rintro e w4 ⟨hres, hb4⟩
  rcases hres with ⟨hk, m, v, rfl, ho⟩ | ⟨hk, _⟩
  case inr => exact absurd (fun s hs => by rw [List.mem_singleton.1 hs]; exact ⟨(show (1 : Int) ≤ 1 by decide), (show (1 : Int) ≤ 3 by decide)⟩) hk
  rw [show ofL (wid zeroL wideL) 4 (List.map pt [⟨1, 5, some ⟨w1.heap.size, 0, none⟩, 1, 1, [9]⟩]) = [⟨9, 1, 1, 5⟩, ⟨32, 4, 1, 5⟩, ⟨32, 4, 1, 5⟩, ⟨32, 4, 1, 5⟩] from four_ofL] at ho
  obtain rfl : 4 = m := own_len encC_len (by omega) ho
  obtain ⟨A4, c4, rfl, hR4, hL4, _⟩ := rows_of_own encC_len (by omega) ho
  have CW := Lib.hid (cWidth_any A4 4 c4 _ w4 hR4 rfl (by omega) (by decide))
  rw [show wsum [⟨9, 1, 1, 5⟩, ⟨32, 4, 1, 5⟩, ⟨32, 4, 1, 5⟩, ⟨32, 4, 1, 5⟩] = 4 from by decide] at CW
  obtain ⟨bA, off, rfl, hbA, a0, a1, a2, a3⟩ := hR4.cell4 (j := 0) (by decide)
  obtain ⟨bB, off', he, hbB, b0, b1, b2, b3⟩ := hR4.cell4 (j := 3) (by decide)
  injection he with he
  injection he with he1 he2
  subst he1
  subst he2
  have HB4 := Lib.hid (HB3.out.trans (hb4.mono HB3.out.size))
  simp at a0 a1 a2 a3 b0 b1 b2 b3
  clear hR4 hL4 ho hb4 CO HB3
  go_wp2_with fail
  with_reducible refine (CW.out).mono ?_
  rintro e w5 ⟨rfl, hb5⟩
  have HB5 := Lib.hid (HB4.out.trans (hb5.mono HB4.out.size))
  clear hb5
  go_wp2
  go_ret
  exact ⟨rfl, HB5.out⟩
end Go.Proofs.YtbalafgoengppaaDoor
