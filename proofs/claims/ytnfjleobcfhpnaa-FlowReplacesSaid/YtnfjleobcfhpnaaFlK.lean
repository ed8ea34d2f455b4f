/- Flow: the law's six. -/
import Derived.Test.YtnfjleobcfhpnaaFlJ
namespace Go.Proofs.Ytnfjleobcfhpnaa
open Go.RowKit
set_option linter.unusedVariables false
theorem flo_one {w : World} {p : Option Addr} {l : List Ln} {h : Nat} (ht : FlAt w p l h) (h0 : 0 < l.length) (h1 : l.length < 8) : h = 1 := by
  have key : ∀ q, TP w q (l.map itm) h → h = 1 := fun q hq => by
    obtain ⟨a1, a2, _, _⟩ := tp_facts hq
    rw [List.length_map] at a1 a2
    by_cases g : 2 ≤ h
    · have q1 := a2 g
      have q2 := four_succ (h - 2)
      have q3 := four_pos (h - 2)
      rw [show h - 1 = h - 2 + 1 from by omega] at q1
      omega
    · have : h ≠ 0 := fun e => by have := a1.1 e; omega
      omega
  rcases ht with ⟨rfl, rfl, rfl⟩ | ⟨b, q, h1, h2, h3⟩
  · simp at h0
  · exact key q h3
def six3 : List Ln := [⟨0, 0, 3, 4⟩, ⟨0, 0, 1, 5⟩, ⟨0, 0, 2, 5⟩]
theorem six3_ok : Loks six3 := by decide
theorem six3_row {k : Nat} (h : RowIs six3 4 k) : k = 2 := by
  have h1 := h.lt
  have h2 := h.lo
  have h3 := h.hi
  have h4 : k < 3 := h1
  obtain rfl | rfl | rfl : k = 0 ∨ k = 1 ∨ k = 2 := by omega
  · have h3 : (4 : Int) < 0 + 3 := h3
    omega
  · have h3 : (4 : Int) < 3 + 1 := h3
    omega
  · rfl
theorem six3_wid {i : Nat} (h : Widest six3 i) : i = 1 := by
  refine h.unique ⟨fun _ => by decide, fun h => (by cases h), fun _ => (by show (5 : Int) = (lsum six3).wd; decide), fun j hj hlt => ?_⟩
  obtain rfl : j = 0 := by omega
  show (4 : Int) ≠ (lsum six3).wd
  decide
set_option maxHeartbeats 8000000 in
set_option maxRecDepth 100000 in
theorem flsix (w : World) : Calls Try.prog 25 #[] w fun e w' => e = .returned (.bool true) ∧ Below w.heap.size w w' := by
  have x1 : Below w.heap.size w (w.alloc (.cells #[.int .i64 0, .int .i64 0, .int .i64 3, .int .i64 4, .int .i64 0, .int .i64 0, .int .i64 1, .int .i64 5, .int .i64 0, .int .i64 0, .int .i64 2, .int .i64 5] 78)) := (Below.refl _ _).alloc (Nat.le_refl _) _
  have CN := Lib.hid (flnew (some ⟨w.heap.size, 0, none⟩) 3 3 six3 (w.alloc (.cells #[.int .i64 0, .int .i64 0, .int .i64 3, .int .i64 4, .int .i64 0, .int .i64 0, .int .i64 1, .int .i64 5, .int .i64 0, .int .i64 0, .int .i64 2, .int .i64 5] 78)) (rows_of_block (enc := encL) (k := 4) encL_len (heap_alloc_new w _) (l := six3) rfl) rfl (by omega))
  have X1 := Lib.hid x1
  clear x1
  go_enter Try.func25, Try.ntmps25
  go_wp2_with fail
  with_reducible refine CN.out.mono ?_
  intro e w1 hr
  obtain ⟨b1, ⟨_, a, h, rfl, hF⟩ | ⟨hno, rfl⟩⟩ := hr
  rotate_left
  · exact absurd six3_ok hno
  have HB1 := Lib.hid (X1.out.trans (b1.mono X1.out.size))
  have hh := flo_one hF (by decide) (by decide)
  subst hh
  have CB := Lib.hid (flbyrow hF six3_ok (by decide) 4 (by omega) (by decide))
  have CW := Lib.hid fun (W : World) (hW : Below w1.heap.size w1 W) => flwidest (hF.below hW) six3_ok
  have CC := Lib.hid fun (W : World) (hW : Below w1.heap.size w1 W) => flcount (hF.below hW) six3_ok
  have CH := Lib.hid fun (W : World) (hW : Below w1.heap.size w1 W) => flheight (hF.below hW)
  rw [show six3.length = 3 from rfl] at CC
  clear hF b1 CN
  go_wp2_with fail
  with_reducible refine CB.out.mono ?_
  rintro e w2 ⟨k, hk, rfl, b2⟩
  obtain rfl := six3_row hk
  rw [show lsum (six3.take 2) = ⟨0, 0, 4, 5⟩ from by decide]
  have R3 : RawAt 75 (w2.alloc (.cells #[.int .i64 2, .int .i64 0, .int .i64 4, .int .i64 0, .int .i64 0] 75)) w2.heap.size #[.int .i64 2, .int .i64 0, .int .i64 4, .int .i64 0, .int .i64 0] := heap_alloc_new w2 _
  have x3 : Below w2.heap.size w2 (w2.alloc (.cells #[.int .i64 2, .int .i64 0, .int .i64 4, .int .i64 0, .int .i64 0] 75)) := (Below.refl _ _).alloc (Nat.le_refl _) _
  have HB3 := Lib.hid (b2.trans (x3.mono b2.size))
  have HR3 := Lib.hid R3
  obtain ⟨pl, hp, cw⟩ := CW.out _ HB3.out
  obtain rfl := six3_wid hp
  rw [show (lsum six3).wd = 5 from by decide] at cw
  have CW2 := Lib.hid cw
  clear CB hk b2 x3 R3 hp cw CW
  go_wp2_with fail
  with_reducible refine CW2.out.mono ?_
  rintro e w4 ⟨rfl, b4⟩
  have q3 := HR3.out.below b4 HR3.out.lt
  have c0 := RawAt.cell q3 0
  have c1 := RawAt.cell q3 1
  have c2 := RawAt.cell q3 2
  have c3 := RawAt.cell q3 3
  have c4 := RawAt.cell q3 4
  simp at c0 c1 c2 c3 c4
  have HB4 := Lib.hid (HB3.out.trans (b4.mono HB3.out.size))
  clear q3 b4 CW2
  go_wp2_with fail
  with_reducible refine (CC.out _ HB4.out).mono ?_
  rintro e w5 ⟨rfl, b5⟩
  have HB5 := Lib.hid (HB4.out.trans (b5.mono HB4.out.size))
  clear b5 c0 c1 c2 c3 c4
  go_wp2_with fail
  with_reducible refine (CH.out _ HB5.out).mono ?_
  rintro e w6 ⟨rfl, b6⟩
  have HB6 := HB5.out.trans (b6.mono HB5.out.size)
  have HB7 := Lib.hid (HB1.out.trans (HB6.mono HB1.out.size))
  clear b6 HB6
  go_wp2
  go_ret
  exact ⟨rfl, HB7.out⟩
end Go.Proofs.Ytnfjleobcfhpnaa
