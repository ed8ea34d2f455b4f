/- Flow: the line of a row: find, spotOf, spot, of, ByRow. -/
import Derived.Test.YtnfjleobcfhpnaaFlC
namespace Go.Proofs.Ytnfjleobcfhpnaa
open Go.RowKit
set_option linter.unusedVariables false
/-- What is found for a row: the line's number, and what is ahead of it. -/
theorem flfindrow {q : Option Addr} {l : List Ln} {h : Nat} {w : World} (ht : TP w q (l.map itm) h) (hl : Loks l) (row : Int) (h0 : 0 ≤ row) (h1 : row < (lsum l).r) :
    Calls Try.prog 119 #[.pointer q, .int .i64 2, .int .i64 row, .int .i64 1] w fun e w' => ∃ (k : Nat) (s b m p z : Int), RowIs l row k ∧ e = .returned (.tuple #[.agg #[.int .i64 k, .int .i64 k, .int .i64 s, .int .i64 b, .int .i64 (lsum (l.take k)).r, .int .i64 m, .int .i64 p, .int .i64 z], .int .i64 0]) ∧ s = (lsum (l.take k)).s ∧ b = (lsum (l.take k)).b ∧ Below w.heap.size w w' := by
  have hrows : sdim (l.map itm) 2 = (lsum l).r := (lsum_all _ l rfl hl).2.2.1
  refine (tfind_any q (l.map itm) h 2 row 1 w ht ⟨by omega, by omega, h0, by show row ≤ sdim (l.map itm) 2; omega, .inr rfl⟩).mono ?_
  rintro e w' ⟨k, z, hf, _, _, rfl, hb⟩
  have hr := row_find hl h0 h1 hf
  obtain ⟨e0, e1, e2, e3, _⟩ := lsum_all _ (l.take k) rfl (hl.take_ k)
  have hn : (sall ((l.take k).map itm)).n = k := by
    have := (sall_ok _ _ rfl (hl.take_ k).its).1
    rw [List.length_map, List.length_take, Nat.min_eq_left (Nat.le_of_lt hr.lt)] at this
    exact this
  refine ⟨k, _, _, (sall ((l.take k).map itm)).mx, (sall ((l.take k).map itm)).pl, z, hr, ?_, rfl, rfl, hb⟩
  rw [← List.map_take]
  unfold vcs
  rw [hn, e0, e1, e2]
set_option maxHeartbeats 8000000 in
set_option maxRecDepth 100000 in
theorem flfind {q : Option Addr} {l : List Ln} {h : Nat} {w : World} (ht : TP w q (l.map itm) h) (hl : Loks l) (hz : l.length ≤ 1000000) (row : Int) (h0 : 0 ≤ row) (h1 : row < (lsum l).r) :
    Calls Try.prog 101 #[.agg #[.int .i64 2, .int .i64 row], .pointer q] w fun e w' => ∃ (k : Nat) (s b m p z : Int), RowIs l row k ∧ e = .returned (.tuple #[.agg #[.int .i64 k, .int .i64 k, .int .i64 s, .int .i64 b, .int .i64 (lsum (l.take k)).r, .int .i64 m, .int .i64 p, .int .i64 z], .int .i64 0]) ∧ s = (lsum (l.take k)).s ∧ b = (lsum (l.take k)).b ∧ Below w.heap.size w w' := by
  obtain ⟨pl, _, hs⟩ := flnum ht hl
  have hbd := (lsum_bd l hl hz).2.2
  unfold Small at hbd
  have hlen : 0 < l.length := by
    rcases Nat.eq_zero_or_pos l.length with e | e
    · rw [List.eq_nil_of_length_eq_zero e] at h1; simp [lsum] at h1; omega
    · exact e
  have x1 : RawAt 117 ((w.alloc (.cells #[.int .i64 2, .int .i64 row] 117)).alloc (.cells #[.int .i64 0, .int .i64 0, .int .i64 0, .int .i64 0, .int .i64 0, .int .i64 0, .int .i64 0, .int .i64 0] 171)) w.heap.size #[.int .i64 2, .int .i64 row] := (new2 w _ _ _ _).1
  have x2 : RawAt 171 ((w.alloc (.cells #[.int .i64 2, .int .i64 row] 117)).alloc (.cells #[.int .i64 0, .int .i64 0, .int .i64 0, .int .i64 0, .int .i64 0, .int .i64 0, .int .i64 0, .int .i64 0] 171)) (w.heap.size + 1) #[.int .i64 0, .int .i64 0, .int .i64 0, .int .i64 0, .int .i64 0, .int .i64 0, .int .i64 0, .int .i64 0] := (new2 w _ _ _ _).2.1
  have xb : Below w.heap.size w ((w.alloc (.cells #[.int .i64 2, .int .i64 row] 117)).alloc (.cells #[.int .i64 0, .int .i64 0, .int .i64 0, .int .i64 0, .int .i64 0, .int .i64 0, .int .i64 0, .int .i64 0] 171)) := ((Below.refl _ _).alloc (Nat.le_refl _) _).alloc (by simp) _
  obtain ⟨W2, hW2⟩ : ∃ W2, W2 = ((w.alloc (.cells #[.int .i64 2, .int .i64 row] 117)).alloc (.cells #[.int .i64 0, .int .i64 0, .int .i64 0, .int .i64 0, .int .i64 0, .int .i64 0, .int .i64 0, .int .i64 0] 171)) := ⟨_, rfl⟩
  rw [← hW2] at x1 x2 xb
  have CS := Lib.hid fun (W : World) (hW : Below W2.heap.size W2 W) => hs W (xb.trans (hW.mono xb.size))
  have CF := Lib.hid fun (W : World) (hW : Below w.heap.size w W) => flfindrow (ht.below hW) hl row h0 h1
  have CI := Lib.hid fun (s b m p : Int) (W : World) => flinside row l.length s b (lsum l).r m p W (by omega) (by omega)
  have HW2 := Lib.hid hW2
  have HX1 := Lib.hid x1
  have HX2 := Lib.hid x2
  have HXB := Lib.hid xb
  clear hs ht hW2 x1 x2 xb
  generalize lsum l = S at *
  generalize hn : l.length = n at *
  clear hn
  have k1 : decide ((0 : Int) < (n : Int)) = true := decide_eq_true (by omega)
  have k2 : decide (row - S.r = 0) = false := decide_eq_false (by omega)
  have k3 : (row - S.r == 0) = false := by simp; omega
  have k4 : decide ((n : Int) > 0) = true := decide_eq_true (by omega)
  have k5 : ¬ n = 0 := by omega
  have k6 : decide (0 < n) = true := decide_eq_true hlen
  have k7 : decide (n = 0) = false := decide_eq_false k5
  clear h0 h1 hbd
  go_enter Try.func101, Try.ntmps101
  go_wp2_with fail
  rw [← HW2.out]
  refine (CS.out _ (Below.refl _ _)).mono ?_
  rintro e w3 ⟨rfl, b3⟩
  have R4 : RawAt 128 (w3.alloc (.cells #[.int .i64 n, .int .i64 S.s, .int .i64 S.b, .int .i64 S.r, .int .i64 S.wd, .int .i64 pl] 128)) w3.heap.size #[.int .i64 n, .int .i64 S.s, .int .i64 S.b, .int .i64 S.r, .int .i64 S.wd, .int .i64 pl] := heap_alloc_new w3 _
  have x4 : Below w3.heap.size w3 (w3.alloc (.cells #[.int .i64 n, .int .i64 S.s, .int .i64 S.b, .int .i64 S.r, .int .i64 S.wd, .int .i64 pl] 128)) := (Below.refl _ _).alloc (Nat.le_refl _) _
  have q1 := (HX1.out.below b3 HX1.out.lt).below x4 (HX1.out.below b3 HX1.out.lt).lt
  have q2 := (HX2.out.below b3 HX2.out.lt).below x4 (HX2.out.below b3 HX2.out.lt).lt
  have c0 := RawAt.cell R4 0
  have c1 := RawAt.cell R4 1
  have c2 := RawAt.cell R4 2
  have c3 := RawAt.cell R4 3
  have c4 := RawAt.cell R4 4
  have c5 := RawAt.cell R4 5
  have d0 := RawAt.cell q1 0
  have d1 := RawAt.cell q1 1
  simp at c0 c1 c2 c3 c4 c5 d0 d1
  have HB4 := Lib.hid (HXB.out.trans ((b3.trans (x4.mono b3.size)).mono HXB.out.size))
  have HQ1 := Lib.hid q1
  have HQ2 := Lib.hid q2
  clear R4 x4 q1 q2 b3 CS
  go_wp2_with fail
  refine (CI.out _ _ _ _ _).mono ?_
  rintro e w5 ⟨rfl, b5⟩
  have q1 := HQ1.out.below b5 HQ1.out.lt
  have d0 := RawAt.cell q1 0
  have d1 := RawAt.cell q1 1
  simp at d0 d1
  have HB5 := Lib.hid (HB4.out.trans (b5.mono HB4.out.size))
  have HQ2 := Lib.hid (HQ2.out.below b5 HQ2.out.lt)
  clear q1 b5 HQ1 c0 c1 c2 c3 c4 c5 CI
  go_wp2_with fail
  refine (CF.out _ HB5.out).mono ?_
  rintro e w6 ⟨k, s, b, m, p, z, hr, rfl, hs, hbb, b6⟩
  have q2 := HQ2.out.below b6 HQ2.out.lt
  have HR := Lib.hid hr
  have HS := Lib.hid hs
  have HBB := Lib.hid hbb
  have HB6 := Lib.hid (HB5.out.trans (b6.mono HB5.out.size))
  obtain ⟨y0, y1, y2, y3, y4, y5, y6, y7⟩ := raw_eight q2
  have f0 := q2.free 0
  have f1 := q2.free 1
  have f2 := q2.free 2
  have f3 := q2.free 3
  have f4 := q2.free 4
  have f5 := q2.free 5
  have f6 := q2.free 6
  have f7 := q2.free 7
  clear q2 hr hs hbb b6 HQ2 CF d0 d1
  obtain ⟨rr, hrr⟩ : ∃ rr, rr = (lsum (l.take k)).r := ⟨_, rfl⟩
  have HRR := Lib.hid hrr
  rw [← hrr]
  clear hrr
  go_wp2
  refine bodyPost_ret (v := .tuple #[.agg #[.int .i64 k, .int .i64 k, .int .i64 s, .int .i64 b, .int .i64 rr, .int .i64 m, .int .i64 p, .int .i64 z], .int .i64 0]) (by simp [results, Try.results101, go_sem, y0, y1, y2, y3, y4, y5, y6, y7]) rfl ⟨k, s, b, m, p, z, HR.out, by rw [HRR.out], HS.out, HBB.out, ?_⟩
  (repeat' (first | (with_reducible exact HB6.out) | (with_reducible refine Below.setCell ?_ ?_ _) | (with_reducible refine Below.drew ?_))) <;> first | exact Nat.le_refl _ | (simp; done) | (simp; omega)
end Go.Proofs.Ytnfjleobcfhpnaa
