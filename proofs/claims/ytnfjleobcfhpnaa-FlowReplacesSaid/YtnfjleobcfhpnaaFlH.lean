/- Flow: the line of a row: spot, of, ByRow. -/
import Derived.Test.YtnfjleobcfhpnaaFlG
namespace Go.Proofs.Ytnfjleobcfhpnaa
open Go.RowKit
set_option linter.unusedVariables false
theorem gen_world3 {K : World → Prop} {W w : World} {B b b' b'' : Nat} {t t' t'' : TypeId} {cs cs' cs'' : Array Value} (h1 : Below B w W) (h2 : RawAt t W b cs) (h3 : RawAt t' W b' cs') (h4 : RawAt t'' W b'' cs'') (h : ∀ W1, Below B w W1 → RawAt t W1 b cs → RawAt t' W1 b' cs' → RawAt t'' W1 b'' cs'' → K W1) : K W := h W h1 h2 h3 h4
set_option maxHeartbeats 8000000 in
set_option maxRecDepth 100000 in
theorem flspot {p : Option Addr} {l : List Ln} {h : Nat} {w : World} (ht : FlAt w p l h) (hl : Loks l) (hz : l.length ≤ 1000000) (row : Int) (h0 : 0 ≤ row) (h1 : row < (lsum l).r) :
    Calls Try.prog 80 #[.pointer p, .agg #[.int .i64 2, .int .i64 row]] w fun e w' => ∃ (k : Nat), RowIs l row k ∧ e = .returned (.tuple #[.agg #[.int .i64 k, .int .i64 (row - (lsum (l.take k)).r), .int .i64 (lsum (l.take k)).r, .int .i64 (lsum (l.take k)).s, .int .i64 (lsum (l.take k)).b], .int .i64 0]) ∧ Below w.heap.size w w' := by
  obtain ⟨q, hq, hk⟩ := flkept ht
  have hbd := (lsum_bd l hl hz).2.2
  unfold Small at hbd
  have CK := Lib.hid hk
  have CF := Lib.hid fun (W : World) (hW : Below w.heap.size w W) => flfind (hq.below hW) hl hz row h0 h1
  have CP := Lib.hid fun (k : Nat) (s b m p' z : Int) (W : World) (hr : RowIs l row k) => flspotOf row k k s b (lsum (l.take k)).r m p' z W (by have := hr.lo; have := (lsum_nn _ (hl.take_ k)).2.2.1; omega) (by have := hr.lo; omega)
  have hmf : ∀ (fn : Fn) (first cap : Array Value) (w : World), (Instr.makeFunc fn first cap).run Try.prog w = .ok (.func fn first cap) w := fun _ _ _ _ => rfl
  have x1 : RawAt 117 ((w.alloc (.cells #[.int .i64 2, .int .i64 row] 117)).alloc (.cells #[.int .i64 0, .int .i64 0, .int .i64 0, .int .i64 0, .int .i64 0] 75)) w.heap.size #[.int .i64 2, .int .i64 row] := (new2 w _ _ _ _).1
  have x2 : RawAt 75 ((w.alloc (.cells #[.int .i64 2, .int .i64 row] 117)).alloc (.cells #[.int .i64 0, .int .i64 0, .int .i64 0, .int .i64 0, .int .i64 0] 75)) (w.heap.size + 1) #[.int .i64 0, .int .i64 0, .int .i64 0, .int .i64 0, .int .i64 0] := (new2 w _ _ _ _).2.1
  have xb : Below w.heap.size w ((w.alloc (.cells #[.int .i64 2, .int .i64 row] 117)).alloc (.cells #[.int .i64 0, .int .i64 0, .int .i64 0, .int .i64 0, .int .i64 0] 75)) := ((Below.refl _ _).alloc (Nat.le_refl _) _).alloc (by simp) _
  have hsz : ((w.alloc (.cells #[.int .i64 2, .int .i64 row] 117)).alloc (.cells #[.int .i64 0, .int .i64 0, .int .i64 0, .int .i64 0, .int .i64 0] 75)).heap.size = w.heap.size + 2 := by simp
  obtain ⟨W0, hW0⟩ : ∃ W0, W0 = ((w.alloc (.cells #[.int .i64 2, .int .i64 row] 117)).alloc (.cells #[.int .i64 0, .int .i64 0, .int .i64 0, .int .i64 0, .int .i64 0] 75)) := ⟨_, rfl⟩
  rw [← hW0] at x1 x2 xb hsz
  have HW0 := Lib.hid hW0
  have HX1 := Lib.hid x1
  have HX2 := Lib.hid x2
  have c0 := RawAt.cell x1 0
  have c1 := RawAt.cell x1 1
  simp at c0 c1
  have HXB := Lib.hid xb
  have HSZ := Lib.hid hsz
  have hle0 : w.heap.size ≤ W0.heap.size := xb.size
  have hlt1 : w.heap.size < W0.heap.size := x1.lt
  have hlt2 : w.heap.size + 1 < W0.heap.size := x2.lt
  clear hk hq ht hW0 x1 x2 xb h0 h1 hbd hsz
  go_enter Try.func80, Try.ntmps80
  go_wp2_with fail
  rw [← HW0.out]
  have h0b : Below w.heap.size w W0 := HXB.out
  go_region_with (first
    | (go_at_call 58; ((with_reducible refine (CK.out _ (by (repeat' (first | (with_reducible exact h0b) | (with_reducible refine Below.drew ?_) | (with_reducible refine Below.alloc ?_ ?_ _))) <;> first | exact Nat.le_refl _ | exact hle0 | (simp; done) | (simp; omega) | omega)).mono ?_); rintro e w1 ⟨rfl, hw1⟩); have hw1 := hw1.symm; subst hw1)
    | (go_at_call 101; ((with_reducible refine (CF.out _ (by (repeat' (first | (with_reducible exact h0b) | (with_reducible refine Below.drew ?_) | (with_reducible refine Below.alloc ?_ ?_ _))) <;> first | exact Nat.le_refl _ | exact hle0 | (simp; done) | (simp; omega) | omega)).mono ?_); rintro e w2 ⟨k, s, b, m, p', z, hr, rfl, hs, hb, b2⟩); have HRR := Lib.hid hr; have HS := Lib.hid hs; have HB := Lib.hid hb; have HPK := Lib.hid fun (W : World) => CP.out k s b m p' z W hr; have a2 := (show Below w.heap.size w _ by (repeat' (first | (with_reducible exact h0b) | (with_reducible refine Below.drew ?_) | (with_reducible refine Below.alloc ?_ ?_ _))) <;> first | exact Nat.le_refl _ | exact hle0 | (simp; done) | (simp; omega) | omega).trans (b2.mono (by first | exact hle0 | omega | (simp; omega))); clear hr hs hb; obtain ⟨rr, hrr⟩ : ∃ rr, rr = (lsum (l.take k)).r := ⟨_, rfl⟩; have HRE := Lib.hid hrr; rw [← hrr] at HPK ⊢; clear hrr; (first
      | (have RI : RawAt 171 w2 W0.heap.size #[.int .i64 0, .int .i64 0, .int .i64 0, .int .i64 0, .int .i64 0, .int .i64 0, .int .i64 0, .int .i64 0] := RawAt.below (RawAt.drew_ (heap_alloc_new W0 _)) b2 (by simp); have RA : RawAt 117 w2 w.heap.size #[.int .i64 2, .int .i64 row] := RawAt.below (RawAt.drew_ (RawAt.below HX1.out ((Below.refl _ _).alloc (Nat.le_refl _) _) HX1.out.lt)) b2 (by first | exact hlt1 | exact hlt2 | (simp; omega) | omega); have RS : RawAt 75 w2 (w.heap.size + 1) #[.int .i64 0, .int .i64 0, .int .i64 0, .int .i64 0, .int .i64 0] := RawAt.below (RawAt.drew_ (RawAt.below HX2.out ((Below.refl _ _).alloc (Nat.le_refl _) _) HX2.out.lt)) b2 (by first | exact hlt1 | exact hlt2 | (simp; omega) | omega); have y0 := RawAt.free RI 0; have y1 := RawAt.free RI 1; have y2 := RawAt.free RI 2; have y3 := RawAt.free RI 3; have y4 := RawAt.free RI 4; have y5 := RawAt.free RI 5; have y6 := RawAt.free RI 6; have y7 := RawAt.free RI 7; obtain ⟨q0, q1, q2, q3, q4, q5, q6, q7⟩ := raw_eight RI)
      | (have RA : RawAt 117 w2 w.heap.size #[.int .i64 2, .int .i64 row] := RawAt.below (RawAt.drew_ HX1.out) b2 (by first | exact hlt1 | exact hlt2 | (simp; omega) | omega); have RS : RawAt 75 w2 (w.heap.size + 1) #[.int .i64 0, .int .i64 0, .int .i64 0, .int .i64 0, .int .i64 0] := RawAt.below (RawAt.drew_ HX2.out) b2 (by first | exact hlt1 | exact hlt2 | (simp; omega) | omega)))))
  all_goals clear CK CF c0 c1
  all_goals first
    | (refine gen_world3 (B := w.heap.size) (w := w) (b := W0.heap.size) (b' := w.heap.size) (b'' := w.heap.size + 1) (cs := #[.int .i64 k, .int .i64 k, .int .i64 s, .int .i64 b, .int .i64 rr, .int .i64 m, .int .i64 p', .int .i64 z]) ?_ (((((((((RI.set_ 0 (.int .i64 k)).set_ 1 (.int .i64 k)).set_ 2 (.int .i64 s)).set_ 3 (.int .i64 b)).set_ 4 (.int .i64 rr)).set_ 5 (.int .i64 m)).set_ 6 (.int .i64 p')).set_ 7 (.int .i64 z)).of_eq (by simp)) ((((((((RA.set_other (by omega) 0 (.int .i64 k)).set_other (by omega) 1 (.int .i64 k)).set_other (by omega) 2 (.int .i64 s)).set_other (by omega) 3 (.int .i64 b)).set_other (by omega) 4 (.int .i64 rr)).set_other (by omega) 5 (.int .i64 m)).set_other (by omega) 6 (.int .i64 p')).set_other (by omega) 7 (.int .i64 z)) ((((((((RS.set_other (by omega) 0 (.int .i64 k)).set_other (by omega) 1 (.int .i64 k)).set_other (by omega) 2 (.int .i64 s)).set_other (by omega) 3 (.int .i64 b)).set_other (by omega) 4 (.int .i64 rr)).set_other (by omega) 5 (.int .i64 m)).set_other (by omega) 6 (.int .i64 p')).set_other (by omega) 7 (.int .i64 z)) ?_
       · ((repeat' (first | (with_reducible exact a2) | (with_reducible refine Below.setCell ?_ ?_ _))) <;> (simp; omega)))
    | (refine gen_world3 (B := w.heap.size) (w := w) (b := w2.heap.size) (b' := w.heap.size) (b'' := w.heap.size + 1) (cs := #[.int .i64 k, .int .i64 k, .int .i64 s, .int .i64 b, .int .i64 rr, .int .i64 m, .int .i64 p', .int .i64 z]) ?_ (heap_alloc_new w2 _) (RawAt.below RA ((Below.refl _ _).alloc (Nat.le_refl _) _) (RawAt.lt RA)) (RawAt.below RS ((Below.refl _ _).alloc (Nat.le_refl _) _) (RawAt.lt RS)) ?_
       · exact a2.alloc a2.size _)
  all_goals
    intro W1 hB RI' RA' RS'
    obtain ⟨q0, q1, q2, q3, q4, q5, q6, q7⟩ := raw_eight RI'
    have c0 := RawAt.cell RA' 0
    have c1 := RawAt.cell RA' 1
    simp at c0 c1
    have HB1 := Lib.hid hB
    have HS1 := Lib.hid RS'
    clear RI' RA' RS' hB
    go_wp2_with fail
    with_reducible refine (HPK.out _).mono ?_
    rintro e w5 ⟨rfl, b5⟩
    have s5 := HS1.out.below b5 HS1.out.lt
    have z0 := RawAt.cell s5 0
    have z1 := RawAt.cell s5 1
    have z2 := RawAt.cell s5 2
    have z3 := RawAt.cell s5 3
    have z4 := RawAt.cell s5 4
    have f0 := s5.free 0
    have f1 := s5.free 1
    have f2 := s5.free 2
    have f3 := s5.free 3
    have f4 := s5.free 4
    simp at z0 z1 z2 z3 z4
    have HB5 := Lib.hid (HB1.out.trans (b5.mono HB1.out.size))
    clear s5 b5 HPK
    go_wp2
    refine bodyPost_ret (v := .tuple #[.agg #[.int .i64 k, .int .i64 (row - rr), .int .i64 rr, .int .i64 s, .int .i64 b], .int .i64 0]) (by simp [results, Try.results80, go_sem, z0, z1, z2, z3, z4]) rfl ⟨k, HRR.out, by rw [HRE.out, HS.out, HB.out], ?_⟩
    (repeat' (first | (with_reducible exact HB5.out) | (with_reducible refine Below.setCell ?_ ?_ _) | (with_reducible refine Below.drew ?_))) <;> first | exact Nat.le_refl _ | (simp; done) | (simp; omega)
end Go.Proofs.Ytnfjleobcfhpnaa
