/- The sum of items and, behind them, others: the contract of item.Add. -/
import Derived.Test.YtpnjokhhbjpciaaGreatDoorItBase
import Derived.RegionTactic
import Derived.ChangeAlike
namespace Go.Proofs.YtpnjokhhbjpciaaGreatDoor
open Go.RowKit
theorem new4 (w : World) (t1 t2 t3 t4 : TypeId) (c1 c2 c3 c4 : Array Value) :
    RawAt t1 ((((w.alloc (.cells c1 t1)).alloc (.cells c2 t2)).alloc (.cells c3 t3)).alloc (.cells c4 t4)) w.heap.size c1 ∧ RawAt t2 ((((w.alloc (.cells c1 t1)).alloc (.cells c2 t2)).alloc (.cells c3 t3)).alloc (.cells c4 t4)) (w.heap.size + 1) c2 ∧
    RawAt t3 ((((w.alloc (.cells c1 t1)).alloc (.cells c2 t2)).alloc (.cells c3 t3)).alloc (.cells c4 t4)) (w.heap.size + 1 + 1) c3 ∧ RawAt t4 ((((w.alloc (.cells c1 t1)).alloc (.cells c2 t2)).alloc (.cells c3 t3)).alloc (.cells c4 t4)) (w.heap.size + 1 + 1 + 1) c4 ∧
    Below w.heap.size w ((((w.alloc (.cells c1 t1)).alloc (.cells c2 t2)).alloc (.cells c3 t3)).alloc (.cells c4 t4)) := by
  obtain ⟨h1, h2, h3, h4⟩ := new2 w t1 t2 c1 c2
  have s2 : ((w.alloc (.cells c1 t1)).alloc (.cells c2 t2)).heap.size = w.heap.size + 1 + 1 := h4
  obtain ⟨g1, g2, g3, g4⟩ := new2 ((w.alloc (.cells c1 t1)).alloc (.cells c2 t2)) t3 t4 c3 c4
  rw [s2] at g1 g2 g3
  exact ⟨h1.below g3 (by omega), h2.below g3 (by omega), g1, g2, h3.trans (g3.mono (by omega))⟩
set_option maxHeartbeats 2000000 in
theorem iadd_z (a b : S6) (ha : a.n = 0) (w : World) : Calls Tryz.prog 100 #[.agg (scs a), .agg (scs b)] w fun e w' => e = .returned (.agg (scs b)) ∧ Below w.heap.size w w' := by
  obtain ⟨an, a0, a1, a2, am, ap⟩ := a
  obtain ⟨bn, b0, b1, b2, bm, bp⟩ := b
  simp only at ha
  subst ha
  unfold scs
  go_enter Tryz.func100, Tryz.ntmps100
  go_wp2
  refine bodyPost_ret (v := .agg #[.int .i64 bn, .int .i64 b0, .int .i64 b1, .int .i64 b2, .int .i64 bm, .int .i64 bp]) (by simp [results, Tryz.results100, go_sem]) rfl ⟨rfl, ?_⟩
  (repeat' (first | (with_reducible exact Below.refl _ _) | (with_reducible refine Below.setCell ?_ ?_ _) | (with_reducible refine Below.drew ?_) | (with_reducible refine Below.alloc ?_ ?_ _))) <;> first | exact Nat.le_refl _ | (simp; done) | (simp; omega)
set_option maxHeartbeats 2000000 in
theorem iadd_w (a b : S6) (ha : a.n ≠ 0) (hb : b.n = 0) (w : World) : Calls Tryz.prog 100 #[.agg (scs a), .agg (scs b)] w fun e w' => e = .returned (.agg (scs a)) ∧ Below w.heap.size w w' := by
  obtain ⟨an, a0, a1, a2, am, ap⟩ := a
  obtain ⟨bn, b0, b1, b2, bm, bp⟩ := b
  simp only at ha hb
  subst hb
  have k1 : (an == 0) = false := by simpa using ha
  clear ha
  unfold scs
  go_enter Tryz.func100, Tryz.ntmps100
  go_wp2
  refine bodyPost_ret (v := .agg #[.int .i64 an, .int .i64 a0, .int .i64 a1, .int .i64 a2, .int .i64 am, .int .i64 ap]) (by simp [results, Tryz.results100, go_sem]) rfl ⟨rfl, ?_⟩
  (repeat' (first | (with_reducible exact Below.refl _ _) | (with_reducible refine Below.setCell ?_ ?_ _) | (with_reducible refine Below.drew ?_) | (with_reducible refine Below.alloc ?_ ?_ _))) <;> first | exact Nat.le_refl _ | (simp; done) | (simp; omega)
/-- Numbers whose sums fit. -/
def Small (v : Int) : Prop := 0 ≤ v ∧ v ≤ 1152921504606846976
set_option maxHeartbeats 4000000 in
set_option maxRecDepth 100000 in
theorem iadd_s (an a0 a1 a2 am ap bn b0 b1 b2 bm bp : Int) (ha : an ≠ 0) (hb : bn ≠ 0) (an_ : Small an) (a0_ : Small a0) (a1_ : Small a1) (a2_ : Small a2) (bn_ : Small bn) (b0_ : Small b0) (b1_ : Small b1) (b2_ : Small b2) (bp_ : Small bp) (w : World) :
    Calls Tryz.prog 100 #[.agg (scs ⟨an, a0, a1, a2, am, ap⟩), .agg (scs ⟨bn, b0, b1, b2, bm, bp⟩)] w fun e w' => e = .returned (.agg (scs (sadd ⟨an, a0, a1, a2, am, ap⟩ ⟨bn, b0, b1, b2, bm, bp⟩))) ∧ Below w.heap.size w w' := by
  have HV := Lib.hid (sadd_s (a := ⟨an, a0, a1, a2, am, ap⟩) (b := ⟨bn, b0, b1, b2, bm, bp⟩) ha hb)
  obtain ⟨an1, an2⟩ := an_
  obtain ⟨a01, a02⟩ := a0_
  obtain ⟨a11, a12⟩ := a1_
  obtain ⟨a21, a22⟩ := a2_
  obtain ⟨bn1, bn2⟩ := bn_
  obtain ⟨b01, b02⟩ := b0_
  obtain ⟨b11, b12⟩ := b1_
  obtain ⟨b21, b22⟩ := b2_
  obtain ⟨bp1, bp2⟩ := bp_
  have k1 : (an == 0) = false := by simpa using ha
  have k2 : (bn == 0) = false := by simpa using hb
  clear ha hb
  unfold scs
  go_enter Tryz.func100, Tryz.ntmps100
  go_wp2
  obtain ⟨r0, r1, r2, r3, hb0⟩ := new4 w 129 129 129 129 (scs ⟨an, a0, a1, a2, am, ap⟩) (scs ⟨bn, b0, b1, b2, bm, bp⟩) (scs s0) (scs ⟨an + bn, a0, a1, a2, am, ap⟩)
  change Code.wp _ _ _ _ ((((w.alloc (.cells (scs ⟨an, a0, a1, a2, am, ap⟩) 129)).alloc (.cells (scs ⟨bn, b0, b1, b2, bm, bp⟩) 129)).alloc (.cells (scs s0) 129)).alloc (.cells (scs ⟨an + bn, a0, a1, a2, am, ap⟩) 129))
  generalize ((((w.alloc (.cells (scs ⟨an, a0, a1, a2, am, ap⟩) 129)).alloc (.cells (scs ⟨bn, b0, b1, b2, bm, bp⟩) 129)).alloc (.cells (scs s0) 129)).alloc (.cells (scs ⟨an + bn, a0, a1, a2, am, ap⟩) 129)) = W1 at *
  have R0 := Lib.hid r0; clear r0
  have R1 := Lib.hid r1; clear r1
  have R2 := Lib.hid r2; clear r2
  have R3 := Lib.hid r3; clear r3
  go_loopg [32] 3 (fun k v wr => ∃ j : Nat, v = .int .i64 j ∧ j ≤ 3 ∧ 3 - j ≤ k ∧ Below w.heap.size w wr ∧ Hid (RawAt 129 wr w.heap.size (scs ⟨an, a0, a1, a2, am, ap⟩)) ∧ Hid (RawAt 129 wr (w.heap.size + 1) (scs ⟨bn, b0, b1, b2, bm, bp⟩)) ∧ Hid (RawAt 129 wr (w.heap.size + 1 + 1) (scs s0)) ∧
      Hid (RawAt 129 wr (w.heap.size + 1 + 1 + 1) (scs ⟨an + bn, if 1 ≤ j then a0 + b0 else a0, if 2 ≤ j then a1 + b1 else a1, if 3 ≤ j then a2 + b2 else a2, am, ap⟩)))
  case atStart => exact ⟨0, rfl, by omega, by omega, hb0, R0, R1, R2, R3⟩
  case round =>
    obtain ⟨j, rfl, h1, h2, hb, hr0, hr1, hr2, hr3⟩ := hrel
    obtain rfl | rfl | rfl | rfl : j = 0 ∨ j = 1 ∨ j = 2 ∨ j = 3 := by omega
    · have hx := fun W => idx3_0 b0 b1 b2 W
      have c1 : wr.cell? ⟨w.heap.size + 1 + 1 + 1, 1, none⟩ = some (.int .i64 a0) := RawAt.cell hr3.out 1
      have f1 := RawAt.free hr3.out 1
      go_wp2
      go_roundg (gk - 1)
      case measure => omega
      case rel => exact ⟨1, rfl, by omega, by omega, hb.setCell (p := ⟨w.heap.size + 1 + 1 + 1, _, none⟩) (by show w.heap.size ≤ w.heap.size + 1 + 1 + 1; omega) _, RawAt.set_other hr0.out (by omega) _ _, RawAt.set_other hr1.out (by omega) _ _, RawAt.set_other hr2.out (by omega) _ _, (RawAt.set_ hr3.out _ _).of_eq (by simp [scs])⟩
    · have hx := fun W => idx3_1 b0 b1 b2 W
      have c2 : wr.cell? ⟨w.heap.size + 1 + 1 + 1, 2, none⟩ = some (.int .i64 a1) := RawAt.cell hr3.out 2
      have f2 := RawAt.free hr3.out 2
      go_wp2
      go_roundg (gk - 1)
      case measure => omega
      case rel => exact ⟨2, rfl, by omega, by omega, hb.setCell (p := ⟨w.heap.size + 1 + 1 + 1, _, none⟩) (by show w.heap.size ≤ w.heap.size + 1 + 1 + 1; omega) _, RawAt.set_other hr0.out (by omega) _ _, RawAt.set_other hr1.out (by omega) _ _, RawAt.set_other hr2.out (by omega) _ _, (RawAt.set_ hr3.out _ _).of_eq (by simp [scs])⟩
    · have hx := fun W => idx3_2 b0 b1 b2 W
      have c3 : wr.cell? ⟨w.heap.size + 1 + 1 + 1, 3, none⟩ = some (.int .i64 a2) := RawAt.cell hr3.out 3
      have f3 := RawAt.free hr3.out 3
      go_wp2
      go_roundg (gk - 1)
      case measure => omega
      case rel => exact ⟨3, rfl, by omega, by omega, hb.setCell (p := ⟨w.heap.size + 1 + 1 + 1, _, none⟩) (by show w.heap.size ≤ w.heap.size + 1 + 1 + 1; omega) _, RawAt.set_other hr0.out (by omega) _ _, RawAt.set_other hr1.out (by omega) _ _, RawAt.set_other hr2.out (by omega) _ _, (RawAt.set_ hr3.out _ _).of_eq (by simp [scs])⟩
    · have hs : RawAt 129 wr (w.heap.size + 1 + 1 + 1) (scs ⟨an + bn, a0 + b0, a1 + b1, a2 + b2, am, ap⟩) := hr3.out
      have HS := Lib.hid hs
      obtain ⟨p0, p1, p2, p3, p4, p5⟩ := raw_scs hs
      have pf4 := RawAt.free hs 4
      have pf5 := RawAt.free hs 5
      obtain ⟨q0, q1, q2, q3, q4, q5⟩ := raw_scs hr0.out
      obtain ⟨s0_, s1, s2, s3, s4, s5⟩ := raw_scs hr1.out
      obtain ⟨t0, t1, t2, t3, t4, t5⟩ := raw_scs hr2.out
      have z0 := RawAt.free hr2.out 0
      have z1 := RawAt.free hr2.out 1
      have z2 := RawAt.free hr2.out 2
      have z3 := RawAt.free hr2.out 3
      have z4 := RawAt.free hr2.out 4
      have z5 := RawAt.free hr2.out 5
      simp only at p0 p1 p2 p3 p4 p5 q0 q1 q2 q3 q4 q5 s0_ s1 s2 s3 s4 s5
      clear hs q1 q2 q3 s0_ s1 s2 s3
      by_cases hm : am < bm
      · have HV2 := Lib.hid (show sadd ⟨an, a0, a1, a2, am, ap⟩ ⟨bn, b0, b1, b2, bm, bp⟩ = ⟨an + bn, a0 + b0, a1 + b1, a2 + b2, bm, an + bp⟩ from HV.out.trans (by simp [hm]))
        go_wp2
        go_region
        all_goals go_wp2
        all_goals refine bodyPost_ret (v := .agg #[.int .i64 (an + bn), .int .i64 (a0 + b0), .int .i64 (a1 + b1), .int .i64 (a2 + b2), .int .i64 bm, .int .i64 (an + bp)]) (by simp [results, Tryz.results100, go_sem, t0, t1, t2, t3, t4, t5]) rfl ⟨by rw [HV2.out], ?_⟩
        all_goals (repeat' (first | (with_reducible exact hb) | (with_reducible refine Below.setCell ?_ ?_ _) | (with_reducible refine Below.drew ?_))) <;> first | (simp; done) | (simp; omega)
      · have HV2 := Lib.hid (show sadd ⟨an, a0, a1, a2, am, ap⟩ ⟨bn, b0, b1, b2, bm, bp⟩ = ⟨an + bn, a0 + b0, a1 + b1, a2 + b2, am, ap⟩ from HV.out.trans (by simp [hm]))
        go_wp2
        refine bodyPost_ret (v := .agg #[.int .i64 (an + bn), .int .i64 (a0 + b0), .int .i64 (a1 + b1), .int .i64 (a2 + b2), .int .i64 am, .int .i64 ap]) (by simp [results, Tryz.results100, go_sem, t0, t1, t2, t3, t4, t5]) rfl ⟨by rw [HV2.out], ?_⟩
        (repeat' (first | (with_reducible exact hb) | (with_reducible refine Below.setCell ?_ ?_ _) | (with_reducible refine Below.drew ?_))) <;> first | (simp; done) | (simp; omega)
theorem SOk.small {s : S6} {n : Int} (h : SOk s n) (hn : n ≤ 1000000) : Small s.n ∧ Small s.d0 ∧ Small s.d1 ∧ Small s.d2 ∧ Small s.pl := by
  obtain ⟨a1, a2, a3, a4, a5, a6, a7, a8, a9, a10, a11, a12, a13⟩ := h
  unfold Small
  omega
theorem iadd_any (a b c : S6) (n m : Int) (ha : SOk a n) (hb : SOk b m) (hn : n ≤ 1000000) (hm : m ≤ 1000000) (h : sadd a b = c) (w : World) :
    Calls Tryz.prog 100 #[.agg (scs a), .agg (scs b)] w fun e w' => e = .returned (.agg (scs c)) ∧ Below w.heap.size w w' := by
  subst h
  by_cases h1 : a.n = 0
  · rw [sadd_z h1]
    exact iadd_z a b h1 w
  · by_cases h2 : b.n = 0
    · rw [sadd_w h1 h2]
      exact iadd_w a b h1 h2 w
    · obtain ⟨x1, x2, x3, x4, _⟩ := ha.small hn
      obtain ⟨y1, y2, y3, y4, y5⟩ := hb.small hm
      exact iadd_s a.n a.d0 a.d1 a.d2 a.mx a.pl b.n b.d0 b.d1 b.d2 b.mx b.pl h1 h2 x1 x2 x3 x4 y1 y2 y3 y4 y5 w
end Go.Proofs.YtpnjokhhbjpciaaGreatDoor
