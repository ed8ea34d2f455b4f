/- Windows: the walk of WindowHolds. -/
import Derived.Test.YtjkmkobnfhepaaaWiF
namespace Go.Proofs.Ytjkmkobnfhepaaa
open Go.RowKit
set_option linter.unusedVariables false
set_option maxHeartbeats 16000000 in
set_option maxRecDepth 100000 in
theorem windowHolds_walk (s : Trn) (w : World) (h : TrnOk w s) : Calls Try.prog 5 #[.agg #[.int .i64 s.n, .int .i64 s.f, .int .i64 s.t, .int .i64 s.g, .int .i64 s.u, .slice s.A s.m s.c, .slice s.B s.k s.d]] w fun e w' => e = .returned (.bool true) ∧ Below w.heap.size w w' := by
  have C5 := Lib.hid fun W => wiFive_any W
  have CR := Lib.hid (wiRight_any s)
  have mx := h.max
  have mxb := h.maxb
  unfold maxLen at mx mxb
  have n1 : RawAt 33 (w.alloc (.cells #[.int .i64 s.n, .int .i64 s.f, .int .i64 s.t, .int .i64 s.g, .int .i64 s.u, .slice s.A s.m s.c, .slice s.B s.k s.d] 33)) w.heap.size #[.int .i64 s.n, .int .i64 s.f, .int .i64 s.t, .int .i64 s.g, .int .i64 s.u, .slice s.A s.m s.c, .slice s.B s.k s.d] := heap_alloc_new w _
  have b0 : Below w.heap.size w (w.alloc (.cells #[.int .i64 s.n, .int .i64 s.f, .int .i64 s.t, .int .i64 s.g, .int .i64 s.u, .slice s.A s.m s.c, .slice s.B s.k s.d] 33)) := (Below.refl _ _).alloc (Nat.le_refl _) _
  go_enter Try.func5, Try.ntmps5
  go_upto_region 1 with fail
  generalize w.alloc (.cells #[.int .i64 s.n, .int .i64 s.f, .int .i64 s.t, .int .i64 s.g, .int .i64 s.u, .slice s.A s.m s.c, .slice s.B s.k s.d] 33) = W0 at *
  have q0 := RawAt.cell n1 0
  have q1 := RawAt.cell n1 1
  have q2 := RawAt.cell n1 2
  have q3 := RawAt.cell n1 3
  have q4 := RawAt.cell n1 4
  have q5 := RawAt.cell n1 5
  have q6 := RawAt.cell n1 6
  simp at q0 q1 q2 q3 q4 q5 q6
  go_wp2_with fail
  with_reducible refine (CR.out _ (h.below b0)).mono ?_
  rintro e w1 ⟨rfl, b1⟩
  have n1 := n1.below b1 n1.lt
  have HB0 := Lib.hid (b0.trans (b1.mono b0.size))
  clear b0 b1 q0 q1 q2 q3 q4 q5 q6
  have H := Lib.hid h
  clear h
  by_cases hok : TrOk s
  · rw [show decide (TrOk s) = true from decide_eq_true hok]
    obtain ⟨⟨a0, a1, a2, a3, a4, a5, a6, a7⟩, hfit, hr1, hr2⟩ := hok
    have hf := wiFit_yes.mp hfit
    obtain ⟨⟨f0, f1, f2⟩, ⟨f3, f4, f5⟩, f6, _⟩ := hf
    have s1 := hr1.small (by omega)
    have s2 := hr2.small (by omega)
    have HA := Lib.hid H.out.rows
    have HAB := Lib.hid H.out.rowsb
    have CW := Lib.hid fun (W : World) (hW : Below w.heap.size w W) => wiWiden_any s.f s.t s.u s.A s.m s.c s.l s.B s.k s.d s.o W (HA.out.below hW) (HAB.out.below hW) H.out.la H.out.lb (by omega) (by omega) s1 s2 (by omega) (by omega) (by omega) (by omega) (by omega) (by omega)
    have CD := Lib.hid fun (p d : Int) (hd : Wdn s.l s.o s.f s.t s.u p d) (hL : WdL s.l s.o p) (hR : WdR s.l s.o s.t s.u d) (W : World) (hW : Below w.heap.size w W) => rWWiden_any s.f s.t s.u p d s.A s.m s.c s.l s.B s.k s.d s.o W (HA.out.below hW) (HAB.out.below hW) H.out.la H.out.lb (by omega) (by omega) s1 s2 (by omega) (by omega) (by omega) (by omega) (by omega) (by omega) hd hL hR
    rw [← f6] at n1
    rw [← f6] at f3 f4
    clear f6 hfit
    have q0 := RawAt.cell n1 0
    have q1 := RawAt.cell n1 1
    have q2 := RawAt.cell n1 2
    have q3 := RawAt.cell n1 3
    have q4 := RawAt.cell n1 4
    have q5 := RawAt.cell n1 5
    have q6 := RawAt.cell n1 6
    simp at q0 q1 q2 q3 q4 q5 q6
    go_wp2_with fail
    with_reducible refine (CW.out _ HB0.out).mono ?_
    rintro e w2 ⟨p, d, rfl, hwd, hwl, hwr, hpd, b2⟩
    have n1 := n1.below b2 n1.lt
    have b3 := HB0.out.trans (b2.mono HB0.out.size)
    clear q0 q1 q2 q3 q4 q5 q6 b2 HB0
    have N := new2 w2 23 23 #[.int .i64 p, .int .i64 (s.t + d)] #[.int .i64 p, .int .i64 (s.u + d)]
    obtain ⟨n2, n3, bn, e9⟩ := N
    clear e9
    go_upto_region 4 with fail
    have n1 := n1.below bn n1.lt
    have HB4 := Lib.hid (b3.trans (bn.mono b3.size))
    clear b3 bn
    obtain ⟨g5, hg5⟩ : ∃ g, g = w2.heap.size := ⟨_, rfl⟩
    rw [← hg5] at n2 n3 ⊢
    clear hg5
    generalize (w2.alloc (.cells #[.int .i64 p, .int .i64 (s.t + d)] 23)).alloc (.cells #[.int .i64 p, .int .i64 (s.u + d)] 23) = W4 at *
    have e0 := hwd.le
    have e1 := hwd.ge
    have f3 : 0 ≤ s.f ∧ s.f ≤ s.u := by omega
    have dN : d ≤ s.n - s.t := hwd.nr _ (by omega) (by rw [show s.t + (s.n - s.t) = s.n by omega]; exact wacr_no.mpr fun x hx g => by have := hr1.each x hx; omega) (by rw [show s.u + (s.n - s.t) = s.n - s.t + s.u by omega]; exact wacr_no.mpr fun x hx g => by have := hr2.each x hx; omega)
    have M : Int := s.n - s.t + s.u
    have x1 : IntKind.i64.wrap (s.n - s.t) = s.n - s.t := IntWalk.i64_in _ (by omega)
    have x2 : IntKind.i64.wrap (s.n - s.t + s.u) = s.n - s.t + s.u := IntWalk.i64_in _ (by omega)
    have x3 : IntKind.i64.wrap (s.t + d - s.t) = d := by rw [IntWalk.i64_in _ (by omega)]; omega
    have x4 : IntKind.i64.wrap (s.u + d - s.u) = d := by rw [IntWalk.i64_in _ (by omega)]; omega
    have k1 : decide (s.f < p) = false := decide_eq_false (by omega)
    have k2 : decide (s.t + d < s.t) = false := decide_eq_false (by omega)
    have hFT : wiFit p (s.t + d) p (s.u + d) s.n (s.n - s.t + s.u) = true := wiFit_yes.mpr ⟨by omega, by omega, rfl, by congr 1; omega⟩
    have CF : Hid (∀ W, Calls Try.prog 7 #[.agg #[.int .i64 p, .int .i64 (s.t + d)], .agg #[.int .i64 p, .int .i64 (s.u + d)], .int .i64 s.n, .int .i64 (s.n - s.t + s.u)] W fun e w' => e = .returned (.bool true) ∧ Below W.heap.size W w') := Lib.hid fun W => by
      have := wiFits_any p (s.t + d) p (s.u + d) s.n (s.n - s.t + s.u) W
      rwa [hFT] at this
    have CA1 : Hid (∀ W, Below w.heap.size w W → Calls Try.prog 12 #[.slice s.A s.m s.c, .int .i64 p] W fun e w' => e = .returned (.bool false) ∧ Below W.heap.size W w') := Lib.hid fun W hW => by
      have := rWAcross s.A s.m s.c s.l p W (HA.out.below hW) H.out.la (by omega)
      rwa [hwl.1] at this
    have CA2 : Hid (∀ W, Below w.heap.size w W → Calls Try.prog 12 #[.slice s.A s.m s.c, .int .i64 (s.t + d)] W fun e w' => e = .returned (.bool false) ∧ Below W.heap.size W w') := Lib.hid fun W hW => by
      have := rWAcross s.A s.m s.c s.l (s.t + d) W (HA.out.below hW) H.out.la (by omega)
      rwa [hwr.1] at this
    have CA3 : Hid (∀ W, Below w.heap.size w W → Calls Try.prog 12 #[.slice s.B s.k s.d, .int .i64 p] W fun e w' => e = .returned (.bool false) ∧ Below W.heap.size W w') := Lib.hid fun W hW => by
      have := rWAcross s.B s.k s.d s.o p W (HAB.out.below hW) H.out.lb (by omega)
      rwa [hwl.2] at this
    have CA4 : Hid (∀ W, Below w.heap.size w W → Calls Try.prog 12 #[.slice s.B s.k s.d, .int .i64 (s.u + d)] W fun e w' => e = .returned (.bool false) ∧ Below W.heap.size W w') := Lib.hid fun W hW => by
      have := rWAcross s.B s.k s.d s.o (s.u + d) W (HAB.out.below hW) H.out.lb (by omega)
      rwa [hwr.2] at this
    have CW2 : Hid (∀ W, Below w.heap.size w W → Calls Try.prog 10 #[.agg #[.int .i64 p, .int .i64 (s.t + d)], .agg #[.int .i64 p, .int .i64 (s.u + d)], .slice s.A s.m s.c, .slice s.B s.k s.d] W fun e w' => e = .returned (.tuple #[.agg #[.int .i64 p, .int .i64 (s.t + d)], .agg #[.int .i64 p, .int .i64 (s.u + d)]]) ∧ Below W.heap.size W w') := Lib.hid fun W hW => by
      refine (wiWiden_any p (s.t + d) (s.u + d) s.A s.m s.c s.l s.B s.k s.d s.o W (HA.out.below hW) (HAB.out.below hW) H.out.la H.out.lb (by omega) (by omega) s1 s2 hpd.1 (by omega) (by omega) (by omega) (by omega) (by omega)).mono ?_
      rintro e w' ⟨p', d', rfl, g1, g2, g3, _, g5⟩
      have g6 : WdR s.l s.o (s.t + d) (s.u + d) 0 := by unfold WdR; rw [Int.add_zero, Int.add_zero]; exact hwr
      obtain ⟨rfl, rfl⟩ := g1.unique (Wdn.start _ _ _ _ _) g2 g3 hwl g6
      rw [Int.add_zero, Int.add_zero]
      exact ⟨rfl, g5⟩
    clear CW CD hwd hwl hwr hFT dN M
    have n1q0 := RawAt.cell n1 0
    have n1q1 := RawAt.cell n1 1
    have n1q2 := RawAt.cell n1 2
    have n1q3 := RawAt.cell n1 3
    have n1q4 := RawAt.cell n1 4
    have n1q5 := RawAt.cell n1 5
    have n1q6 := RawAt.cell n1 6
    simp at n1q0 n1q1 n1q2 n1q3 n1q4 n1q5 n1q6
    have n2q0 := RawAt.cell n2 0
    have n2q1 := RawAt.cell n2 1
    simp at n2q0 n2q1
    have n3q0 := RawAt.cell n3 0
    have n3q1 := RawAt.cell n3 1
    simp at n3q0 n3q1
    go_wp2_with fail
    with_reducible refine (CF.out _).mono ?_
    rintro e w5 ⟨rfl, b2⟩
    clear n1q0 n1q1 n1q2 n1q3 n1q4 n1q5 n1q6 n2q0 n2q1 n3q0 n3q1
    have n1 := n1.below b2 n1.lt
    have n2 := n2.below b2 n2.lt
    have n3 := n3.below b2 n3.lt
    have HB4 := Lib.hid (HB4.out.trans (b2.mono HB4.out.size))
    clear b2
    have n1q0 := RawAt.cell n1 0
    have n1q1 := RawAt.cell n1 1
    have n1q2 := RawAt.cell n1 2
    have n1q3 := RawAt.cell n1 3
    have n1q4 := RawAt.cell n1 4
    have n1q5 := RawAt.cell n1 5
    have n1q6 := RawAt.cell n1 6
    simp at n1q0 n1q1 n1q2 n1q3 n1q4 n1q5 n1q6
    have n2q0 := RawAt.cell n2 0
    have n2q1 := RawAt.cell n2 1
    simp at n2q0 n2q1
    have n3q0 := RawAt.cell n3 0
    have n3q1 := RawAt.cell n3 1
    simp at n3q0 n3q1
    go_upto_region 6 with fail
    clear x1 x2 x3 x4 k1 k2 CF
    go_wp2_with fail
    with_reducible refine (CA1.out _ HB4.out).mono ?_
    rintro e w6 ⟨rfl, b2⟩
    clear n1q0 n1q1 n1q2 n1q3 n1q4 n1q5 n1q6 n2q0 n2q1 n3q0 n3q1
    have n1 := n1.below b2 n1.lt
    have n2 := n2.below b2 n2.lt
    have n3 := n3.below b2 n3.lt
    have HB4 := Lib.hid (HB4.out.trans (b2.mono HB4.out.size))
    clear b2
    have n1q0 := RawAt.cell n1 0
    have n1q1 := RawAt.cell n1 1
    have n1q2 := RawAt.cell n1 2
    have n1q3 := RawAt.cell n1 3
    have n1q4 := RawAt.cell n1 4
    have n1q5 := RawAt.cell n1 5
    have n1q6 := RawAt.cell n1 6
    simp at n1q0 n1q1 n1q2 n1q3 n1q4 n1q5 n1q6
    have n2q0 := RawAt.cell n2 0
    have n2q1 := RawAt.cell n2 1
    simp at n2q0 n2q1
    have n3q0 := RawAt.cell n3 0
    have n3q1 := RawAt.cell n3 1
    simp at n3q0 n3q1
    go_wp2_with fail
    with_reducible refine (CA2.out _ HB4.out).mono ?_
    rintro e w7 ⟨rfl, b2⟩
    clear n1q0 n1q1 n1q2 n1q3 n1q4 n1q5 n1q6 n2q0 n2q1 n3q0 n3q1
    have n1 := n1.below b2 n1.lt
    have n2 := n2.below b2 n2.lt
    have n3 := n3.below b2 n3.lt
    have HB4 := Lib.hid (HB4.out.trans (b2.mono HB4.out.size))
    clear b2
    have n1q0 := RawAt.cell n1 0
    have n1q1 := RawAt.cell n1 1
    have n1q2 := RawAt.cell n1 2
    have n1q3 := RawAt.cell n1 3
    have n1q4 := RawAt.cell n1 4
    have n1q5 := RawAt.cell n1 5
    have n1q6 := RawAt.cell n1 6
    simp at n1q0 n1q1 n1q2 n1q3 n1q4 n1q5 n1q6
    have n2q0 := RawAt.cell n2 0
    have n2q1 := RawAt.cell n2 1
    simp at n2q0 n2q1
    have n3q0 := RawAt.cell n3 0
    have n3q1 := RawAt.cell n3 1
    simp at n3q0 n3q1
    go_wp2_with fail
    with_reducible refine (CA3.out _ HB4.out).mono ?_
    rintro e w8 ⟨rfl, b2⟩
    clear n1q0 n1q1 n1q2 n1q3 n1q4 n1q5 n1q6 n2q0 n2q1 n3q0 n3q1
    have n1 := n1.below b2 n1.lt
    have n2 := n2.below b2 n2.lt
    have n3 := n3.below b2 n3.lt
    have HB4 := Lib.hid (HB4.out.trans (b2.mono HB4.out.size))
    clear b2
    have n1q0 := RawAt.cell n1 0
    have n1q1 := RawAt.cell n1 1
    have n1q2 := RawAt.cell n1 2
    have n1q3 := RawAt.cell n1 3
    have n1q4 := RawAt.cell n1 4
    have n1q5 := RawAt.cell n1 5
    have n1q6 := RawAt.cell n1 6
    simp at n1q0 n1q1 n1q2 n1q3 n1q4 n1q5 n1q6
    have n2q0 := RawAt.cell n2 0
    have n2q1 := RawAt.cell n2 1
    simp at n2q0 n2q1
    have n3q0 := RawAt.cell n3 0
    have n3q1 := RawAt.cell n3 1
    simp at n3q0 n3q1
    go_wp2_with fail
    with_reducible refine (CA4.out _ HB4.out).mono ?_
    rintro e w9 ⟨rfl, b2⟩
    clear n1q0 n1q1 n1q2 n1q3 n1q4 n1q5 n1q6 n2q0 n2q1 n3q0 n3q1
    have n1 := n1.below b2 n1.lt
    have n2 := n2.below b2 n2.lt
    have n3 := n3.below b2 n3.lt
    have HB4 := Lib.hid (HB4.out.trans (b2.mono HB4.out.size))
    clear b2
    have n1q0 := RawAt.cell n1 0
    have n1q1 := RawAt.cell n1 1
    have n1q2 := RawAt.cell n1 2
    have n1q3 := RawAt.cell n1 3
    have n1q4 := RawAt.cell n1 4
    have n1q5 := RawAt.cell n1 5
    have n1q6 := RawAt.cell n1 6
    simp at n1q0 n1q1 n1q2 n1q3 n1q4 n1q5 n1q6
    have n2q0 := RawAt.cell n2 0
    have n2q1 := RawAt.cell n2 1
    simp at n2q0 n2q1
    have n3q0 := RawAt.cell n3 0
    have n3q1 := RawAt.cell n3 1
    simp at n3q0 n3q1
    go_wp2_with fail
    with_reducible refine (CW2.out _ HB4.out).mono ?_
    rintro e w10 ⟨rfl, b2⟩
    clear n1q0 n1q1 n1q2 n1q3 n1q4 n1q5 n1q6 n2q0 n2q1 n3q0 n3q1
    have n1 := n1.below b2 n1.lt
    have n2 := n2.below b2 n2.lt
    have n3 := n3.below b2 n3.lt
    have HB4 := Lib.hid (HB4.out.trans (b2.mono HB4.out.size))
    clear b2
    have n1q0 := RawAt.cell n1 0
    have n1q1 := RawAt.cell n1 1
    have n1q2 := RawAt.cell n1 2
    have n1q3 := RawAt.cell n1 3
    have n1q4 := RawAt.cell n1 4
    have n1q5 := RawAt.cell n1 5
    have n1q6 := RawAt.cell n1 6
    simp at n1q0 n1q1 n1q2 n1q3 n1q4 n1q5 n1q6
    have n2q0 := RawAt.cell n2 0
    have n2q1 := RawAt.cell n2 1
    simp at n2q0 n2q1
    have n3q0 := RawAt.cell n3 0
    have n3q1 := RawAt.cell n3 1
    simp at n3q0 n3q1
    have N := new2 w10 23 23 #[.int .i64 p, .int .i64 (s.t + d)] #[.int .i64 p, .int .i64 (s.u + d)]
    obtain ⟨n5, n6, bn, e9⟩ := N
    clear e9
    go_upto_region 9 with fail
    clear n1q0 n1q1 n1q2 n1q3 n1q4 n1q5 n1q6 n2q0 n2q1 n3q0 n3q1
    have n2 := n2.below bn n2.lt
    have n3 := n3.below bn n3.lt
    have HB5 := Lib.hid (HB4.out.trans (bn.mono HB4.out.size))
    clear bn HB4 n1
    obtain ⟨g7, hg7⟩ : ∃ g, g = w10.heap.size := ⟨_, rfl⟩
    rw [← hg7] at n5 n6 ⊢
    clear hg7
    generalize (w10.alloc (.cells #[.int .i64 p, .int .i64 (s.t + d)] 23)).alloc (.cells #[.int .i64 p, .int .i64 (s.u + d)] 23) = W8 at *
    have n2q0 := RawAt.cell n2 0
    have n2q1 := RawAt.cell n2 1
    simp at n2q0 n2q1
    have n3q0 := RawAt.cell n3 0
    have n3q1 := RawAt.cell n3 1
    simp at n3q0 n3q1
    have n5q0 := RawAt.cell n5 0
    have n5q1 := RawAt.cell n5 1
    simp at n5q0 n5q1
    have n6q0 := RawAt.cell n6 0
    have n6q1 := RawAt.cell n6 1
    simp at n6q0 n6q1
    go_wp2_with fail
    with_reducible refine (C5.out _).mono ?_
    rintro e w11 ⟨rfl, b9⟩
    have HB9 := Lib.hid (HB5.out.trans (b9.mono HB5.out.size))
    clear b9
    go_wp2
    go_ret
    exact ⟨rfl, HB9.out⟩
  · rw [show decide (TrOk s) = false from decide_eq_false hok]
    go_wp2_with fail
    with_reducible refine (C5.out _).mono ?_
    rintro e w9 ⟨rfl, b9⟩
    have HB9 := Lib.hid (HB0.out.trans (b9.mono HB0.out.size))
    clear b9
    go_wp2
    go_ret
    exact ⟨rfl, HB9.out⟩
end Go.Proofs.Ytjkmkobnfhepaaa
