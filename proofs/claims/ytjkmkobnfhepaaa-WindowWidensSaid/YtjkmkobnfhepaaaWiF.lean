/- Windows: the law's right. -/
import Derived.Test.YtjkmkobnfhepaaaWiE
namespace Go.Proofs.Ytjkmkobnfhepaaa
open Go.RowKit
set_option linter.unusedVariables false
/-- Is a turn gone through? -/
def TrOk (s : Trn) : Prop := (0 ≤ s.n ∧ s.n ≤ 1073741824 ∧ s.m ≤ 60 ∧ s.k ≤ 60 ∧ 0 ≤ s.t ∧ s.t ≤ s.n ∧ 0 ≤ s.u ∧ s.u ≤ 1073741824) ∧ wiFit s.f s.t s.g s.u s.n (s.n - s.t + s.u) = true ∧ WRt 0 s.l s.n ∧ WRt 0 s.o (s.n - s.t + s.u)
instance (s : Trn) : Decidable (TrOk s) := by unfold TrOk; infer_instance
set_option maxHeartbeats 16000000 in
set_option maxRecDepth 100000 in
theorem wiRight_any (s : Trn) (w : World) (h : TrnOk w s) : Calls Try.prog 9 #[.agg #[.int .i64 s.n, .int .i64 s.f, .int .i64 s.t, .int .i64 s.g, .int .i64 s.u, .slice s.A s.m s.c, .slice s.B s.k s.d]] w fun e w' => e = .returned (.bool (decide (TrOk s))) ∧ Below w.heap.size w w' := by
  have HE : Hid (decide (TrOk s) = true ↔ TrOk s) := Lib.hid decide_eq_true_iff
  generalize decide (TrOk s) = r at *
  have HN : Hid (¬ TrOk s → r = false) := Lib.hid fun h => by cases r; rfl; exact absurd (HE.out.mp rfl) h
  have wn := h.wf
  have H := Lib.hid h
  clear h
  have n1 : RawAt 33 (w.alloc (.cells #[.int .i64 s.n, .int .i64 s.f, .int .i64 s.t, .int .i64 s.g, .int .i64 s.u, .slice s.A s.m s.c, .slice s.B s.k s.d] 33)) w.heap.size #[.int .i64 s.n, .int .i64 s.f, .int .i64 s.t, .int .i64 s.g, .int .i64 s.u, .slice s.A s.m s.c, .slice s.B s.k s.d] := heap_alloc_new w _
  have b0 : Below w.heap.size w (w.alloc (.cells #[.int .i64 s.n, .int .i64 s.f, .int .i64 s.t, .int .i64 s.g, .int .i64 s.u, .slice s.A s.m s.c, .slice s.B s.k s.d] 33)) := (Below.refl _ _).alloc (Nat.le_refl _) _
  have mx := H.out.max
  have mxb := H.out.maxb
  unfold maxLen at mx mxb
  go_enter Try.func9, Try.ntmps9
  go_upto_region 1 with fail
  generalize w.alloc (.cells #[.int .i64 s.n, .int .i64 s.f, .int .i64 s.t, .int .i64 s.g, .int .i64 s.u, .slice s.A s.m s.c, .slice s.B s.k s.d] 33) = W0 at *
  have q0 := RawAt.cell n1 0
  have q1 := RawAt.cell n1 1
  have q2 := RawAt.cell n1 2
  have q3 := RawAt.cell n1 3
  have q4 := RawAt.cell n1 4
  have q5 := RawAt.cell n1 5
  have q6 := RawAt.cell n1 6
  simp at q0 q1 q2 q3 q4 q5 q6
  have HB0 := Lib.hid b0
  clear b0
  by_cases g0 : s.n < 0
  · have k0 : decide (s.n < 0) = true := decide_eq_true g0
    obtain rfl : r = false := HN.out (fun h => by have := h.1; omega)
    clear HE HN
    go_wp2
    go_ret
    exact ⟨rfl, HB0.out⟩
  · have k0 : decide (s.n < 0) = false := decide_eq_false g0
    by_cases g1 : 1073741824 < s.n
    · have k1 : decide (1073741824 < s.n) = true := decide_eq_true g1
      obtain rfl : r = false := HN.out (fun h => by have := h.1; omega)
      clear HE HN
      go_wp2
      go_ret
      exact ⟨rfl, HB0.out⟩
    · have k1 : decide (1073741824 < s.n) = false := decide_eq_false g1
      by_cases g2 : (60 : Int) < (s.m : Int)
      · have k2 : decide ((60 : Int) < (s.m : Int)) = true := decide_eq_true g2
        obtain rfl : r = false := HN.out (fun h => by have := h.1; omega)
        clear HE HN
        go_wp2
        go_ret
        exact ⟨rfl, HB0.out⟩
      · have k2 : decide ((60 : Int) < (s.m : Int)) = false := decide_eq_false g2
        by_cases g3 : (60 : Int) < (s.k : Int)
        · have k3 : decide ((60 : Int) < (s.k : Int)) = true := decide_eq_true g3
          obtain rfl : r = false := HN.out (fun h => by have := h.1; omega)
          clear HE HN
          go_wp2
          go_ret
          exact ⟨rfl, HB0.out⟩
        · have k3 : decide ((60 : Int) < (s.k : Int)) = false := decide_eq_false g3
          by_cases g4 : s.t < 0
          · have k4 : decide (s.t < 0) = true := decide_eq_true g4
            obtain rfl : r = false := HN.out (fun h => by have := h.1; omega)
            clear HE HN
            go_wp2
            go_ret
            exact ⟨rfl, HB0.out⟩
          · have k4 : decide (s.t < 0) = false := decide_eq_false g4
            by_cases g5 : s.n < s.t
            · have k5 : decide (s.n < s.t) = true := decide_eq_true g5
              obtain rfl : r = false := HN.out (fun h => by have := h.1; omega)
              clear HE HN
              go_wp2
              go_ret
              exact ⟨rfl, HB0.out⟩
            · have k5 : decide (s.n < s.t) = false := decide_eq_false g5
              by_cases g6 : s.u < 0
              · have k6 : decide (s.u < 0) = true := decide_eq_true g6
                obtain rfl : r = false := HN.out (fun h => by have := h.1; omega)
                clear HE HN
                go_wp2
                go_ret
                exact ⟨rfl, HB0.out⟩
              · have k6 : decide (s.u < 0) = false := decide_eq_false g6
                by_cases g7 : 1073741824 < s.u
                · have k7 : decide (1073741824 < s.u) = true := decide_eq_true g7
                  obtain rfl : r = false := HN.out (fun h => by have := h.1; omega)
                  clear HE HN
                  go_wp2
                  go_ret
                  exact ⟨rfl, HB0.out⟩
                · have k7 : decide (1073741824 < s.u) = false := decide_eq_false g7
                  have c0 : 0 ≤ s.n ∧ s.n ≤ 1073741824 ∧ s.m ≤ 60 ∧ s.k ≤ 60 ∧ 0 ≤ s.t ∧ s.t ≤ s.n ∧ 0 ≤ s.u ∧ s.u ≤ 1073741824 := by omega
                  have x1 : IntKind.i64.wrap (s.n - s.t) = s.n - s.t := IntWalk.i64_in _ (by omega)
                  have x2 : IntKind.i64.wrap (s.n - s.t + s.u) = s.n - s.t + s.u := IntWalk.i64_in _ (by omega)
                  go_upto_region 5 with fail
                  clear k0 k1 k2 k3 k4 k5 k6 k7 g0 g1 g2 g3 g4 g5 g6 g7 x1 x2
                  have n2 : RawAt 27 (W0.alloc (.cells #[.int .i64 s.f, .int .i64 s.t, .int .i64 s.g, .int .i64 s.u] 27)) W0.heap.size #[.int .i64 s.f, .int .i64 s.t, .int .i64 s.g, .int .i64 s.u] := heap_alloc_new W0 _
                  have b1 : Below W0.heap.size W0 (W0.alloc (.cells #[.int .i64 s.f, .int .i64 s.t, .int .i64 s.g, .int .i64 s.u] 27)) := (Below.refl _ _).alloc (Nat.le_refl _) _
                  have n1 := n1.below b1 n1.lt
                  have HB1 := Lib.hid (HB0.out.trans (b1.mono HB0.out.size))
                  clear b1 HB0 q0 q1 q2 q3 q4 q5 q6
                  obtain ⟨M, hM⟩ : ∃ M, M = s.n - s.t + s.u := ⟨_, rfl⟩
                  obtain ⟨g9, hg9⟩ : ∃ g, g = W0.heap.size := ⟨_, rfl⟩
                  rw [← hM]
                  rw [← hg9] at n2 ⊢
                  clear hg9
                  generalize W0.alloc (.cells #[.int .i64 s.f, .int .i64 s.t, .int .i64 s.g, .int .i64 s.u] 27) = W1 at *
                  have HM := Lib.hid hM
                  clear hM
                  have CF := Lib.hid fun W => rWFits_any s.f s.t s.g s.u s.n M W
                  have CR1 := Lib.hid fun (W : World) (h : Below w.heap.size w W) => rWRight s.n s.A s.m s.c s.l (decide (WRt 0 s.l s.n)) decide_eq_true_iff W (H.out.rows.below h) H.out.la (by omega)
                  have CR2 := Lib.hid fun (W : World) (h : Below w.heap.size w W) => rWRight M s.B s.k s.d s.o (decide (WRt 0 s.o M)) decide_eq_true_iff W (H.out.rowsb.below h) H.out.lb (by omega)
                  have HE2 : Hid (TrOk s ↔ wiFit s.f s.t s.g s.u s.n M = true ∧ decide (WRt 0 s.l s.n) = true ∧ decide (WRt 0 s.o M) = true) := Lib.hid (by
                    unfold TrOk
                    rw [HM.out, decide_eq_true_iff, decide_eq_true_iff]
                    exact ⟨fun h => h.2, fun h => ⟨c0, h⟩⟩)
                  generalize wiFit s.f s.t s.g s.u s.n M = r1 at *
                  generalize decide (WRt 0 s.l s.n) = r2 at *
                  generalize decide (WRt 0 s.o M) = r3 at *
                  have q0 := RawAt.cell n1 0
                  have q5 := RawAt.cell n1 5
                  have q6 := RawAt.cell n1 6
                  have y0 := RawAt.cell n2 0
                  have y1 := RawAt.cell n2 1
                  have y2 := RawAt.cell n2 2
                  have y3 := RawAt.cell n2 3
                  simp at q0 q5 q6 y0 y1 y2 y3
                  go_wp2_with fail
                  with_reducible refine (CF.out _).mono ?_
                  rintro e w2 ⟨rfl, b2⟩
                  have n1 := n1.below b2 n1.lt
                  have HB2 := Lib.hid (HB1.out.trans (b2.mono HB1.out.size))
                  clear b2 HB1 q0 q5 q6 y0 y1 y2 y3 n2 CF
                  have q0 := RawAt.cell n1 0
                  have q5 := RawAt.cell n1 5
                  have q6 := RawAt.cell n1 6
                  simp at q0 q5 q6
                  cases r1
                  · obtain rfl : r = false := HN.out (fun h => by have := (HE2.out.mp h).1; cases this)
                    clear HE HN HE2
                    go_wp2
                    go_ret
                    exact ⟨rfl, HB2.out⟩
                  · go_wp2_with fail
                    with_reducible refine (CR1.out _ HB2.out).mono ?_
                    rintro e w3 ⟨rfl, b2⟩
                    have n1 := n1.below b2 n1.lt
                    have HB3 := Lib.hid (HB2.out.trans (b2.mono HB2.out.size))
                    clear b2 HB2 q0 q5 q6 CR1
                    have q0 := RawAt.cell n1 0
                    have q5 := RawAt.cell n1 5
                    have q6 := RawAt.cell n1 6
                    simp at q0 q5 q6
                    cases r2
                    · obtain rfl : r = false := HN.out (fun h => by have := (HE2.out.mp h).2.1; cases this)
                      clear HE HN HE2
                      go_wp2
                      go_ret
                      exact ⟨rfl, HB3.out⟩
                    · go_wp2_with fail
                      with_reducible refine (CR2.out _ HB3.out).mono ?_
                      rintro e w4 ⟨rfl, b2⟩
                      have HB4 := Lib.hid (HB3.out.trans (b2.mono HB3.out.size))
                      clear b2 HB3 q0 q5 q6 CR2 n1
                      cases r3
                      · obtain rfl : r = false := HN.out (fun h => by have := (HE2.out.mp h).2.2; cases this)
                        clear HE HN HE2
                        go_wp2
                        go_ret
                        exact ⟨rfl, HB4.out⟩
                      · obtain rfl : r = true := HE.out.mpr (HE2.out.mpr (by simp))
                        clear HE HN HE2
                        go_wp2
                        go_ret
                        exact ⟨rfl, HB4.out⟩
theorem WRt.small {l : List (Int × Int)} {n : Int} (h : WRt 0 l n) (hn : n ≤ 4000000000) : WSm l := fun x hx => by
  have := h.each x hx
  omega
end Go.Proofs.Ytjkmkobnfhepaaa
