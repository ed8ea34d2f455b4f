/- The walk of the law PatchNormal. -/
import Derived.Test.YthbhjecfiiknaaaPtR
namespace Go.Proofs.Ythbhjecfiiknaaa
open Go.RowKit
set_option linter.unusedVariables false
set_option maxHeartbeats 4000000 in
set_option maxRecDepth 100000 in
theorem patchNormal_walk (A : Option Addr) (n c : Nat) (l : List Ch) (at_ bi : Int) (w : World) (hI : ChsAt w A l) (hl : l.length = n) (_hn : n ≤ maxLen) (_hc : Caps A n c) (_w1 : Lit.wf (.int .i64 at_)) (_w2 : Lit.wf (.int .i64 bi)) :
    Calls Try.prog 3 #[.slice A n c, .int .i64 at_, .int .i64 bi] w fun e w' => e = .returned (.bool true) ∧ Below w.heap.size w w' := by
  have CT := Lib.hid fun W => ptwo_any W
  clear _hn _hc _w1 _w2
  by_cases h200 : 200 < n
  · have k1 : decide (200 < n) = true := decide_eq_true h200
    have k2 : decide ((200 : Int) < (n : Int)) = true := decide_eq_true (by omega)
    clear hI hl
    go_enter Try.func3, Try.ntmps3
    go_wp2_with fail
    with_reducible refine (CT.out _).mono ?_
    rintro e1 w1 ⟨rfl, h1⟩
    have q1 := h1
    go_wp2
    go_ret
    exact ⟨rfl, q1⟩
  · have k1 : decide (200 < n) = false := decide_eq_false h200
    have k2 : decide ((200 : Int) < (n : Int)) = false := decide_eq_false (by omega)
    have hn : n ≤ 1000000 := by omega
    have CR := Lib.hid fun (W : World) (hW : Below w.heap.size w W) => refs_any A n c l W (hI.below hW) hl hn
    clear h200
    by_cases hnr : nrm M40 0 0 true l
    · have CN := Lib.hid fun (A' : Option Addr) (c' : Nat) (W : World) (hW : ChsAt W A' l) => rNormal_any A' n c' l W true hW hl hn ⟨fun _ => hnr, fun _ => rfl⟩
      have CP := Lib.hid fun (W : World) (hW : Below w.heap.size w W) => pNormal_any A n c l W true (hI.below hW) hl hn ⟨fun _ => hnr, fun _ => rfl⟩
      by_cases hx : at_ < 0 ∨ 1099511627776 < at_ ∨ (bi ≠ 0 ∧ bi ≠ 1)
      · have CM := Lib.hid fun (W : World) (hW : Below w.heap.size w W) => pMap_arg A n c l at_ bi W (hI.below hW) hl hn hnr hx
        have HX := Lib.hid hx
        clear hI hl hnr hx
        go_enter Try.func3, Try.ntmps3
        go_wp2_with fail
        with_reducible refine (CR.out _ (Below.refl _ _)).mono ?_
        rintro e1 w1 ⟨A1, c1, rfl, hI1, _, h1⟩
        have q1 := h1
        go_wp2_with fail
        with_reducible refine (CN.out A1 c1 _ hI1).mono ?_
        rintro e2 w2 ⟨rfl, h2⟩
        have q2 := q1.trans (h2.mono q1.size)
        clear hI1
        go_wp2_with fail
        with_reducible refine (CM.out _ q2).mono ?_
        rintro e3 w3 ⟨rfl, h3⟩
        have q3 := q2.trans (h3.mono q2.size)
        go_wp2_with fail
        with_reducible refine (CP.out _ q3).mono ?_
        rintro e4 w4 ⟨rfl, h4⟩
        have q4 := q3.trans (h4.mono q3.size)
        have hx := HX.out
        clear HX CR CN CM CP q1 q2 q3 h1 h2 h3 h4
        by_cases g1 : at_ < 0
        · have k3 : decide (at_ < 0) = true := decide_eq_true g1
          go_wp2_with fail
          with_reducible refine (CT.out _).mono ?_
          rintro e9 w9 ⟨rfl, h9⟩
          have q9 := q4.trans (h9.mono q4.size)
          go_wp2
          go_ret
          exact ⟨rfl, q9⟩
        · have k3 : decide (at_ < 0) = false := decide_eq_false g1
          by_cases g2 : 1099511627776 < at_
          · have k4 : decide (1099511627776 < at_) = true := decide_eq_true g2
            go_wp2_with fail
            with_reducible refine (CT.out _).mono ?_
            rintro e9 w9 ⟨rfl, h9⟩
            have q9 := q4.trans (h9.mono q4.size)
            go_wp2
            go_ret
            exact ⟨rfl, q9⟩
          · have k4 : decide (1099511627776 < at_) = false := decide_eq_false g2
            have g3 : ¬ bi = 0 := by omega
            have g4 : ¬ bi = 1 := by omega
            have g5 : (bi != 0) = true := by simp [g3]
            have g6 : (bi != 1) = true := by simp [g4]
            clear hx
            go_wp2_with fail
            with_reducible refine (CT.out _).mono ?_
            rintro e9 w9 ⟨rfl, h9⟩
            have q9 := q4.trans (h9.mono q4.size)
            go_wp2
            go_ret
            exact ⟨rfl, q9⟩
      · have h0 : 0 ≤ at_ := by omega
        have h1 : at_ ≤ 1099511627776 := by omega
        have hbi : bi = 0 ∨ bi = 1 := by omega
        have CM := Lib.hid fun (W : World) (hW : Below w.heap.size w W) => pMap_yes A n c l at_ bi W (hI.below hW) hl hn hnr h0 h1 hbi
        have CD := Lib.hid fun (A' : Option Addr) (c' : Nat) (W : World) (hW : ChsAt W A' l) => rMap_any A' n c' l at_ bi W hW hl hn (nrm_mem hnr) h0 h1
        have e : mpR 0 l at_ bi = mp 0 0 l at_ bi := mpR_mp (p := 0) (q := 0) hnr at_ bi
        rw [e] at CD
        have k3 : decide (at_ < 0) = false := decide_eq_false (by omega)
        have k4 : decide (1099511627776 < at_) = false := decide_eq_false (by omega)
        clear hI hl hnr hx e h0 h1
        generalize mp 0 0 l at_ bi = v at *
        rcases hbi with rfl | rfl
        all_goals
          go_enter Try.func3, Try.ntmps3
          go_wp2_with fail
          with_reducible refine (CR.out _ (Below.refl _ _)).mono ?_
          rintro e1 w1 ⟨A1, c1, rfl, hI1, _, h1⟩
          have q1 := h1
          go_wp2_with fail
          with_reducible refine (CN.out A1 c1 _ hI1).mono ?_
          rintro e2 w2 ⟨rfl, h2⟩
          have q2 := q1.trans (h2.mono q1.size)
          clear hI1
          go_wp2_with fail
          with_reducible refine (CM.out _ q2).mono ?_
          rintro e3 w3 ⟨rfl, h3⟩
          have q3 := q2.trans (h3.mono q2.size)
          go_wp2_with fail
          with_reducible refine (CP.out _ q3).mono ?_
          rintro e4 w4 ⟨rfl, h4⟩
          have q4 := q3.trans (h4.mono q3.size)
          go_wp2_with fail
          with_reducible refine (CR.out _ q4).mono ?_
          rintro e5 w5 ⟨A2, c2, rfl, hI2, _, h5⟩
          have q5 := q4.trans (h5.mono q4.size)
          go_wp2_with fail
          with_reducible refine (CD.out A2 c2 _ hI2).mono ?_
          rintro e6 w6 ⟨rfl, h6⟩
          have q6 := q5.trans (h6.mono q5.size)
          clear hI2
          go_wp2_with fail
          with_reducible refine (CT.out _).mono ?_
          rintro e7 w7 ⟨rfl, h7⟩
          have q7 := q6.trans (h7.mono q6.size)
          go_wp2
          go_ret
          exact ⟨rfl, q7⟩
    · have CN := Lib.hid fun (A' : Option Addr) (c' : Nat) (W : World) (hW : ChsAt W A' l) => rNormal_any A' n c' l W false hW hl hn ⟨fun h => absurd h (by decide), fun h => absurd h hnr⟩
      have CP := Lib.hid fun (W : World) (hW : Below w.heap.size w W) => pNormal_any A n c l W false (hI.below hW) hl hn ⟨fun h => absurd h (by decide), fun h => absurd h hnr⟩
      have CM := Lib.hid fun (W : World) (hW : Below w.heap.size w W) => pMap_form A n c l at_ bi W (hI.below hW) hl hn hnr
      clear hI hl hnr
      go_enter Try.func3, Try.ntmps3
      go_wp2_with fail
      with_reducible refine (CR.out _ (Below.refl _ _)).mono ?_
      rintro e1 w1 ⟨A1, c1, rfl, hI1, _, h1⟩
      have q1 := h1
      go_wp2_with fail
      with_reducible refine (CN.out A1 c1 _ hI1).mono ?_
      rintro e2 w2 ⟨rfl, h2⟩
      have q2 := q1.trans (h2.mono q1.size)
      clear hI1
      go_wp2_with fail
      with_reducible refine (CM.out _ q2).mono ?_
      rintro e3 w3 ⟨rfl, h3⟩
      have q3 := q2.trans (h3.mono q2.size)
      go_wp2_with fail
      with_reducible refine (CP.out _ q3).mono ?_
      rintro e4 w4 ⟨rfl, h4⟩
      have q4 := q3.trans (h4.mono q3.size)
      go_wp2_with fail
      with_reducible refine (CT.out _).mono ?_
      rintro e5 w5 ⟨rfl, h5⟩
      have q5 := q4.trans (h5.mono q4.size)
      go_wp2
      go_ret
      exact ⟨rfl, q5⟩
end Go.Proofs.Ythbhjecfiiknaaa
