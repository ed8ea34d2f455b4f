/- Creases: the law CreaseNil, walked. -/
import Derived.Test.YtdpmimlhchghlaaGreatCrNi
namespace Go.Proofs.YtdpmimlhchghlaaGreat
open Go.RowKit
set_option linter.unusedVariables false
set_option maxHeartbeats 16000000 in
set_option maxRecDepth 100000 in
theorem creaseNil_walk (n : Int) (w : World) (_wf : (Lit.int .i64 n).wf = true) :
    Calls Tryz.prog 8 #[.int .i64 n] w fun e w' => e = .returned (.bool true) ∧ Below w.heap.size w w' := by
  have C6 := Lib.hid fun W => csix_any W
  have CU := Lib.hid fun W => crUpd0 W
  have CP := Lib.hid fun W => crPcs (crNone W) (fun i hi => by cases hi)
  have CH := Lib.hid fun W => crHeight (crNone W)
  have CZ := Lib.hid fun W => crSizes (crNone W)
  rw [show wdsum 0 ([] : List I7) = 0 from rfl, show wdsum 1 ([] : List I7) = 0 from rfl] at CZ
  have e2 : ([] : List I7).length = 0 := rfl
  rw [e2] at CP
  rw [show ((0 : Nat) : Int) = 0 from rfl] at CH
  by_cases g : n = 0
  · subst g
    have CO := Lib.hid (crOut_yes (crNone w) 0 ⟨Int.le_refl 0, Int.le_refl 0⟩)
    have CI := Lib.hid fun W => crIn_yes (crNone W) 0 ⟨Int.le_refl 0, Int.le_refl 0⟩
    rw [coutP_nil] at CO
    rw [cinP_nil] at CI
    go_enter Tryz.func8, Tryz.ntmps8
    go_wp2_with fail
    with_reducible refine (CO.out).mono ?_
    rintro e w1 ⟨rfl, b1⟩
    have Q1 := Lib.hid b1
    clear b1
    go_wp2_with fail
    with_reducible refine (CI.out _).mono ?_
    rintro e w2 ⟨rfl, b2⟩
    have Q2 := Lib.hid (Q1.out.trans (b2.mono Q1.out.size))
    clear b2
    go_wp2_with fail
    with_reducible refine (CU.out _).mono ?_
    rintro e w3 ⟨a3, h3, rfl, hT3, b3⟩
    have Q3 := Lib.hid (Q2.out.trans (b3.mono Q2.out.size))
    have CP3 := Lib.hid fun (W : World) (hW : Below w3.heap.size w3 W) => crPcs (hT3.below hW) (fun i hi => by cases hi)
    rw [e2] at CP3
    clear b3 hT3
    go_wp2_with fail
    with_reducible refine (CZ.out _).mono ?_
    rintro e w4 ⟨rfl, b4⟩
    have Q4 := Lib.hid (Q3.out.trans (b4.mono Q3.out.size))
    go_wp2_with fail
    with_reducible refine (CP3.out _ b4).mono ?_
    rintro e w5 ⟨v5, rfl, o5, b5⟩
    obtain ⟨A5, c5, rfl⟩ := own_formI o5
    have Q5 := Lib.hid (Q4.out.trans (b5.mono Q4.out.size))
    clear o5 b4 b5 CP3
    go_wp2_with fail
    with_reducible refine (CH.out _).mono ?_
    rintro e w6 ⟨rfl, b6⟩
    have Q6 := Lib.hid (Q5.out.trans (b6.mono Q5.out.size))
    clear b6
    go_wp2_with fail
    with_reducible refine (CP.out _).mono ?_
    rintro e w7 ⟨v7, rfl, o7, b7⟩
    obtain ⟨A7, c7, rfl⟩ := own_formI o7
    have Q7 := Lib.hid (Q6.out.trans (b7.mono Q6.out.size))
    clear o7 b7
    go_wp2_with fail
    with_reducible refine (C6.out _).mono ?_
    rintro e w8 ⟨rfl, b8⟩
    have Q8 := Lib.hid (Q7.out.trans (b8.mono Q7.out.size))
    clear b8
    go_wp2
    go_ret
    exact ⟨rfl, Q8.out⟩
  · have k0 : (n == 0) = false := by simpa using g
    have hno : ∀ k : Nat, ¬ WvAsk k [] n := fun k hk => by
      have h1 := hk.1
      have h2 : n ≤ 0 := hk.2
      omega
    have CO := Lib.hid (crOut_no (crNone w) n (hno 0))
    have CI := Lib.hid fun W => crIn_no (crNone W) n (hno 1)
    clear hno
    go_enter Tryz.func8, Tryz.ntmps8
    go_wp2_with fail
    with_reducible refine (CO.out).mono ?_
    rintro e w1 ⟨rfl, b1⟩
    have Q1 := Lib.hid b1
    clear b1
    go_wp2_with fail
    with_reducible refine (CI.out _).mono ?_
    rintro e w2 ⟨rfl, b2⟩
    have Q2 := Lib.hid (Q1.out.trans (b2.mono Q1.out.size))
    clear b2
    go_wp2_with fail
    with_reducible refine (CU.out _).mono ?_
    rintro e w3 ⟨a3, h3, rfl, hT3, b3⟩
    have Q3 := Lib.hid (Q2.out.trans (b3.mono Q2.out.size))
    have CP3 := Lib.hid fun (W : World) (hW : Below w3.heap.size w3 W) => crPcs (hT3.below hW) (fun i hi => by cases hi)
    rw [e2] at CP3
    clear b3 hT3
    go_wp2_with fail
    with_reducible refine (CZ.out _).mono ?_
    rintro e w4 ⟨rfl, b4⟩
    have Q4 := Lib.hid (Q3.out.trans (b4.mono Q3.out.size))
    go_wp2_with fail
    with_reducible refine (CP3.out _ b4).mono ?_
    rintro e w5 ⟨v5, rfl, o5, b5⟩
    obtain ⟨A5, c5, rfl⟩ := own_formI o5
    have Q5 := Lib.hid (Q4.out.trans (b5.mono Q4.out.size))
    clear o5 b4 b5 CP3
    go_wp2_with fail
    with_reducible refine (CH.out _).mono ?_
    rintro e w6 ⟨rfl, b6⟩
    have Q6 := Lib.hid (Q5.out.trans (b6.mono Q5.out.size))
    clear b6
    go_wp2_with fail
    with_reducible refine (CP.out _).mono ?_
    rintro e w7 ⟨v7, rfl, o7, b7⟩
    obtain ⟨A7, c7, rfl⟩ := own_formI o7
    have Q7 := Lib.hid (Q6.out.trans (b7.mono Q6.out.size))
    clear o7 b7
    go_wp2_with fail
    with_reducible refine (C6.out _).mono ?_
    rintro e w8 ⟨rfl, b8⟩
    have Q8 := Lib.hid (Q7.out.trans (b8.mono Q7.out.size))
    clear b8
    go_wp2
    go_ret
    exact ⟨rfl, Q8.out⟩
end Go.Proofs.YtdpmimlhchghlaaGreat
