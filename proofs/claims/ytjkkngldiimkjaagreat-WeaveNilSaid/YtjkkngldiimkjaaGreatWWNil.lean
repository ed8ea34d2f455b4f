/- Weaves: the law WeaveNil, walked. -/
import Derived.Test.YtjkkngldiimkjaaGreatWvL
import Derived.Test.YtjkkngldiimkjaaGreatWvU
namespace Go.Proofs.YtjkkngldiimkjaaGreat
open Go.RowKit
set_option linter.unusedVariables false
theorem wvNone (w : World) : WvAt w none [] 0 := .inl ⟨rfl, rfl, rfl⟩
theorem wvUpd_nil (w : World) : Calls Tryz.prog 29 #[.pointer none, .agg #[.int .i64 0, .int .i64 0], .agg #[.int .i64 0, .int .i64 0], .pointer none] w fun e w' => ∃ a h', e = .returned (.tuple #[.pointer (some a), .int .i64 0]) ∧ WvAt w' (some a) [] h' ∧ Below w.heap.size w w' :=
  wvUpd_yes (ps := none) (wvNone w) 0 0 0 0 [] (fun W _ => iLen_nil W) (fun W _ => iWithin_nil 0 0) (Int.le_refl 0) (Int.le_refl 0) (Int.le_refl 0) (Int.le_refl 0) (Int.le_refl 0) rfl (by omega) (by show (0 : Int) ≤ _; omega) (by simp) (fun a ha => by cases ha) (by simp) (by simp [wfnd]) (fun i hi => by cases hi) (by show _ ≤ (0 : Int) ∧ (0 : Int) ≤ _; omega) ⟨by show (0 : Int) ≤ 0 + 0 - 0; omega, by show (0 : Int) + 0 - 0 ≤ _; omega⟩
set_option maxHeartbeats 16000000 in
set_option maxRecDepth 100000 in
theorem weaveNil_walk (n : Int) (w : World) (_wf : (Lit.int .i64 n).wf = true) :
    Calls Tryz.prog 8 #[.int .i64 n] w fun e w' => e = .returned (.bool true) ∧ Below w.heap.size w w' := by
  have C4 := Lib.hid fun W => four_any W
  have CU := Lib.hid fun W => wvUpd_nil W
  have CP := Lib.hid fun W => wvPcs (wvNone W)
  have CH := Lib.hid fun W => wvHeight (wvNone W)
  have CZ := Lib.hid fun W => wvSizes (wvNone W)
  have e0 : wdsum 0 ([] : List I7) = 0 := rfl
  have e1 : wdsum 1 ([] : List I7) = 0 := rfl
  rw [e0, e1] at CZ
  have e2 : ([] : List I7).length = 0 := rfl
  rw [e2] at CP
  by_cases g : n = 0
  · subst g
    have CO := Lib.hid (wvOut_yes (wvNone w) 0 0 ⟨Int.le_refl 0, Int.le_refl 0⟩ (.inl rfl))
    have CI := Lib.hid fun W => wvIn_yes (wvNone W) 0 ⟨Int.le_refl 0, Int.le_refl 0⟩
    rw [show woutP [] 0 0 = 0 from rfl] at CO
    rw [show winP [] 0 = (0, 0) from rfl] at CI
    go_enter Tryz.func8, Tryz.ntmps8
    go_wp2_with fail
    with_reducible refine (CO.out).mono ?_
    rintro e w1 ⟨rfl, b1⟩
    have Q1 := Lib.hid b1
    clear b1
    go_wp2_with fail
    with_reducible refine (CI.out _).mono ?_
    rintro e w2 ⟨rfl, b2⟩
    have Q2 := Lib.hid (Q1.out.trans (b2.mono Q1.out.size))
    clear b2
    go_wp2_with fail
    with_reducible refine (CU.out _).mono ?_
    rintro e w3 ⟨a3, h3, rfl, hT3, b3⟩
    have Q3 := Lib.hid (Q2.out.trans (b3.mono Q2.out.size))
    have CP3 := Lib.hid fun (W : World) (hW : Below w3.heap.size w3 W) => wvPcs (hT3.below hW)
    rw [e2] at CP3
    clear b3 hT3
    go_wp2_with fail
    with_reducible refine (CZ.out _).mono ?_
    rintro e w4 ⟨rfl, b4⟩
    have Q4 := Lib.hid (Q3.out.trans (b4.mono Q3.out.size))
    go_wp2_with fail
    with_reducible refine (CP3.out _ b4).mono ?_
    rintro e w5 ⟨v5, rfl, o5, b5⟩
    obtain ⟨A5, c5, rfl⟩ := own_formI o5
    have Q5 := Lib.hid (Q4.out.trans (b5.mono Q4.out.size))
    clear o5 b4 b5 CP3
    go_wp2_with fail
    with_reducible refine (CH.out _).mono ?_
    rintro e w6 ⟨rfl, b6⟩
    have Q6 := Lib.hid (Q5.out.trans (b6.mono Q5.out.size))
    clear b6
    go_wp2_with fail
    with_reducible refine (CP.out _).mono ?_
    rintro e w7 ⟨v7, rfl, o7, b7⟩
    obtain ⟨A7, c7, rfl⟩ := own_formI o7
    have Q7 := Lib.hid (Q6.out.trans (b7.mono Q6.out.size))
    clear o7 b7
    go_wp2_with fail
    with_reducible refine (C4.out _).mono ?_
    rintro e w8 ⟨rfl, b8⟩
    have Q8 := Lib.hid (Q7.out.trans (b8.mono Q7.out.size))
    clear b8
    go_wp2
    go_ret
    exact ⟨rfl, Q8.out⟩
  · have k0 : (n == 0) = false := by simpa using g
    have hno : ∀ k : Nat, ¬ WvAsk k [] n := fun k hk => by
      have h1 := hk.1
      have h2 : n ≤ 0 := hk.2
      omega
    have CO := Lib.hid (wvOut_no (wvNone w) n 0 (fun h => hno 0 h.1))
    have CI := Lib.hid fun W => wvIn_no (wvNone W) n (hno 1)
    clear hno
    go_enter Tryz.func8, Tryz.ntmps8
    go_wp2_with fail
    with_reducible refine (CO.out).mono ?_
    rintro e w1 ⟨rfl, b1⟩
    have Q1 := Lib.hid b1
    clear b1
    go_wp2_with fail
    with_reducible refine (CI.out _).mono ?_
    rintro e w2 ⟨rfl, b2⟩
    have Q2 := Lib.hid (Q1.out.trans (b2.mono Q1.out.size))
    clear b2
    go_wp2_with fail
    with_reducible refine (CU.out _).mono ?_
    rintro e w3 ⟨a3, h3, rfl, hT3, b3⟩
    have Q3 := Lib.hid (Q2.out.trans (b3.mono Q2.out.size))
    have CP3 := Lib.hid fun (W : World) (hW : Below w3.heap.size w3 W) => wvPcs (hT3.below hW)
    rw [e2] at CP3
    clear b3 hT3
    go_wp2_with fail
    with_reducible refine (CZ.out _).mono ?_
    rintro e w4 ⟨rfl, b4⟩
    have Q4 := Lib.hid (Q3.out.trans (b4.mono Q3.out.size))
    go_wp2_with fail
    with_reducible refine (CP3.out _ b4).mono ?_
    rintro e w5 ⟨v5, rfl, o5, b5⟩
    obtain ⟨A5, c5, rfl⟩ := own_formI o5
    have Q5 := Lib.hid (Q4.out.trans (b5.mono Q4.out.size))
    clear o5 b4 b5 CP3
    go_wp2_with fail
    with_reducible refine (CH.out _).mono ?_
    rintro e w6 ⟨rfl, b6⟩
    have Q6 := Lib.hid (Q5.out.trans (b6.mono Q5.out.size))
    clear b6
    go_wp2_with fail
    with_reducible refine (CP.out _).mono ?_
    rintro e w7 ⟨v7, rfl, o7, b7⟩
    obtain ⟨A7, c7, rfl⟩ := own_formI o7
    have Q7 := Lib.hid (Q6.out.trans (b7.mono Q6.out.size))
    clear o7 b7
    go_wp2_with fail
    with_reducible refine (C4.out _).mono ?_
    rintro e w8 ⟨rfl, b8⟩
    have Q8 := Lib.hid (Q7.out.trans (b8.mono Q7.out.size))
    clear b8
    go_wp2
    go_ret
    exact ⟨rfl, Q8.out⟩
end Go.Proofs.YtjkkngldiimkjaaGreat
