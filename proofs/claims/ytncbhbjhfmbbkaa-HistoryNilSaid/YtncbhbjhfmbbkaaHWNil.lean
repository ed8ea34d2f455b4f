/- The walk of the law on nil histories. -/
import Derived.Test.YtncbhbjhfmbbkaaHsF
import Derived.Test.YtncbhbjhfmbbkaaHsO
namespace Go.Proofs.Ytncbhbjhfmbbkaa
open Go.RowKit
set_option linter.unusedVariables false
set_option maxHeartbeats 4000000 in
set_option maxRecDepth 100000 in
theorem historyNil_walk (s : HO) (w : World) (_hO : HOok w s) :
    Calls Try.prog 10 #[.agg #[.int .i64 s.a, .slice s.A s.n s.c, .slice s.A' s.n' s.c']] w fun e w' => e = .returned (.bool true) ∧ Below w.heap.size w w' := by
  have CA := Lib.hid fun W => hAgain_any W
  have CU := Lib.hid fun W => hUndo_nil W
  have CR := Lib.hid fun W => hRedo_nil W
  have CS := Lib.hid fun W => hSizes_nil W
  have CP := Lib.hid fun x y W => hPush_nil x y W
  have x1 : Below w.heap.size w (w.alloc (.cells #[.int .i64 s.a, .slice s.A s.n s.c, .slice s.A' s.n' s.c'] 66)) := (Below.refl _ _).alloc (Nat.le_refl _) _
  have R1 : RawAt 66 (w.alloc (.cells #[.int .i64 s.a, .slice s.A s.n s.c, .slice s.A' s.n' s.c'] 66)) w.heap.size #[.int .i64 s.a, .slice s.A s.n s.c, .slice s.A' s.n' s.c'] := heap_alloc_new w _
  generalize s.n = n at *
  generalize s.c = c at *
  generalize s.A = A at *
  generalize s.n' = n' at *
  generalize s.c' = c' at *
  generalize s.A' = A' at *
  generalize s.a = a at *
  have HR1 := Lib.hid R1
  have e1 := RawAt.cell R1 1
  simp at e1
  clear R1 _hO
  by_cases h1 : 70 < n
  · have k1 : decide (70 < n) = true := decide_eq_true h1
    have k2 : decide ((70 : Int) < (n : Int)) = true := decide_eq_true (by omega)
    go_enter Try.func10, Try.ntmps10
    go_wp2_with fail
    with_reducible refine (CA.out _).mono ?_
    rintro e w1 ⟨rfl, h2⟩
    have q := x1.trans (h2.mono x1.size)
    go_wp2
    go_ret
    exact ⟨rfl, q⟩
  · have k1 : decide (70 < n) = false := decide_eq_false h1
    have k2 : decide ((70 : Int) < (n : Int)) = false := decide_eq_false (by omega)
    go_enter Try.func10, Try.ntmps10
    go_wp2_with fail
    with_reducible refine (CU.out _).mono ?_
    rintro e1 w1 ⟨v1, rfl, o1, h1⟩
    obtain ⟨A1, c1, rfl⟩ := own_form o1
    clear o1
    have q1 := x1.trans (h1.mono x1.size)
    have R2 := RawAt.below HR1.out h1 HR1.out.lt
    go_wp2_with fail
    with_reducible refine (CR.out _).mono ?_
    rintro e2 w2 ⟨v2, rfl, o2, h2⟩
    obtain ⟨A2, c2, rfl⟩ := own_form o2
    clear o2
    have q2 := q1.trans (h2.mono q1.size)
    have R3 := RawAt.below R2 h2 R2.lt
    clear R2 q1
    go_wp2_with fail
    with_reducible refine (CS.out _).mono ?_
    rintro e3 w3 ⟨rfl, h3⟩
    have q3 := q2.trans (h3.mono q2.size)
    have R4 := RawAt.below R3 h3 R3.lt
    have e4 := RawAt.cell R4 1
    simp at e4
    clear R3 R4 q2
    go_wp2_with fail
    with_reducible refine (CP.out _ _ _).mono ?_
    rintro e5 w5 ⟨rfl, h5⟩
    have q5 := q3.trans (h5.mono q3.size)
    clear q3
    go_wp2_with fail
    with_reducible refine (CA.out _).mono ?_
    rintro e6 w6 ⟨rfl, h6⟩
    have q6 := q5.trans (h6.mono q5.size)
    clear q5
    go_wp2
    go_ret
    exact ⟨rfl, q6⟩
end Go.Proofs.Ytncbhbjhfmbbkaa
