/- Flow: the line of a row: inside, find, spotOf. -/
import Derived.Test.YtnfjleobcfhpnaaFlB
import Derived.Test.YtnfjleobcfhpnaaTreeF
namespace Go.Proofs.Ytnfjleobcfhpnaa
open Go.RowKit
set_option linter.unusedVariables false
set_option maxHeartbeats 4000000 in
set_option maxRecDepth 100000 in
theorem flinside (at_ n s b r m p : Int) (w : World) (h1 : at_ - r ≤ 4000000000000000000) (h2 : -4000000000000000000 ≤ at_ - r) : Calls Try.prog 79 #[.agg #[.int .i64 2, .int .i64 at_], .agg #[.int .i64 n, .int .i64 s, .int .i64 b, .int .i64 r, .int .i64 m, .int .i64 p]] w fun e w' => e = .returned (.int .i64 (at_ - r)) ∧ Below w.heap.size w w' := by
  have hw : IntKind.i64.wrap (at_ - r) = at_ - r := IntWalk.i64_in _ (by omega)
  have x1 : RawAt 117 ((w.alloc (.cells #[.int .i64 2, .int .i64 at_] 117)).alloc (.cells #[.int .i64 n, .int .i64 s, .int .i64 b, .int .i64 r, .int .i64 m, .int .i64 p] 128)) w.heap.size #[.int .i64 2, .int .i64 at_] := (new2 w _ _ _ _).1
  have x2 : RawAt 128 ((w.alloc (.cells #[.int .i64 2, .int .i64 at_] 117)).alloc (.cells #[.int .i64 n, .int .i64 s, .int .i64 b, .int .i64 r, .int .i64 m, .int .i64 p] 128)) (w.heap.size + 1) #[.int .i64 n, .int .i64 s, .int .i64 b, .int .i64 r, .int .i64 m, .int .i64 p] := (new2 w _ _ _ _).2.1
  have xb : Below w.heap.size w ((w.alloc (.cells #[.int .i64 2, .int .i64 at_] 117)).alloc (.cells #[.int .i64 n, .int .i64 s, .int .i64 b, .int .i64 r, .int .i64 m, .int .i64 p] 128)) := ((Below.refl _ _).alloc (Nat.le_refl _) _).alloc (by simp) _
  obtain ⟨W2, hW2⟩ : ∃ W2, W2 = ((w.alloc (.cells #[.int .i64 2, .int .i64 at_] 117)).alloc (.cells #[.int .i64 n, .int .i64 s, .int .i64 b, .int .i64 r, .int .i64 m, .int .i64 p] 128)) := ⟨_, rfl⟩
  rw [← hW2] at x1 x2 xb
  have HW2 := Lib.hid hW2
  have XB := Lib.hid xb
  have c0 := RawAt.cell x1 0
  have c1 := RawAt.cell x1 1
  have d3 := RawAt.cell x2 3
  simp at c0 c1 d3
  clear hW2 x1 x2 xb h1 h2
  go_enter Try.func79, Try.ntmps79
  go_wp2_with fail
  rw [← HW2.out]
  go_wp2_with fail
  go_quiet (fail)
  have HQ := drewN_below XB.out nq
  go_wp2
  go_ret
  exact ⟨rfl, HQ⟩
end Go.Proofs.Ytnfjleobcfhpnaa
