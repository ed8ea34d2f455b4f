/- Reading an element of three sizes held by value. -/
import Derived.Test.YtbbplppcabeojaaItBase
namespace Go.Proofs.Ytbbplppcabeojaa
open Go.RowKit
theorem idx3_0 (a b c : Int) (w : World) : (Instr.index 50 (.agg #[.int .i64 a, .int .i64 b, .int .i64 c]) (.int .i64 0)).run Try.prog w = .ok (.int .i64 a) w := by
  simp [Instr.index, run_underlying Try.underlying50, asIntOf, part, isAgg, go_sem]
theorem idx3_1 (a b c : Int) (w : World) : (Instr.index 50 (.agg #[.int .i64 a, .int .i64 b, .int .i64 c]) (.int .i64 1)).run Try.prog w = .ok (.int .i64 b) w := by
  simp [Instr.index, run_underlying Try.underlying50, asIntOf, part, isAgg, go_sem]
theorem idx3_2 (a b c : Int) (w : World) : (Instr.index 50 (.agg #[.int .i64 a, .int .i64 b, .int .i64 c]) (.int .i64 2)).run Try.prog w = .ok (.int .i64 c) w := by
  simp [Instr.index, run_underlying Try.underlying50, asIntOf, part, isAgg, go_sem]
end Go.Proofs.Ytbbplppcabeojaa
