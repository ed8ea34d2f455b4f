/- Patches: what two patches keep: the contracts of the closures of keptByBoth. -/
import Derived.Test.YtncbhbjhfmbbkaaPtK
namespace Go.Proofs.Ytncbhbjhfmbbkaa
open Go.RowKit
set_option linter.unusedVariables false
/-- Pieces as values. -/
def pflat (l : List Pc) : List Value := l.flatMap fun x => [.int .i64 x.o, .int .i64 x.w, .int .i64 x.n]
theorem pflat_append (a b : List Pc) : pflat (a ++ b) = pflat a ++ pflat b := by simp [pflat]
theorem pflat_length (o : List Pc) : (pflat o).length = o.length * 3 := by
  induction o with
  | nil => rfl
  | cons x o ih => rw [show pflat (x :: o) = [.int .i64 x.o, .int .i64 x.w, .int .i64 x.n] ++ pflat o from rfl, List.length_append, ih, List.length_cons]; simp; omega
end Go.Proofs.Ytncbhbjhfmbbkaa
