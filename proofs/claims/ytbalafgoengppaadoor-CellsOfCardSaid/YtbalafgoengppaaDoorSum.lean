/- How many cells runes take together: the contract of (*Table).Sum. -/
import Derived.Test.YtbalafgoengppaaDoorTable
namespace Go.Proofs.YtbalafgoengppaaDoor
open Go.RowKit
theorem ones (l : List Int) : (l.map fun _ => (1 : Int)).sum = l.length := by
  induction l with
  | nil => rfl
  | cons x r ih => simp only [List.map_cons, List.sum_cons, ih, List.length_cons]; omega
end Go.Proofs.YtbalafgoengppaaDoor
