/- Patches: the pieces that a patch keeps, handed on one by one: the contracts of changed and of kept. -/
import Derived.Test.YtncbhbjhfmbbkaaPtJ
namespace Go.Proofs.Ytncbhbjhfmbbkaa
open Go.RowKit
end Go.Proofs.Ytncbhbjhfmbbkaa
