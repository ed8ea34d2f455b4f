/- Patches: the contracts of the document's Normal and Map. -/
import Derived.Test.YtbeclkhahdcmbaaGreatPtA
namespace Go.Proofs.YtbeclkhahdcmbaaGreat
open Go.RowKit
end Go.Proofs.YtbeclkhahdcmbaaGreat
