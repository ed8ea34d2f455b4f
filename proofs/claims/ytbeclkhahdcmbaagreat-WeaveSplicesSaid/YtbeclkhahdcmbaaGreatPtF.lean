/- Patches: the contract of the document's Normal. -/
import Derived.Test.YtbeclkhahdcmbaaGreatPtC
namespace Go.Proofs.YtbeclkhahdcmbaaGreat
open Go.RowKit
end Go.Proofs.YtbeclkhahdcmbaaGreat
