/- Patches: the contracts of the document's Normal and Map. -/
import Derived.Test.YtjkmkobnfhepaaaGreatPtA
namespace Go.Proofs.YtjkmkobnfhepaaaGreat
open Go.RowKit
end Go.Proofs.YtjkmkobnfhepaaaGreat
