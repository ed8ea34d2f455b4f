/- Patches: the contract of the document's Normal. -/
import Derived.Test.YtjkmkobnfhepaaaGreatPtC
namespace Go.Proofs.YtjkmkobnfhepaaaGreat
open Go.RowKit
end Go.Proofs.YtjkmkobnfhepaaaGreat
