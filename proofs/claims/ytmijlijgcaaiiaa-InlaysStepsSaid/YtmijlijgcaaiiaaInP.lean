/- Inlays: the document's Within. -/
import Derived.Test.YtmijlijgcaaiiaaInN
import Derived.Test.YtmijlijgcaaiiaaInD
namespace Go.Proofs.Ytmijlijgcaaiiaa
open Go.RowKit Go.Sort
set_option linter.unusedVariables false
end Go.Proofs.Ytmijlijgcaaiiaa
