/- The document's own answers of trees: Same, where all is the same; High, where it is so. -/
import Derived.Test.YtnfjleobcfhpnaaItBase
import Derived.Test.YtnfjleobcfhpnaaItCheck
import Derived.Deep.QuietTactic
import Derived.BigQuiet
import Derived.Test.YtnfjleobcfhpnaaRefHigh
namespace Go.Proofs.Ytnfjleobcfhpnaa
open Go.RowKit
end Go.Proofs.Ytnfjleobcfhpnaa
