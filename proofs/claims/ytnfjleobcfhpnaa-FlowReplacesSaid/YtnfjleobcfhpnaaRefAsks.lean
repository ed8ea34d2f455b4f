/- The document's own answers of trees: Asks. -/
import Derived.Test.YtnfjleobcfhpnaaRefFind
import Derived.Deep.RegionHeld3
namespace Go.Proofs.Ytnfjleobcfhpnaa
open Go.RowKit
end Go.Proofs.Ytnfjleobcfhpnaa
