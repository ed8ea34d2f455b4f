/- Each node has what it must have: the contracts of tree.wellCrowned and tree.sound. -/
import Derived.Test.YtnfjleobcfhpnaaSumOf
import Derived.Test.YtnfjleobcfhpnaaItAll
import Derived.Test.YtnfjleobcfhpnaaItCheck
import Derived.Test.YtnfjleobcfhpnaaTop
import Derived.Deep.RegionHeld3
namespace Go.Proofs.Ytnfjleobcfhpnaa
open Go.RowKit
end Go.Proofs.Ytnfjleobcfhpnaa
