/- The contracts of a law's own ref, refSum, refs and right (package bodkinlaw05). -/
import Derived.Test.YtnfjleobcfhpnaaRitem
import Derived.Test.YtnfjleobcfhpnaaItBase
import Derived.Test.YtnfjleobcfhpnaaItRight
namespace Go.Proofs.Ytnfjleobcfhpnaa
open Go.RowKit
end Go.Proofs.Ytnfjleobcfhpnaa
