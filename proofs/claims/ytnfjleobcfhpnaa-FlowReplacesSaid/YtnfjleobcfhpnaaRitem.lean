/- The document's items, as a type. -/
import Derived.Test.YtnfjleobcfhpnaaItBase
namespace Go.Proofs.Ytnfjleobcfhpnaa
open Go.RowKit
end Go.Proofs.Ytnfjleobcfhpnaa
