/- Methods of trees: Sound. -/
import Derived.Test.YtnfjleobcfhpnaaTreeKQ
import Derived.Test.YtnfjleobcfhpnaaSound
namespace Go.Proofs.Ytnfjleobcfhpnaa
open Go.RowKit
end Go.Proofs.Ytnfjleobcfhpnaa
