/- How many bytes a rune has: the contracts of the library's RuneLen and of utf.Size. -/
import Derived.Test.YtglalmhpgdgeeaaGreatDoorBase
namespace Go.Proofs.YtglalmhpgdgeeaaGreatDoor
open Go.RowKit
end Go.Proofs.YtglalmhpgdgeeaaGreatDoor
