/- Equal lists of runes compare equal: what the laws take of bodkinplain.Runes. -/
import Derived.Test.YtglalmhpgdgeeaaGreatDoorBase
namespace Go.Proofs.YtglalmhpgdgeeaaGreatDoor
open Go.RowKit
end Go.Proofs.YtglalmhpgdgeeaaGreatDoor
