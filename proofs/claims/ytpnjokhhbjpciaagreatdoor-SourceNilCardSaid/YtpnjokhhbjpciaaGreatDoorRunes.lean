/- Equal lists of runes compare equal: what the laws take of bodkinplain.Runes. -/
import Derived.Test.YtpnjokhhbjpciaaGreatDoorBase
namespace Go.Proofs.YtpnjokhhbjpciaaGreatDoor
open Go.RowKit
end Go.Proofs.YtpnjokhhbjpciaaGreatDoor
