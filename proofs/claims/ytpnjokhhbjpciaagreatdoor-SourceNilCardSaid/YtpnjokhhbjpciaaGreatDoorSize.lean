/- How many bytes a rune has: the contracts of the library's RuneLen and of utf.Size. -/
import Derived.Test.YtpnjokhhbjpciaaGreatDoorBase
namespace Go.Proofs.YtpnjokhhbjpciaaGreatDoor
open Go.RowKit
end Go.Proofs.YtpnjokhhbjpciaaGreatDoor
