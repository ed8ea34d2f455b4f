/- The library's contracts of slices.SortFunc at spans, laid at this seat (by the kit's lay-plain). -/
import Derived.Shelf.SlSortCmp.WholeK
import Derived.Ground.SlsfProg
import Derived.Test.YtdpmimlhchghlaaGreatProg
namespace Go.Proofs
open Go.Shelf
end Go.Proofs
