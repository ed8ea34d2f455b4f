/- The walk of a law on trees, of this program's trees. -/
import Derived.Test.YtklghlaagoaadaaTreeK
import Derived.Test.YtklghlaagoaadaaLawTSlices
namespace Go.Proofs.Ytklghlaagoaadaa
open Go.RowKit
theorem treeSlices_walk {P1 P2 : Prop} (A0 : Option Addr) (n0 c0 : Nat) (l0 : List I7) (a1 a2 : Int) (w : World) (hA0 : ItsAt w A0 l0) (hl0 : l0.length = n0) (hn0 : n0 ≤ maxLen) (hC0 : Caps A0 n0 c0) (_ : P1) (_ : P2) :
    Calls Try.prog 4 #[.slice A0 n0 c0, .int .i64 a1, .int .i64 a2] w fun e w' => e = .returned (.bool true) ∧ Below w.heap.size w w' := treeSlices_any treeC A0 n0 c0 l0 a1 a2 w hA0 hl0 hn0 hC0
end Go.Proofs.Ytklghlaagoaadaa
