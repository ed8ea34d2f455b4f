/- The walk of a law on trees, of this program's trees. -/
import Derived.Test.YtklghlaagoaadaaTreeK
import Derived.Test.YtklghlaagoaadaaLawTJoins
namespace Go.Proofs.Ytklghlaagoaadaa
open Go.RowKit
theorem treeJoins_walk (A0 : Option Addr) (n0 c0 : Nat) (l0 : List I7) (A1 : Option Addr) (n1 c1 : Nat) (l1 : List I7) (w : World) (hA0 : ItsAt w A0 l0) (hl0 : l0.length = n0) (hn0 : n0 ≤ maxLen) (hC0 : Caps A0 n0 c0)
    (hA1 : ItsAt w A1 l1) (hl1 : l1.length = n1) (hn1 : n1 ≤ maxLen) (hC1 : Caps A1 n1 c1) :
    Calls Try.prog 5 #[.slice A0 n0 c0, .slice A1 n1 c1] w fun e w' => e = .returned (.bool true) ∧ Below w.heap.size w w' := treeJoins_any treeC A0 n0 c0 l0 A1 n1 c1 l1 w hA0 hl0 hn0 hC0 hA1 hl1 hn1 hC1
end Go.Proofs.Ytklghlaagoaadaa
