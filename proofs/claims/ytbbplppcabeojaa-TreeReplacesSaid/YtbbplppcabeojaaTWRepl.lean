/- The walk of the law on replacing, of this program's trees. -/
import Derived.Test.YtbbplppcabeojaaTreeK
import Derived.Test.YtbbplppcabeojaaTreeR
import Derived.Test.YtbbplppcabeojaaLawTRepl
namespace Go.Proofs.Ytbbplppcabeojaa
open Go.RowKit
set_option linter.unusedVariables false in
theorem treeR : TreeR TT where
  span := fun w a l h x y A n c ht hn => trepl_span _ l h x y A n c w ht hn
  bad := fun w a l m h x y A n c ht hx hy hA hl hn ho => trepl_bad _ l m h x y A n c w ht hx hy hA hl hn ho
  any := fun w a l m h x y A n c ht hx hy hA hl hc hz ho => trepl_any _ l m h x y A n c w ht hx hy hA hl hc hz ho
theorem treeReplaces_walk (A0 : Option Addr) (n0 c0 : Nat) (l0 : List I7) (A1 : Option Addr) (n1 c1 : Nat) (l1 : List RS) (w : World) (hA0 : ItsAt w A0 l0) (hl0 : l0.length = n0) (hn0 : n0 ≤ maxLen) (hC0 : Caps A0 n0 c0)
    (hA1 : RSAt w A1 l1) (hl1 : l1.length = n1) (hn1 : n1 ≤ maxLen) (hC1 : Caps A1 n1 c1) :
    Calls Try.prog 3 #[.slice A0 n0 c0, .slice A1 n1 c1] w fun e w' => e = .returned (.bool true) ∧ Below w.heap.size w w' := treeRepl_any treeC treeR A0 n0 c0 l0 A1 n1 c1 l1 w hA0 hl0 hn0 hC0 hA1 hl1 hn1 hC1
end Go.Proofs.Ytbbplppcabeojaa
