/- A part in memory. -/
import Derived.Test.YtpnjokhhbjpciaaGreatDoorKRow
namespace Go.Proofs.YtpnjokhhbjpciaaGreatDoor
open Go.ChangeShapes Go.WideShapes Go.ChangeAt Go.RowKit
set_option linter.unusedVariables false
structure PtV where
  k : Int
  p : Int
  A : Option Addr
  n : Nat
  c : Nat
  rs : List Int
def ptcs (s : PtV) : List Value := [.int .i64 s.k, .int .i64 s.p, .slice s.A s.n s.c]
def PtOk (w : World) (s : PtV) : Prop := s.rs.length = s.n ∧ s.n ≤ maxLen ∧ Caps s.A s.n s.c ∧ IntsAt .i32 w s.A s.rs ∧ Lit.wf (.int .i64 s.k) ∧ Lit.wf (.int .i64 s.p)
theorem PtOk.below {w w' : World} {s : PtV} (h : PtOk w s) (hb : Below w.heap.size w w') : PtOk w' s := ⟨h.1, h.2.1, h.2.2.1, h.2.2.2.1.below hb, h.2.2.2.2⟩
end Go.Proofs.YtpnjokhhbjpciaaGreatDoor
