/- Folds: Hidden of any set and of none; Over. -/
import Derived.Test.YtdpmimlhchghlaaGreatFoD
namespace Go.Proofs.YtdpmimlhchghlaaGreat
open Go.RowKit Go.Sort
set_option linter.unusedVariables false
/-- The first span that has a place in it. -/
def ovL (h : List Fo) (at_ : Int) : Option Fo := h.find? fun x => decide (x.f < at_ ∧ at_ < x.t)
theorem ovL_step {h : List Fo} {k : Nat} {at_ : Int} (hk : k < h.length) : ovL (h.drop k) at_ = if h[k].f < at_ ∧ at_ < h[k].t then some h[k] else ovL (h.drop (k + 1)) at_ := by
  unfold ovL
  rw [List.drop_eq_getElem_cons hk, List.find?_cons]
  by_cases g : h[k].f < at_ ∧ at_ < h[k].t <;> simp [g]
/-- What Over answers. -/
def ovA (r : Option Fo) : Fo := match r with | some x => x | none => ⟨0, 0⟩
end Go.Proofs.YtdpmimlhchghlaaGreat
