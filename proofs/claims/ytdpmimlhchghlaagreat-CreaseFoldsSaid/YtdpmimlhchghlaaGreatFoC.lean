/- Folds: the contracts of spans and New. -/
import Derived.Test.YtdpmimlhchghlaaGreatFoB
import Derived.Shelf.SlSortCmp.NoneTotal
namespace Go.Proofs.YtdpmimlhchghlaaGreat
open Go.RowKit Go.Sort
set_option linter.unusedVariables false
theorem fbool_zero (w : World) : (zeroValue 4).run Tryz.prog w = .ok (.bool false) w := by kernel_rfl
/-- Is it a span of places of n runes? -/
def fsp (a : Fo) (n : Int) : Prop := 0 ≤ a.f ∧ a.f ≤ a.t ∧ a.t ≤ n
instance (a : Fo) (n : Int) : Decidable (fsp a n) := by unfold fsp; exact inferInstance
/-- What is wrong with folds behind others. -/
def fw (n : Int) : List Fo → List Fo → Int
  | _, [] => 0
  | seen, a :: l => if ¬ (fsp a n ∧ a.f ≠ a.t) then 1 else if a ∈ seen then 8 else fw n (seen ++ [a]) l
def fwrong (n : Int) (l : List Fo) : Int := if n < 0 ∨ 1099511627776 < n then 1 else if 60 < l.length then 5 else fw n [] l
/-- What the map has. -/
def fseen (l : List Fo) (x : WFo) : Option Value := if x.1 ∈ l then some (.bool true) else none
theorem fseen_snoc (l : List Fo) (k x : WFo) : (if x = k then some (.bool true) else fseen l x) = fseen (l ++ [k.1]) x := by
  unfold fseen
  by_cases e : x = k
  · subst e; simp
  · have : x.1 ≠ k.1 := fun h => e (Subtype.ext h)
    rw [if_neg e]
    by_cases h : x.1 ∈ l <;> simp [h, this]
end Go.Proofs.YtdpmimlhchghlaaGreat
