/- Folds: a set in memory; kept, All, Len. -/
import Derived.Test.YtdpmimlhchghlaaGreatFoK
import Derived.Test.YtdpmimlhchghlaaGreatKRow
namespace Go.Proofs.YtdpmimlhchghlaaGreat
open Go.RowKit Go.Sort
set_option linter.unusedVariables false
theorem own_formF {w : World} {base n size : Nat} {e : TypeId} {v : Value} {xs : List Value} (h : w.ownsRow base e size v n xs) : ∃ A c, v = .slice A n c := by
  rcases h.2 with ⟨rfl, rfl⟩ | ⟨g, cap, cur, rfl, _⟩
  · exact ⟨_, _, rfl⟩
  · exact ⟨_, _, rfl⟩
theorem own_baseF {w : World} {base base' n size : Nat} {e : TypeId} {v : Value} {xs : List Value} (h : w.ownsRow base e size v n xs) (hb : base' ≤ base) : w.ownsRow base' e size v n xs := by
  refine ⟨h.1, ?_⟩
  rcases h.2 with g | ⟨g, cap, cur, e', hB, c⟩
  · exact .inl g
  · exact .inr ⟨g, cap, cur, e', by omega, c⟩
/-- What All answers: the anchors, in memory of one's own. -/
def FOwn (w : World) (v : Value) (o : List Fo) : Prop := ∃ B, w.ownsRow B 47 2 v o.length (kfl encF o)
end Go.Proofs.YtdpmimlhchghlaaGreat
