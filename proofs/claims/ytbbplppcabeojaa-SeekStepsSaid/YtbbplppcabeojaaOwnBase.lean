/- A row of the call's own behind a call that changes no old block. -/
import Derived.Test.YtbbplppcabeojaaBase
import Derived.OpenShut
import Derived.Laws.AppendOwnNone
namespace Go.Proofs.Ytbbplppcabeojaa
open Go.RowKit
theorem own_below {w w' : World} {base : Nat} {e : TypeId} {size : Nat} {v : Value} {n : Nat} {xs : List Value} (h : w.ownsRow base e size v n xs) (hb : Below w.heap.size w w') : w'.ownsRow base e size v n xs := by
  refine ⟨h.1, ?_⟩
  rcases h.2 with h2 | ⟨g, cap, cur, rfl, hB, c, h3⟩
  · exact .inl h2
  · exact .inr ⟨g, cap, cur, rfl, hB, (hb.block g (block_lt c)).trans c, h3⟩
end Go.Proofs.Ytbbplppcabeojaa
