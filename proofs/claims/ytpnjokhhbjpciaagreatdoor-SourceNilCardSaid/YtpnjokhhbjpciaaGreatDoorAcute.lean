/- The small case that each law of texts asks, and the contracts of utf.Good and utf.Clean. -/
import Derived.Shelf.Unicode.DecodeAny
import Derived.Test.YtpnjokhhbjpciaaGreatDoorBuilder
import Derived.Test.YtpnjokhhbjpciaaGreatDoorSize
import Derived.Test.YtpnjokhhbjpciaaGreatDoorBase
import Derived.Test.YtpnjokhhbjpciaaGreatDoorRunes
namespace Go.Proofs.YtpnjokhhbjpciaaGreatDoor
open Go.RowKit
/-- The library's two tables, as its text lays them. -/
def UTabs (w : World) : Prop := Lib.Utf8Tabs 1 2 w
theorem UTabs.below {w w' : World} (h : UTabs w) (hb : Below w.heap.size w w') : UTabs w' := Utf8Tabs_below h hb
theorem ints_block {kd : IntKind} {w : World} {g : Nat} {l : List Int} {cs : Array Value} {t : TypeId} {fz : Nat × Nat} (h : w.heap[g]? = some (.cells cs t fz)) (hc : cs.toList = l.map (.int kd)) : IntsAt kd w (some ⟨g, 0, none⟩) l := by
  intro _
  refine ⟨g, 0, rfl, block_lt h, fun k hk => ?_⟩
  rw [cell_of_row w g _ cs t fz h, ← Array.getElem?_toList, hc, Nat.zero_add]
  simp [nth, List.getD, hk]
end Go.Proofs.YtpnjokhhbjpciaaGreatDoor
