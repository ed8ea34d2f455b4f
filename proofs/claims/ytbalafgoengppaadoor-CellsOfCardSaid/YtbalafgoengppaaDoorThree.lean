/- The small case that each law of widths asks: the contract of three. -/
import Derived.Test.YtbalafgoengppaaDoorPlain
namespace Go.Proofs.YtbalafgoengppaaDoor
open Go.RowKit
theorem IntsAt.of_block {kd : IntKind} {w : World} {g : Nat} {l : List Int} {cs : Array Value} {t : TypeId} {fz : Nat × Nat} (h : w.heap[g]? = some (.cells cs t fz)) (hc : cs.toList = l.map (.int kd)) : IntsAt kd w (some ⟨g, 0, none⟩) l := by
  intro _
  refine ⟨g, 0, rfl, block_lt h, fun k hk => ?_⟩
  rw [cell_of_row w g _ cs t fz h, ← Array.getElem?_toList, hc, Nat.zero_add]
  simp [nth, List.getD, hk]
end Go.Proofs.YtbalafgoengppaaDoor
