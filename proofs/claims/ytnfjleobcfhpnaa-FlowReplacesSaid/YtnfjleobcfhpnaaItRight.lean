/- The contract of bodkinref04.Right. -/
import Derived.Test.YtnfjleobcfhpnaaItBase
namespace Go.Proofs.Ytnfjleobcfhpnaa
open Go.RowKit
theorem rb_no {rb : Bool} {i : I7} (h : rb = true ↔ Oki i) (hn : ¬ Oki i) : false = rb := by
  cases rb
  · rfl
  · exact absurd (h.1 rfl) hn
end Go.Proofs.Ytnfjleobcfhpnaa
