/- Patches: the contracts of size, spans, nothing, Normal. -/
import Derived.Test.YtjkmkobnfhepaaaGreatChg
namespace Go.Proofs.YtjkmkobnfhepaaaGreat
open Go.RowKit
/-- A span's numbers may be. -/
def spOk (a b : Int) : Prop := 0 ≤ a ∧ a ≤ b ∧ b ≤ 1099511627776
instance (a b : Int) : Decidable (spOk a b) := by unfold spOk; infer_instance
end Go.Proofs.YtjkmkobnfhepaaaGreat
