/- Patches: the contracts of size, spans, nothing, Normal. -/
import Derived.Test.YtbeclkhahdcmbaaGreatChg
namespace Go.Proofs.YtbeclkhahdcmbaaGreat
open Go.RowKit
theorem bt {b : Bool} {P : Prop} (h : b = true ↔ P) (g : P) : true = b := (h.2 g).symm
theorem bf {b : Bool} {P : Prop} (h : b = true ↔ P) (g : ¬ P) : false = b := by cases b with | true => exact absurd (h.1 rfl) g | false => rfl
/-- A span's numbers may be. -/
def spOk (a b : Int) : Prop := 0 ≤ a ∧ a ≤ b ∧ b ≤ 1099511627776
instance (a b : Int) : Decidable (spOk a b) := by unfold spOk; infer_instance
theorem raw4 {t : TypeId} {W : World} {b : Nat} {v0 v1 v2 v3 : Value} (h : RawAt t W b #[v0, v1, v2, v3]) : W.cell? ⟨b, 0, none⟩ = some v0 ∧ W.cell? ⟨b, 1, none⟩ = some v1 ∧ W.cell? ⟨b, 2, none⟩ = some v2 ∧ W.cell? ⟨b, 3, none⟩ = some v3 :=
  ⟨RawAt.cell h 0, RawAt.cell h 1, RawAt.cell h 2, RawAt.cell h 3⟩
/-- The patch's block that tells of the change ahead; what it says. -/
def M40 : Int := 1099511627776
end Go.Proofs.YtbeclkhahdcmbaaGreat
