/- A change by value, opened. -/
import Derived.Test.YtjkkngldiimkjaaGreatChOpens
namespace Go.Proofs.YtjkkngldiimkjaaGreat
open Go.ChangeShapes Go.WideShapes Go.ChangeAt Go.RowKit
set_option linter.unusedVariables false
section
variable {H : Type} {enc : TypeId × Value → H} {w : World} {base : Nat} {sp : Nat → Bool} {held : Bool}
set_option maxRecDepth 100000 in
theorem open_changev {r : Reach} {b0 : Nat} {v : Value} {d : DataW H} {ps : List MemPlace} (hv : Value.okWide Tryz.prog w r b0 64 v) (h : DataW.Trod enc Tryz.prog w base sp held 64 v d ps) : ∃ s : Ch, v = .agg #[.int .i64 s.oa, .int .i64 s.ob, .int .i64 s.na, .int .i64 s.nb] := by
  obtain ⟨cs, rfl, _⟩ := okWide_struct Tryz.underlying64 hv
  obtain ⟨fuel, hf⟩ := h
  obtain ⟨s, hi⟩ := trod_change hf
  exact ⟨s, by rw [show cs = #[.int .i64 s.oa, .int .i64 s.ob, .int .i64 s.na, .int .i64 s.nb] from Array.ext' (by simpa [Value.cells, chcs] using hi)]⟩
end
end Go.Proofs.YtjkkngldiimkjaaGreat
