/- What a law is told: an array of two numbers by value. -/
import Derived.Test.YtnfjleobcfhpnaaClO
namespace Go.Proofs.Ytnfjleobcfhpnaa
open Go.ChangeShapes Go.WideShapes Go.ChangeAt Go.RowKit
theorem c_two : Try.prog.cellsOf 53 = 2 := by kernel_rfl
set_option maxRecDepth 100000 in
theorem open_two {H : Type} {enc : TypeId × Value → H} {w : World} {base : Nat} {sp : Nat → Bool} {held : Bool} {r : Reach} {b0 : Nat} {v : Value} {d : DataW H} {ps : List MemPlace}
    (hv : Value.okWide Try.prog w r b0 53 v) (h : DataW.Trod enc Try.prog w base sp held 53 v d ps) : ∃ x y : Int, v = .agg #[.int .i64 x, .int .i64 y] := by
  unfold Value.okWide at hv
  rw [Try.underlying53] at hv
  obtain ⟨cs, rfl, hsz, _⟩ := hv
  obtain ⟨fuel, hf⟩ := h
  obtain ⟨xs, m, _, _, hlen, hxl, hg⟩ := DataW.trod_array Try.underlying53 hf
  rw [c_two] at hsz
  obtain ⟨c0, c1, rfl⟩ : ∃ c0 c1, cs = #[c0, c1] := by
    obtain ⟨l⟩ := cs
    match l, hsz with
    | [a, b], _ => exact ⟨a, b, rfl⟩
  match xs, hxl with
  | [x0, x1], _ =>
    have g0 : DataW.trod enc Try.prog w base sp held m 3 [c0] = some x0 := by simpa [cc_int, Value.cells] using hg 0 (by omega)
    have g1 : DataW.trod enc Try.prog w base sp held m 3 [c1] = some x1 := by simpa [cc_int, Value.cells] using hg 1 (by omega)
    obtain ⟨z0, e0, _, _⟩ := DataW.trod_int Try.underlying3 g0
    obtain ⟨z1, e1, _, _⟩ := DataW.trod_int Try.underlying3 g1
    simp only [List.cons.injEq, and_true] at e0 e1
    exact ⟨z0, z1, by rw [e0, e1]⟩
end Go.Proofs.Ytnfjleobcfhpnaa
