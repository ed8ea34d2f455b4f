/- What a law's arguments are told as to its walk, where they are points: an opener of my own. -/
import Derived.Test.YtglalmhpgdgeeaaGreatOpens
import Derived.Deep.Slices
namespace Go.Proofs.YtglalmhpgdgeeaaGreat
open Go.ChangeShapes Go.WideShapes Go.ChangeAt Go.RowKit
section
variable {H : Type} {enc : TypeId × Value → H} {w : World} {base : Nat} {sp : Nat → Bool} {held : Bool}
theorem pt_int : Tryz.prog.cellsOf 3 = 1 := by kernel_rfl
theorem c_point : Tryz.prog.cellsOf 41 = 2 := by kernel_rfl
set_option maxRecDepth 100000 in
theorem trod_point {fuel : Nat} {cs : List Value} {x : DataW H × List MemPlace} (h : DataW.trod enc Tryz.prog w base sp held fuel 41 cs = some x) : ∃ a b : Int, cs = [.int .i64 a, .int .i64 b] ∧ Lit.wf (.int .i64 a) ∧ Lit.wf (.int .i64 b) := by
  obtain ⟨ys, n, _, _, hlen, hyl, hf⟩ := DataW.trod_struct Tryz.underlying41 h
  rw [c_point] at hlen
  match cs, hlen with
  | [c0, c1], _ =>
    match ys, hyl with
    | [y0, y1], _ =>
      have h0 : DataW.trod enc Tryz.prog w base sp held n 3 [c0] = some y0 := by simpa [pt_int] using hf 0 _ rfl
      have h1 : DataW.trod enc Tryz.prog w base sp held n 3 [c1] = some y1 := by simpa [pt_int] using hf 1 _ rfl
      obtain ⟨z0, e0, _, g0⟩ := DataW.trod_int Tryz.underlying3 h0
      obtain ⟨z1, e1, _, g1⟩ := DataW.trod_int Tryz.underlying3 h1
      simp only [List.cons.injEq, and_true] at e0 e1
      exact ⟨z0, z1, by rw [e0, e1], g0, g1⟩
set_option maxRecDepth 100000 in
theorem open_point {r : Reach} {b0 : Nat} {v : Value} {d : DataW H} {ps : List MemPlace} (hv : Value.okWide Tryz.prog w r b0 41 v) (h : DataW.Trod enc Tryz.prog w base sp held 41 v d ps) : ∃ a b : Int, v = .agg #[.int .i64 a, .int .i64 b] ∧ Lit.wf (.int .i64 a) ∧ Lit.wf (.int .i64 b) := by
  obtain ⟨cs, rfl, _⟩ := okWide_struct Tryz.underlying41 hv
  obtain ⟨fuel, hf⟩ := h
  obtain ⟨a, b, hi, g0, g1⟩ := trod_point hf
  exact ⟨a, b, by rw [show cs = #[.int .i64 a, .int .i64 b] from Array.ext' (by simpa [Value.cells] using hi)], g0, g1⟩
end
end Go.Proofs.YtglalmhpgdgeeaaGreat
