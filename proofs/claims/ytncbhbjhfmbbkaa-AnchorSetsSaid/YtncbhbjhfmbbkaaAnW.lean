/- What the law on sets of anchors is told: an opener. -/
import Derived.Test.YtncbhbjhfmbbkaaKOpen
import Derived.Test.YtncbhbjhfmbbkaaAnA
namespace Go.Proofs.Ytncbhbjhfmbbkaa
open Go.ChangeShapes Go.WideShapes Go.ChangeAt Go.RowKit
section
variable {H : Type} {enc : TypeId × Value → H} {w : World} {base : Nat} {held : Bool}
theorem c_want11 : Try.prog.cellsOf 24 = 3 := by kernel_rfl
theorem c_intW : Try.prog.cellsOf 3 = 1 := by kernel_rfl
set_option maxRecDepth 100000 in
theorem trod_want11 {fuel : Nat} {cs : List Value} {x : DataW H × List MemPlace} (h : DataW.trod enc Try.prog w base (fun _ => true) held fuel 24 cs = some x) : ∃ a : An, cs = encA a ∧ (Lit.int .i64 a.bi).wf = true := by
  obtain ⟨ys, n, _, _, hlen, hyl, hf⟩ := DataW.trod_struct Try.underlying24 h
  rw [c_want11] at hlen
  match cs, hlen with
  | [c0, c1, c2], _ =>
    match ys, hyl with
    | [y0, y1, y2], _ =>
      have h0 : DataW.trod enc Try.prog w base (fun _ => true) held n 3 [c0] = some y0 := by simpa [c_intW] using hf 0 _ rfl
      have h1 : DataW.trod enc Try.prog w base (fun _ => true) held n 3 [c1] = some y1 := by simpa [c_intW] using hf 1 _ rfl
      have h2 : DataW.trod enc Try.prog w base (fun _ => true) held n 3 [c2] = some y2 := by simpa [c_intW] using hf 2 _ rfl
      obtain ⟨z0, e0, _, _⟩ := DataW.trod_int Try.underlying3 h0
      obtain ⟨z1, e1, _, _⟩ := DataW.trod_int Try.underlying3 h1
      obtain ⟨z2, e2, _, w2⟩ := DataW.trod_int Try.underlying3 h2
      simp only [List.cons.injEq, and_true] at e0 e1 e2
      exact ⟨⟨z0, z1, z2⟩, by rw [e0, e1, e2]; rfl, w2⟩
set_option maxRecDepth 100000 in
theorem open_want11 {r : Reach} {b0 : Nat} {v : Value} {d : DataW H} {ps : List MemPlace} (hv : Value.okWide Try.prog w r b0 24 v) (h : DataW.Trod enc Try.prog w base (fun _ => true) held 24 v d ps) : ∃ s : An, v = .agg #[.int .i64 s.id, .int .i64 s.pl, .int .i64 s.bi] ∧ (Lit.int .i64 s.bi).wf = true := by
  obtain ⟨cs, rfl, _⟩ := okWide_struct Try.underlying24 hv
  obtain ⟨fuel, hf⟩ := h
  obtain ⟨i, hi, ho⟩ := trod_want11 hf
  exact ⟨i, by rw [show cs = #[.int .i64 i.id, .int .i64 i.pl, .int .i64 i.bi] from by simpa [Value.cells, encA, ← Array.toList_inj] using hi], ho⟩
end
end Go.Proofs.Ytncbhbjhfmbbkaa
