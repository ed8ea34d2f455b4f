/- What the laws on folds are told: spans; a span by value. -/
import Derived.Test.YtdpmimlhchghlaaGreatKRow
import Derived.Test.YtdpmimlhchghlaaGreatFoA
namespace Go.Proofs.YtdpmimlhchghlaaGreat
open Go.ChangeShapes Go.WideShapes Go.ChangeAt Go.RowKit
set_option linter.unusedVariables false
def FoOk (a : Fo) : Prop := (Lit.int .i64 a.f).wf = true ∧ (Lit.int .i64 a.t).wf = true
section
variable {H : Type} {enc : TypeId × Value → H} {w : World} {base : Nat} {sp : Nat → Bool} {held : Bool}
theorem fc_int : Tryz.prog.cellsOf 3 = 1 := by kernel_rfl
theorem fc_span : Tryz.prog.cellsOf 47 = 2 := by kernel_rfl
set_option maxRecDepth 100000 in
theorem trod_fold {fuel : Nat} {cs : List Value} {x : DataW H × List MemPlace} (h : DataW.trod enc Tryz.prog w base sp held fuel 47 cs = some x) : ∃ s : Fo, cs = encF s ∧ FoOk s := by
  obtain ⟨ys, n, _, _, hlen, hyl, hf⟩ := DataW.trod_struct Tryz.underlying47 h
  rw [fc_span] at hlen
  match cs, hlen with
  | [c0, c1], _ =>
    match ys, hyl with
    | [y0, y1], _ =>
      have h0 : DataW.trod enc Tryz.prog w base sp held n 3 [c0] = some y0 := by simpa [fc_int] using hf 0 _ rfl
      have h1 : DataW.trod enc Tryz.prog w base sp held n 3 [c1] = some y1 := by simpa [fc_int] using hf 1 _ rfl
      obtain ⟨z0, e0, _, g0⟩ := DataW.trod_int Tryz.underlying3 h0
      obtain ⟨z1, e1, _, g1⟩ := DataW.trod_int Tryz.underlying3 h1
      simp only [List.cons.injEq, and_true] at e0 e1
      exact ⟨⟨z0, z1⟩, by rw [e0, e1]; rfl, g0, g1⟩
set_option maxRecDepth 100000 in
theorem open_foldv {r : Reach} {b0 : Nat} {v : Value} {d : DataW H} {ps : List MemPlace} (hv : Value.okWide Tryz.prog w r b0 47 v) (h : DataW.Trod enc Tryz.prog w base sp held 47 v d ps) : ∃ s : Fo, v = .agg #[.int .i64 s.f, .int .i64 s.t] ∧ FoOk s := by
  obtain ⟨cs, rfl, _⟩ := okWide_struct Tryz.underlying47 hv
  obtain ⟨fuel, hf⟩ := h
  obtain ⟨s, hi, g⟩ := trod_fold hf
  exact ⟨s, by rw [show cs = #[.int .i64 s.f, .int .i64 s.t] from Array.ext' (by simpa [Value.cells, encF] using hi)], g⟩
end
section
variable {H : Type} {enc : TypeId × Value → H} {w : World} {base : Nat} {held : Bool}
set_option maxRecDepth 100000 in
theorem opens_folds {r : Reach} {b0 : Nat} {v : Value} {d : DataW H} {ps : List MemPlace} (hv : Value.okWide Tryz.prog w r b0 23 v) (h : DataW.Trod enc Tryz.prog w base (fun _ => true) held 23 v d ps) :
    ∃ (A : Option Addr) (n c : Nat) (l : List Fo), v = .slice A n c ∧ l.length = n ∧ n ≤ maxLen ∧ Caps A n c ∧ RowsAt encF 2 w A l ∧ ∀ s ∈ l, FoOk s :=
  kopen (α := Fo) (enc := encF) (k := 2) Tryz.underlying23 (fun _ => rfl) (by omega) fc_span (fun {_ _ _} h => trod_fold h) hv h
end
end Go.Proofs.YtdpmimlhchghlaaGreat
