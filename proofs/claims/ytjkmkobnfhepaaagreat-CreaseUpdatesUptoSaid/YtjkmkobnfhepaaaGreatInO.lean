/- What the laws on inlays are told: inlays; a span by value. -/
import Derived.Test.YtjkmkobnfhepaaaGreatKRow
import Derived.Test.YtjkmkobnfhepaaaGreatInA
namespace Go.Proofs.YtjkmkobnfhepaaaGreat
open Go.ChangeShapes Go.WideShapes Go.ChangeAt Go.RowKit
open Go.ChangeMaps (open_string shut_string)
set_option linter.unusedVariables false
def InOk (a : In) : Prop := Lit.wf (.int .i64 a.id) ∧ Lit.wf (.int .i64 a.pl) ∧ Lit.wf (.int .i64 a.bi) ∧ Lit.wf (.int .i64 a.ky) ∧ a.tx.size ≤ maxLen
structure SpV where
  f : Int
  t : Int
def SpOk (s : SpV) : Prop := Lit.wf (.int .i64 s.f) ∧ Lit.wf (.int .i64 s.t)
section
variable {H : Type} {enc : TypeId × Value → H} {w : World} {base : Nat} {sp : Nat → Bool} {held : Bool}
theorem ic_int : Tryz.prog.cellsOf 3 = 1 := by kernel_rfl
theorem ic_str : Tryz.prog.cellsOf 9 = 1 := by kernel_rfl
theorem ic_in : Tryz.prog.cellsOf 56 = 5 := by kernel_rfl
theorem ic_span : Tryz.prog.cellsOf 27 = 2 := by kernel_rfl
set_option maxRecDepth 100000 in
theorem trod_inlay {fuel : Nat} {cs : List Value} {x : DataW H × List MemPlace} (h : DataW.trod enc Tryz.prog w base sp held fuel 56 cs = some x) : ∃ s : In, cs = encI s ∧ InOk s := by
  obtain ⟨ys, n, _, _, hlen, hyl, hf⟩ := DataW.trod_struct Tryz.underlying56 h
  rw [ic_in] at hlen
  match cs, hlen with
  | [c0, c1, c2, c3, c4], _ =>
    match ys, hyl with
    | [y0, y1, y2, y3, y4], _ =>
      have h0 : DataW.trod enc Tryz.prog w base sp held n 3 [c0] = some y0 := by simpa [ic_int, ic_str] using hf 0 _ rfl
      have h1 : DataW.trod enc Tryz.prog w base sp held n 3 [c1] = some y1 := by simpa [ic_int, ic_str] using hf 1 _ rfl
      have h2 : DataW.trod enc Tryz.prog w base sp held n 3 [c2] = some y2 := by simpa [ic_int, ic_str] using hf 2 _ rfl
      have h3 : DataW.trod enc Tryz.prog w base sp held n 3 [c3] = some y3 := by simpa [ic_int, ic_str] using hf 3 _ rfl
      have h4 : DataW.trod enc Tryz.prog w base sp held n 9 [c4] = some y4 := by simpa [ic_int, ic_str] using hf 4 _ rfl
      obtain ⟨z0, e0, _, g0⟩ := DataW.trod_int Tryz.underlying3 h0
      obtain ⟨z1, e1, _, g1⟩ := DataW.trod_int Tryz.underlying3 h1
      obtain ⟨z2, e2, _, g2⟩ := DataW.trod_int Tryz.underlying3 h2
      obtain ⟨z3, e3, _, g3⟩ := DataW.trod_int Tryz.underlying3 h3
      obtain ⟨z4, e4, _, g4⟩ := DataW.trod_string Tryz.underlying9 h4
      simp only [List.cons.injEq, and_true] at e0 e1 e2 e3 e4
      exact ⟨⟨z0, z1, z2, z3, z4⟩, by rw [e0, e1, e2, e3, e4]; rfl, g0, g1, g2, g3, g4⟩
set_option maxRecDepth 100000 in
theorem trod_spanv {fuel : Nat} {cs : List Value} {x : DataW H × List MemPlace} (h : DataW.trod enc Tryz.prog w base sp held fuel 27 cs = some x) : ∃ s : SpV, cs = [.int .i64 s.f, .int .i64 s.t] ∧ SpOk s := by
  obtain ⟨ys, n, _, _, hlen, hyl, hf⟩ := DataW.trod_struct Tryz.underlying27 h
  rw [ic_span] at hlen
  match cs, hlen with
  | [c0, c1], _ =>
    match ys, hyl with
    | [y0, y1], _ =>
      have h0 : DataW.trod enc Tryz.prog w base sp held n 3 [c0] = some y0 := by simpa [ic_int] using hf 0 _ rfl
      have h1 : DataW.trod enc Tryz.prog w base sp held n 3 [c1] = some y1 := by simpa [ic_int] using hf 1 _ rfl
      obtain ⟨z0, e0, _, g0⟩ := DataW.trod_int Tryz.underlying3 h0
      obtain ⟨z1, e1, _, g1⟩ := DataW.trod_int Tryz.underlying3 h1
      simp only [List.cons.injEq, and_true] at e0 e1
      exact ⟨⟨z0, z1⟩, by rw [e0, e1], g0, g1⟩
end
section
variable {H : Type} {enc : TypeId × Value → H} {w : World} {base : Nat} {held : Bool}
end
end Go.Proofs.YtjkmkobnfhepaaaGreat
