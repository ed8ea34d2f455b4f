/- What the laws on rows are told: rows, a row by value, a row patch by value. -/
import Derived.Test.YtebjkgeldjgnfaaKRow
import Derived.Test.YtebjkgeldjgnfaaDfP
namespace Go.Proofs.Ytebjkgeldjgnfaa
open Go.ChangeShapes Go.WideShapes Go.ChangeAt Go.RowKit
set_option linter.unusedVariables false
def encC (c : Cl) : List Value := [.int .i32 c.r, .int .i64 c.k, .int .i64 c.wd, .int .i64 c.p]
theorem encC_len (c : Cl) : (encC c).length = 4 := rfl
theorem encC_one (c : Cl) : ∀ v ∈ encC c, v.oneCell' = true := by intro v hv; simp [encC] at hv; rcases hv with rfl | rfl | rfl | rfl <;> rfl
def ClOk (c : Cl) : Prop := Lit.wf (.int .i32 c.r) ∧ Lit.wf (.int .i64 c.k) ∧ Lit.wf (.int .i64 c.wd) ∧ Lit.wf (.int .i64 c.p)
def encR (s : Rw) : List Value := [.slice s.A s.n s.c, .int .i64 s.st, .int .i64 s.en, .int .i64 s.bu, .bool s.wr, .bool s.fo, .int .i64 s.wd]
theorem encR_len (s : Rw) : (encR s).length = 7 := rfl
theorem encR_one (s : Rw) : ∀ v ∈ encR s, v.oneCell' = true := by intro v hv; simp [encR] at hv; rcases hv with rfl | rfl | rfl | rfl | rfl | rfl | rfl <;> rfl
structure RwOk (w : World) (s : Rw) : Prop where
  len : s.cs.length = s.n
  max : s.n ≤ maxLen
  caps : Caps s.A s.n s.c
  rows : RowsAt encC 4 w s.A s.cs
theorem RwOk.below {w w' : World} {s : Rw} (h : RwOk w s) (hb : Below w.heap.size w w') : RwOk w' s := ⟨h.len, h.max, h.caps, h.rows.below hb⟩
def RpOk (s : Rp) : Prop := Lit.wf (.int .i64 s.a) ∧ Lit.wf (.int .i64 s.b) ∧ Lit.wf (.int .i64 s.c) ∧ Lit.wf (.int .i64 s.d)
section
variable {H : Type} {enc : TypeId × Value → H} {w : World} {base : Nat} {held : Bool}
theorem dc_int : Try.prog.cellsOf 3 = 1 := by kernel_rfl
theorem dc_i32 : Try.prog.cellsOf 21 = 1 := by kernel_rfl
theorem dc_bool : Try.prog.cellsOf 4 = 1 := by kernel_rfl
theorem dc_cells : Try.prog.cellsOf 22 = 1 := by kernel_rfl
theorem dc_cell : Try.prog.cellsOf 41 = 4 := by kernel_rfl
theorem dc_row : Try.prog.cellsOf 24 = 7 := by kernel_rfl
theorem dc_rp : Try.prog.cellsOf 28 = 4 := by kernel_rfl
set_option maxRecDepth 100000 in
theorem trod_cell {fuel : Nat} {cs : List Value} {x : DataW H × List MemPlace} (h : DataW.trod enc Try.prog w base (fun _ => true) held fuel 41 cs = some x) : ∃ s : Cl, cs = encC s ∧ ClOk s := by
  obtain ⟨ys, n, _, _, hlen, hyl, hf⟩ := DataW.trod_struct Try.underlying41 h
  rw [dc_cell] at hlen
  match cs, hlen with
  | [c0, c1, c2, c3], _ =>
    match ys, hyl with
    | [y0, y1, y2, y3], _ =>
      have h0 : DataW.trod enc Try.prog w base (fun _ => true) held n 21 [c0] = some y0 := by simpa [dc_int, dc_i32] using hf 0 _ rfl
      have h1 : DataW.trod enc Try.prog w base (fun _ => true) held n 3 [c1] = some y1 := by simpa [dc_int, dc_i32] using hf 1 _ rfl
      have h2 : DataW.trod enc Try.prog w base (fun _ => true) held n 3 [c2] = some y2 := by simpa [dc_int, dc_i32] using hf 2 _ rfl
      have h3 : DataW.trod enc Try.prog w base (fun _ => true) held n 3 [c3] = some y3 := by simpa [dc_int, dc_i32] using hf 3 _ rfl
      obtain ⟨z0, e0, _, g0⟩ := DataW.trod_int Try.underlying21 h0
      obtain ⟨z1, e1, _, g1⟩ := DataW.trod_int Try.underlying3 h1
      obtain ⟨z2, e2, _, g2⟩ := DataW.trod_int Try.underlying3 h2
      obtain ⟨z3, e3, _, g3⟩ := DataW.trod_int Try.underlying3 h3
      simp only [List.cons.injEq, and_true] at e0 e1 e2 e3
      exact ⟨⟨z0, z1, z2, z3⟩, by rw [e0, e1, e2, e3]; rfl, g0, g1, g2, g3⟩
set_option maxRecDepth 100000 in
theorem trod_row {fuel : Nat} {cs : List Value} {x : DataW H × List MemPlace} (h : DataW.trod enc Try.prog w base (fun _ => true) held fuel 24 cs = some x) : ∃ s : Rw, cs = encR s ∧ RwOk w s := by
  obtain ⟨ys, n, _, _, hlen, hyl, hf⟩ := DataW.trod_struct Try.underlying24 h
  rw [dc_row] at hlen
  match cs, hlen with
  | [c0, c1, c2, c3, c4, c5, c6], _ =>
    match ys, hyl with
    | [y0, y1, y2, y3, y4, y5, y6], _ =>
      have h0 : DataW.trod enc Try.prog w base (fun _ => true) held n 22 [c0] = some y0 := by simpa [dc_int, dc_bool, dc_cells] using hf 0 _ rfl
      have h1 : DataW.trod enc Try.prog w base (fun _ => true) held n 3 [c1] = some y1 := by simpa [dc_int, dc_bool, dc_cells] using hf 1 _ rfl
      have h2 : DataW.trod enc Try.prog w base (fun _ => true) held n 3 [c2] = some y2 := by simpa [dc_int, dc_bool, dc_cells] using hf 2 _ rfl
      have h3 : DataW.trod enc Try.prog w base (fun _ => true) held n 3 [c3] = some y3 := by simpa [dc_int, dc_bool, dc_cells] using hf 3 _ rfl
      have h4 : DataW.trod enc Try.prog w base (fun _ => true) held n 4 [c4] = some y4 := by simpa [dc_int, dc_bool, dc_cells] using hf 4 _ rfl
      have h5 : DataW.trod enc Try.prog w base (fun _ => true) held n 4 [c5] = some y5 := by simpa [dc_int, dc_bool, dc_cells] using hf 5 _ rfl
      have h6 : DataW.trod enc Try.prog w base (fun _ => true) held n 3 [c6] = some y6 := by simpa [dc_int, dc_bool, dc_cells] using hf 6 _ rfl
      obtain ⟨A, k, c, l, e0, g2, g3, g4, g5, _⟩ := ktrod (α := Cl) (enc := encC) (k := 4) (Ok := ClOk) Try.underlying22 (fun _ => rfl) (by omega) dc_cell (fun {_ _ _} h => trod_cell h) h0
      obtain ⟨z1, e1, _⟩ := DataW.trod_int Try.underlying3 h1
      obtain ⟨z2, e2, _⟩ := DataW.trod_int Try.underlying3 h2
      obtain ⟨z3, e3, _⟩ := DataW.trod_int Try.underlying3 h3
      obtain ⟨z4, e4, _⟩ := DataW.trod_bool Try.underlying4 h4
      obtain ⟨z5, e5, _⟩ := DataW.trod_bool Try.underlying4 h5
      obtain ⟨z6, e6, _⟩ := DataW.trod_int Try.underlying3 h6
      simp only [List.cons.injEq, and_true] at e0 e1 e2 e3 e4 e5 e6
      exact ⟨⟨A, k, c, l, z1, z2, z3, z4, z5, z6⟩, by rw [e0, e1, e2, e3, e4, e5, e6]; rfl, g2, g3, g4, g5⟩
set_option maxRecDepth 100000 in
theorem trod_rp {fuel : Nat} {cs : List Value} {x : DataW H × List MemPlace} (h : DataW.trod enc Try.prog w base (fun _ => true) held fuel 28 cs = some x) : ∃ s : Rp, cs = [.int .i64 s.a, .int .i64 s.b, .int .i64 s.c, .int .i64 s.d] ∧ RpOk s := by
  obtain ⟨ys, n, _, _, hlen, hyl, hf⟩ := DataW.trod_struct Try.underlying28 h
  rw [dc_rp] at hlen
  match cs, hlen with
  | [c0, c1, c2, c3], _ =>
    match ys, hyl with
    | [y0, y1, y2, y3], _ =>
      have h0 : DataW.trod enc Try.prog w base (fun _ => true) held n 3 [c0] = some y0 := by simpa [dc_int] using hf 0 _ rfl
      have h1 : DataW.trod enc Try.prog w base (fun _ => true) held n 3 [c1] = some y1 := by simpa [dc_int] using hf 1 _ rfl
      have h2 : DataW.trod enc Try.prog w base (fun _ => true) held n 3 [c2] = some y2 := by simpa [dc_int] using hf 2 _ rfl
      have h3 : DataW.trod enc Try.prog w base (fun _ => true) held n 3 [c3] = some y3 := by simpa [dc_int] using hf 3 _ rfl
      obtain ⟨z0, e0, _, g0⟩ := DataW.trod_int Try.underlying3 h0
      obtain ⟨z1, e1, _, g1⟩ := DataW.trod_int Try.underlying3 h1
      obtain ⟨z2, e2, _, g2⟩ := DataW.trod_int Try.underlying3 h2
      obtain ⟨z3, e3, _, g3⟩ := DataW.trod_int Try.underlying3 h3
      simp only [List.cons.injEq, and_true] at e0 e1 e2 e3
      exact ⟨⟨z0, z1, z2, z3⟩, by rw [e0, e1, e2, e3], g0, g1, g2, g3⟩
set_option maxRecDepth 100000 in
theorem open_rowv {r : Reach} {b0 : Nat} {v : Value} {d : DataW H} {ps : List MemPlace} (hv : Value.okWide Try.prog w r b0 24 v) (h : DataW.Trod enc Try.prog w base (fun _ => true) held 24 v d ps) : ∃ s : Rw, v = .agg #[.slice s.A s.n s.c, .int .i64 s.st, .int .i64 s.en, .int .i64 s.bu, .bool s.wr, .bool s.fo, .int .i64 s.wd] ∧ RwOk w s := by
  obtain ⟨cs, rfl, _⟩ := okWide_struct Try.underlying24 hv
  obtain ⟨fuel, hf⟩ := h
  obtain ⟨s, hi, g⟩ := trod_row hf
  exact ⟨s, by rw [show cs = #[.slice s.A s.n s.c, .int .i64 s.st, .int .i64 s.en, .int .i64 s.bu, .bool s.wr, .bool s.fo, .int .i64 s.wd] from Array.ext' (by simpa [Value.cells, encR] using hi)], g⟩
set_option maxRecDepth 100000 in
theorem open_rp {r : Reach} {b0 : Nat} {v : Value} {d : DataW H} {ps : List MemPlace} (hv : Value.okWide Try.prog w r b0 28 v) (h : DataW.Trod enc Try.prog w base (fun _ => true) held 28 v d ps) : ∃ s : Rp, v = .agg #[.int .i64 s.a, .int .i64 s.b, .int .i64 s.c, .int .i64 s.d] ∧ RpOk s := by
  obtain ⟨cs, rfl, _⟩ := okWide_struct Try.underlying28 hv
  obtain ⟨fuel, hf⟩ := h
  obtain ⟨s, hi, g⟩ := trod_rp hf
  exact ⟨s, by rw [show cs = #[.int .i64 s.a, .int .i64 s.b, .int .i64 s.c, .int .i64 s.d] from Array.ext' (by simpa [Value.cells] using hi)], g⟩
set_option maxRecDepth 100000 in
theorem opens_rows {r : Reach} {b0 : Nat} {v : Value} {d : DataW H} {ps : List MemPlace} (hv : Value.okWide Try.prog w r b0 30 v) (h : DataW.Trod enc Try.prog w base (fun _ => true) held 30 v d ps) :
    ∃ (A : Option Addr) (n c : Nat) (l : List Rw), v = .slice A n c ∧ l.length = n ∧ n ≤ maxLen ∧ Caps A n c ∧ RowsAt encR 7 w A l ∧ ∀ s ∈ l, RwOk w s :=
  kopen (α := Rw) (enc := encR) (k := 7) Try.underlying30 (fun _ => rfl) (by omega) dc_row (fun {_ _ _} h => trod_row h) hv h
end
end Go.Proofs.Ytebjkgeldjgnfaa
