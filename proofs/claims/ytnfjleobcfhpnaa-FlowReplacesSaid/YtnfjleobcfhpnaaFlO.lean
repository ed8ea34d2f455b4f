/- What the laws on flows are told: lines; steps. -/
import Derived.Test.YtnfjleobcfhpnaaKOpen
import Derived.Test.YtnfjleobcfhpnaaFlP
namespace Go.Proofs.Ytnfjleobcfhpnaa
open Go.ChangeShapes Go.WideShapes Go.ChangeAt Go.RowKit
set_option linter.unusedVariables false
def LnWf (a : Ln) : Prop := Lit.wf (.int .i64 a.s) ∧ Lit.wf (.int .i64 a.b) ∧ Lit.wf (.int .i64 a.r) ∧ Lit.wf (.int .i64 a.wd)
/-- A step: from, to, lines. -/
structure FStep where
  x : Int
  y : Int
  A : Option Addr
  n : Nat
  c : Nat
  l : List Ln
def encS22 (s : FStep) : List Value := [.int .i64 s.x, .int .i64 s.y, .slice s.A s.n s.c]
theorem encS22_len (s : FStep) : (encS22 s).length = 3 := rfl
structure FSOk (w : World) (s : FStep) : Prop where
  len : s.l.length = s.n
  max : s.n ≤ maxLen
  rows : RowsAt encL 4 w s.A s.l
theorem FSOk.below {w w' : World} {s : FStep} (h : FSOk w s) (hb : Below w.heap.size w w') : FSOk w' s := ⟨h.len, h.max, h.rows.below hb⟩
section
variable {H : Type} {enc : TypeId × Value → H} {w : World} {base : Nat} {held : Bool}
theorem lc_int : Try.prog.cellsOf 3 = 1 := by kernel_rfl
theorem lc_ln : Try.prog.cellsOf 78 = 4 := by kernel_rfl
theorem lc_st : Try.prog.cellsOf 68 = 3 := by kernel_rfl
theorem lc_lnl : Try.prog.cellsOf 57 = 1 := by kernel_rfl
set_option maxRecDepth 100000 in
theorem trod_fline {fuel : Nat} {cs : List Value} {x : DataW H × List MemPlace} (h : DataW.trod enc Try.prog w base (fun _ => true) held fuel 78 cs = some x) : ∃ s : Ln, cs = encL s ∧ LnWf s := by
  obtain ⟨ys, n, _, _, hlen, hyl, hf⟩ := DataW.trod_struct Try.underlying78 h
  rw [lc_ln] at hlen
  match cs, hlen with
  | [c0, c1, c2, c3], _ =>
    match ys, hyl with
    | [y0, y1, y2, y3], _ =>
      have h0 : DataW.trod enc Try.prog w base (fun _ => true) held n 3 [c0] = some y0 := by simpa [lc_int] using hf 0 _ rfl
      have h1 : DataW.trod enc Try.prog w base (fun _ => true) held n 3 [c1] = some y1 := by simpa [lc_int] using hf 1 _ rfl
      have h2 : DataW.trod enc Try.prog w base (fun _ => true) held n 3 [c2] = some y2 := by simpa [lc_int] using hf 2 _ rfl
      have h3 : DataW.trod enc Try.prog w base (fun _ => true) held n 3 [c3] = some y3 := by simpa [lc_int] using hf 3 _ rfl
      obtain ⟨z0, e0, _, g0⟩ := DataW.trod_int Try.underlying3 h0
      obtain ⟨z1, e1, _, g1⟩ := DataW.trod_int Try.underlying3 h1
      obtain ⟨z2, e2, _, g2⟩ := DataW.trod_int Try.underlying3 h2
      obtain ⟨z3, e3, _, g3⟩ := DataW.trod_int Try.underlying3 h3
      simp only [List.cons.injEq, and_true] at e0 e1 e2 e3
      exact ⟨⟨z0, z1, z2, z3⟩, by rw [e0, e1, e2, e3]; rfl, g0, g1, g2, g3⟩
set_option maxRecDepth 100000 in
theorem opens_flines {r : Reach} {b0 : Nat} {v : Value} {d : DataW H} {ps : List MemPlace} (hv : Value.okWide Try.prog w r b0 57 v) (h : DataW.Trod enc Try.prog w base (fun _ => true) held 57 v d ps) :
    ∃ (A : Option Addr) (n c : Nat) (l : List Ln), v = .slice A n c ∧ l.length = n ∧ n ≤ maxLen ∧ Caps A n c ∧ RowsAt encL 4 w A l ∧ ∀ s ∈ l, LnWf s :=
  kopen (α := Ln) (enc := encL) (k := 4) Try.underlying57 (fun _ => rfl) (by omega) lc_ln (fun {_ _ _} h => trod_fline h) hv h
set_option maxRecDepth 100000 in
theorem trod_fstep {fuel : Nat} {cs : List Value} {x : DataW H × List MemPlace} (h : DataW.trod enc Try.prog w base (fun _ => true) held fuel 68 cs = some x) : ∃ s : FStep, cs = encS22 s ∧ FSOk w s := by
  obtain ⟨ys, n, _, _, hlen, hyl, hf⟩ := DataW.trod_struct Try.underlying68 h
  rw [lc_st] at hlen
  match cs, hlen with
  | [c0, c1, c2], _ =>
    match ys, hyl with
    | [y0, y1, y2], _ =>
      have h0 : DataW.trod enc Try.prog w base (fun _ => true) held n 3 [c0] = some y0 := by simpa [lc_int, lc_lnl] using hf 0 _ rfl
      have h1 : DataW.trod enc Try.prog w base (fun _ => true) held n 3 [c1] = some y1 := by simpa [lc_int, lc_lnl] using hf 1 _ rfl
      have h2 : DataW.trod enc Try.prog w base (fun _ => true) held n 57 [c2] = some y2 := by simpa [lc_int, lc_lnl] using hf 2 _ rfl
      obtain ⟨z0, e0, _, g0⟩ := DataW.trod_int Try.underlying3 h0
      obtain ⟨z1, e1, _, g1⟩ := DataW.trod_int Try.underlying3 h1
      obtain ⟨A, m, c, l, e2, q1, q2, _, q4, _⟩ := ktrod (α := Ln) (enc := encL) (k := 4) (Ok := LnWf) Try.underlying57 (fun _ => rfl) (by omega) lc_ln (fun {_ _ _} h => trod_fline h) h2
      simp only [List.cons.injEq, and_true] at e0 e1 e2
      exact ⟨⟨z0, z1, A, m, c, l⟩, by rw [e0, e1, e2]; rfl, q1, q2, q4⟩
set_option maxRecDepth 100000 in
theorem opens_fsteps {r : Reach} {b0 : Nat} {v : Value} {d : DataW H} {ps : List MemPlace} (hv : Value.okWide Try.prog w r b0 66 v) (h : DataW.Trod enc Try.prog w base (fun _ => true) held 66 v d ps) :
    ∃ (A : Option Addr) (n c : Nat) (l : List FStep), v = .slice A n c ∧ l.length = n ∧ n ≤ maxLen ∧ Caps A n c ∧ RowsAt encS22 3 w A l ∧ ∀ s ∈ l, FSOk w s :=
  kopen (α := FStep) (enc := encS22) (k := 3) Try.underlying66 (fun _ => rfl) (by omega) lc_st (fun {_ _ _} h => trod_fstep h) hv h
end
end Go.Proofs.Ytnfjleobcfhpnaa
