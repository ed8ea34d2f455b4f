/- What the laws on stops and cells are told: a size and a place by value; parts; cells. -/
import Derived.Test.YtnlhpbnonmdkdaaKOpen
import Derived.Test.YtnlhpbnonmdkdaaClP
namespace Go.Proofs.Ytnlhpbnonmdkdaa
open Go.ChangeShapes Go.WideShapes Go.ChangeAt Go.RowKit
/-- A tab's size, and what is asked for. -/
structure AskV where
  t : Int
  a : Int
def AskOk (s : AskV) : Prop := Lit.wf (.int .i64 s.t) ∧ Lit.wf (.int .i64 s.a)
/-- A part, and where its runes lie. -/
structure PtV where
  k : Int
  p : Int
  A : Option Addr
  n : Nat
  c : Nat
  rs : List Int
def ptcs (s : PtV) : List Value := [.int .i64 s.k, .int .i64 s.p, .slice s.A s.n s.c]
def PtOk (w : World) (s : PtV) : Prop := s.rs.length = s.n ∧ s.n ≤ maxLen ∧ Caps s.A s.n s.c ∧ IntsAt .i32 w s.A s.rs ∧ Lit.wf (.int .i64 s.k) ∧ Lit.wf (.int .i64 s.p)
theorem PtOk.below {w w' : World} {s : PtV} (h : PtOk w s) (hb : Below w.heap.size w w') : PtOk w' s := ⟨h.1, h.2.1, h.2.2.1, h.2.2.2.1.below hb, h.2.2.2.2⟩
def encC (c : Cl) : List Value := [.int .i32 c.r, .int .i64 c.k, .int .i64 c.wd, .int .i64 c.p]
theorem encC_len (c : Cl) : (encC c).length = 4 := rfl
theorem encC_one (c : Cl) : ∀ v ∈ encC c, v.oneCell' = true := by intro v hv; simp [encC] at hv; rcases hv with rfl | rfl | rfl | rfl <;> rfl
def ClOk (c : Cl) : Prop := Lit.wf (.int .i32 c.r) ∧ Lit.wf (.int .i64 c.k) ∧ Lit.wf (.int .i64 c.wd) ∧ Lit.wf (.int .i64 c.p)
section
variable {H : Type} {enc : TypeId × Value → H} {w : World} {base : Nat} {sp : Nat → Bool} {held : Bool}
theorem cc_int : Try.prog.cellsOf 3 = 1 := by kernel_rfl
theorem cc_i32 : Try.prog.cellsOf 21 = 1 := by kernel_rfl
theorem cc_cell : Try.prog.cellsOf 35 = 4 := by kernel_rfl
end
section
variable {H : Type} {enc : TypeId × Value → H} {w : World} {base : Nat} {held : Bool}
theorem nth_flat {l : List Int} : ∀ {j : Nat} (h : j < l.length), nth l j = l[j] := fun h => by simp [nth, List.getD, h]
theorem ints_of_rows {kd : IntKind} {A : Option Addr} {l : List Int} (h : RowsAt (fun x : Int => [.int kd x]) 1 w A l) : IntsAt kd w A l := by
  intro hl
  obtain ⟨b, off, rfl, h1, h2⟩ := h hl
  refine ⟨b, off, rfl, h1, fun k hk => ?_⟩
  have := h2 k hk 0 (by omega)
  rw [nth_flat hk]
  simpa using this
set_option maxRecDepth 100000 in
theorem trod_cell {fuel : Nat} {cs : List Value} {x : DataW H × List MemPlace} (h : DataW.trod enc Try.prog w base (fun _ => true) held fuel 35 cs = some x) : ∃ s : Cl, cs = encC s ∧ ClOk s := by
  obtain ⟨ys, n, _, _, hlen, hyl, hf⟩ := DataW.trod_struct Try.underlying35 h
  rw [cc_cell] at hlen
  match cs, hlen with
  | [c0, c1, c2, c3], _ =>
    match ys, hyl with
    | [y0, y1, y2, y3], _ =>
      have h0 : DataW.trod enc Try.prog w base (fun _ => true) held n 21 [c0] = some y0 := by simpa [cc_int, cc_i32] using hf 0 _ rfl
      have h1 : DataW.trod enc Try.prog w base (fun _ => true) held n 3 [c1] = some y1 := by simpa [cc_int, cc_i32] using hf 1 _ rfl
      have h2 : DataW.trod enc Try.prog w base (fun _ => true) held n 3 [c2] = some y2 := by simpa [cc_int, cc_i32] using hf 2 _ rfl
      have h3 : DataW.trod enc Try.prog w base (fun _ => true) held n 3 [c3] = some y3 := by simpa [cc_int, cc_i32] using hf 3 _ rfl
      obtain ⟨z0, e0, _, g0⟩ := DataW.trod_int Try.underlying21 h0
      obtain ⟨z1, e1, _, g1⟩ := DataW.trod_int Try.underlying3 h1
      obtain ⟨z2, e2, _, g2⟩ := DataW.trod_int Try.underlying3 h2
      obtain ⟨z3, e3, _, g3⟩ := DataW.trod_int Try.underlying3 h3
      simp only [List.cons.injEq, and_true] at e0 e1 e2 e3
      exact ⟨⟨z0, z1, z2, z3⟩, by rw [e0, e1, e2, e3]; rfl, g0, g1, g2, g3⟩
set_option maxRecDepth 100000 in
theorem opens_cells {r : Reach} {b0 : Nat} {v : Value} {d : DataW H} {ps : List MemPlace} (hv : Value.okWide Try.prog w r b0 22 v) (h : DataW.Trod enc Try.prog w base (fun _ => true) held 22 v d ps) :
    ∃ (A : Option Addr) (n c : Nat) (l : List Cl), v = .slice A n c ∧ l.length = n ∧ n ≤ maxLen ∧ Caps A n c ∧ RowsAt encC 4 w A l ∧ ∀ s ∈ l, ClOk s :=
  kopen (α := Cl) (enc := encC) (k := 4) Try.underlying22 (fun _ => rfl) (by omega) cc_cell (fun {_ _ _} h => trod_cell h) hv h
end
end Go.Proofs.Ytnlhpbnonmdkdaa
