/- What the laws on windows are told: a turn by value: how many runes, two spans, hidden spans before and now. -/
import Derived.Test.YtjkmkobnfhepaaaKRow
import Derived.Test.YtjkmkobnfhepaaaOpens
namespace Go.Proofs.Ytjkmkobnfhepaaa
open Go.ChangeShapes Go.WideShapes Go.ChangeAt Go.RowKit
set_option linter.unusedVariables false
/-- A span: two numbers. -/
def wiS (s : Int × Int) : List Value := [.int .i64 s.1, .int .i64 s.2]
structure WSp where
  f : Int
  t : Int
structure WSpOk (s : WSp) : Prop where
  wf : (Lit.int .i64 s.f).wf = true
  wf2 : (Lit.int .i64 s.t).wf = true
structure Trn where
  n : Int
  f : Int
  t : Int
  g : Int
  u : Int
  A : Option Addr
  m : Nat
  c : Nat
  l : List (Int × Int)
  B : Option Addr
  k : Nat
  d : Nat
  o : List (Int × Int)
structure TrnOk (w : World) (s : Trn) : Prop where
  wf : (Lit.int .i64 s.n).wf = true
  wf2 : (Lit.int .i64 s.f).wf = true ∧ (Lit.int .i64 s.t).wf = true
  wf3 : (Lit.int .i64 s.g).wf = true ∧ (Lit.int .i64 s.u).wf = true
  la : s.l.length = s.m
  max : s.m ≤ maxLen
  rows : RowsAt wiS 2 w s.A s.l
  lb : s.o.length = s.k
  maxb : s.k ≤ maxLen
  rowsb : RowsAt wiS 2 w s.B s.o
theorem TrnOk.below {w w' : World} {s : Trn} (h : TrnOk w s) (hb : Below w.heap.size w w') : TrnOk w' s := ⟨h.wf, h.wf2, h.wf3, h.la, h.max, h.rows.below hb, h.lb, h.maxb, h.rowsb.below hb⟩
theorem c_two1 : Try.prog.cellsOf 3 = 1 := by kernel_rfl
theorem c_two : Try.prog.cellsOf 24 = 2 := by kernel_rfl
set_option maxRecDepth 100000 in
theorem open_two {H : Type} {enc : TypeId × Value → H} {w : World} {base : Nat} {sp : Nat → Bool} {held : Bool} {r : Reach} {b0 : Nat} {v : Value} {d : DataW H} {ps : List MemPlace}
    (hv : Value.okWide Try.prog w r b0 24 v) (h : DataW.Trod enc Try.prog w base sp held 24 v d ps) : ∃ x y : Int, v = .agg #[.int .i64 x, .int .i64 y] := by
  unfold Value.okWide at hv
  rw [Try.underlying24] at hv
  obtain ⟨cs, rfl, hsz, _⟩ := hv
  obtain ⟨fuel, hf⟩ := h
  obtain ⟨xs, m, _, _, hlen, hxl, hg⟩ := DataW.trod_array Try.underlying24 hf
  rw [c_two] at hsz
  obtain ⟨c0, c1, rfl⟩ : ∃ c0 c1, cs = #[c0, c1] := by
    obtain ⟨l⟩ := cs
    match l, hsz with
    | [a, b], _ => exact ⟨a, b, rfl⟩
  match xs, hxl with
  | [x0, x1], _ =>
    have g0 : DataW.trod enc Try.prog w base sp held m 3 [c0] = some x0 := by simpa [c_two1, Value.cells] using hg 0 (by omega)
    have g1 : DataW.trod enc Try.prog w base sp held m 3 [c1] = some x1 := by simpa [c_two1, Value.cells] using hg 1 (by omega)
    obtain ⟨z0, e0, _, _⟩ := DataW.trod_int Try.underlying3 g0
    obtain ⟨z1, e1, _, _⟩ := DataW.trod_int Try.underlying3 g1
    simp only [List.cons.injEq, and_true] at e0 e1
    exact ⟨z0, z1, by rw [e0, e1]⟩
section
variable {H : Type} {enc : TypeId × Value → H} {w : World} {base : Nat} {held : Bool}
theorem c_trn : Try.prog.cellsOf 33 = 7 := by kernel_rfl
theorem c_trns : Try.prog.cellsOf 31 = 1 := by kernel_rfl
theorem c_trnp : Try.prog.cellsOf 23 = 2 := by kernel_rfl
theorem c_trni : Try.prog.cellsOf 3 = 1 := by kernel_rfl
set_option maxRecDepth 100000 in
theorem trod_trnp {fuel : Nat} {cs : List Value} {x : DataW H × List MemPlace} (h : DataW.trod enc Try.prog w base (fun _ => true) held fuel 23 cs = some x) : ∃ s : Int × Int, cs = wiS s ∧ ((Lit.int .i64 s.1).wf = true ∧ (Lit.int .i64 s.2).wf = true) := by
  obtain ⟨ys, n, _, _, hlen, hyl, hf⟩ := DataW.trod_struct Try.underlying23 h
  rw [c_trnp] at hlen
  match cs, hlen with
  | [c0, c1], _ =>
    match ys, hyl with
    | [y0, y1], _ =>
      have h0 : DataW.trod enc Try.prog w base (fun _ => true) held n 3 [c0] = some y0 := by simpa [c_trni] using hf 0 _ rfl
      have h1 : DataW.trod enc Try.prog w base (fun _ => true) held n 3 [c1] = some y1 := by simpa [c_trni] using hf 1 _ rfl
      obtain ⟨z0, e0, _, g0⟩ := DataW.trod_int Try.underlying3 h0
      obtain ⟨z1, e1, _, g1⟩ := DataW.trod_int Try.underlying3 h1
      simp only [List.cons.injEq, and_true] at e0 e1
      exact ⟨(z0, z1), by rw [e0, e1]; rfl, g0, g1⟩
set_option maxRecDepth 100000 in
theorem trod_trn {fuel : Nat} {cs : List Value} {x : DataW H × List MemPlace} (h : DataW.trod enc Try.prog w base (fun _ => true) held fuel 33 cs = some x) : ∃ s : Trn, cs = [.int .i64 s.n, .int .i64 s.f, .int .i64 s.t, .int .i64 s.g, .int .i64 s.u, .slice s.A s.m s.c, .slice s.B s.k s.d] ∧ TrnOk w s := by
  obtain ⟨ys, n, _, _, hlen, hyl, hf⟩ := DataW.trod_struct Try.underlying33 h
  rw [c_trn] at hlen
  match cs, hlen with
  | [c0, c1, c2, c3, c4, c5, c6], _ =>
    match ys, hyl with
    | [y0, y1, y2, y3, y4], _ =>
      have h0 : DataW.trod enc Try.prog w base (fun _ => true) held n 3 [c0] = some y0 := by simpa [c_trni, c_trns, c_trnp] using hf 0 _ rfl
      have h1 : DataW.trod enc Try.prog w base (fun _ => true) held n 23 [c1, c2] = some y1 := by simpa [c_trni, c_trns, c_trnp] using hf 1 _ rfl
      have h2 : DataW.trod enc Try.prog w base (fun _ => true) held n 23 [c3, c4] = some y2 := by simpa [c_trni, c_trns, c_trnp] using hf 2 _ rfl
      have h3 : DataW.trod enc Try.prog w base (fun _ => true) held n 31 [c5] = some y3 := by simpa [c_trni, c_trns, c_trnp] using hf 3 _ rfl
      have h4 : DataW.trod enc Try.prog w base (fun _ => true) held n 31 [c6] = some y4 := by simpa [c_trni, c_trns, c_trnp] using hf 4 _ rfl
      obtain ⟨z0, e0, _, g0⟩ := DataW.trod_int Try.underlying3 h0
      obtain ⟨s1, e1, g1⟩ := trod_trnp h1
      obtain ⟨s2, e2, g2⟩ := trod_trnp h2
      obtain ⟨A, m, c, l, e3, g3, k1, k2, g4, g5⟩ := ktrod (α := Int × Int) (enc := wiS) (k := 2) (Ok := fun s => (Lit.int .i64 s.1).wf = true ∧ (Lit.int .i64 s.2).wf = true) Try.underlying31 (fun _ => rfl) (by omega) c_trnp (fun {_ _ _} h => trod_trnp h) h3
      obtain ⟨B, k, d, o, e4, g6, k3, k4, g9, g10⟩ := ktrod (α := Int × Int) (enc := wiS) (k := 2) (Ok := fun s => (Lit.int .i64 s.1).wf = true ∧ (Lit.int .i64 s.2).wf = true) Try.underlying31 (fun _ => rfl) (by omega) c_trnp (fun {_ _ _} h => trod_trnp h) h4
      simp only [wiS, List.cons.injEq, and_true] at e0 e1 e2 e3 e4
      exact ⟨⟨z0, s1.1, s1.2, s2.1, s2.2, A, m, c, l, B, k, d, o⟩, by rw [e0, e1.1, e1.2, e2.1, e2.2, e3, e4], g0, g1, g2, g3, k1, g4, g6, k3, g9⟩
set_option maxRecDepth 100000 in
theorem open_turn27 {r : Reach} {b0 : Nat} {v : Value} {d : DataW H} {ps : List MemPlace} (hv : Value.okWide Try.prog w r b0 33 v) (h : DataW.Trod enc Try.prog w base (fun _ => true) held 33 v d ps) : ∃ s : Trn, v = .agg #[.int .i64 s.n, .int .i64 s.f, .int .i64 s.t, .int .i64 s.g, .int .i64 s.u, .slice s.A s.m s.c, .slice s.B s.k s.d] ∧ TrnOk w s := by
  obtain ⟨cs, rfl, _⟩ := okWide_struct Try.underlying33 hv
  obtain ⟨fuel, hf⟩ := h
  obtain ⟨s, hi, g⟩ := trod_trn hf
  exact ⟨s, by rw [show cs = #[.int .i64 s.n, .int .i64 s.f, .int .i64 s.t, .int .i64 s.g, .int .i64 s.u, .slice s.A s.m s.c, .slice s.B s.k s.d] from Array.ext' (by simpa [Value.cells] using hi)], g⟩
set_option maxRecDepth 100000 in
theorem open_wspan {r : Reach} {b0 : Nat} {v : Value} {d : DataW H} {ps : List MemPlace} (hv : Value.okWide Try.prog w r b0 23 v) (h : DataW.Trod enc Try.prog w base (fun _ => true) held 23 v d ps) : ∃ s : WSp, v = .agg #[.int .i64 s.f, .int .i64 s.t] ∧ WSpOk s := by
  obtain ⟨cs, rfl, _⟩ := okWide_struct Try.underlying23 hv
  obtain ⟨fuel, hf⟩ := h
  obtain ⟨s, hi, g⟩ := trod_trnp hf
  exact ⟨⟨s.1, s.2⟩, by rw [show cs = #[.int .i64 s.1, .int .i64 s.2] from Array.ext' (by simpa [Value.cells, wiS] using hi)], g.1, g.2⟩
end
end Go.Proofs.Ytjkmkobnfhepaaa
