/- What the law WeaveSplices is told: a splice by value; two sets that are the same outside of a span. -/
import Derived.Test.YtbeclkhahdcmbaaGreatInO
import Derived.Test.YtbeclkhahdcmbaaGreatWvV
namespace Go.Proofs.YtbeclkhahdcmbaaGreat
open Go.ChangeShapes Go.WideShapes Go.ChangeAt Go.RowKit
set_option linter.unusedVariables false
/-- A splice: from, to, ids, inlays. -/
structure Spl where
  f : Int
  t : Int
  A : Option Addr
  n : Nat
  c : Nat
  l : List Int
  B : Option Addr
  k : Nat
  d : Nat
  o : List In
structure SplOk (w : World) (s : Spl) : Prop where
  lr : s.l.length = s.n
  ints : IntsAt .i64 w s.A s.l
  wf : ∀ x ∈ s.l, (Lit.int .i64 x).wf = true
  la : s.o.length = s.k
  max : s.k ≤ maxLen
  caps : Caps s.B s.k s.d
  rows : RowsAt encI 5 w s.B s.o
  ok : ∀ a ∈ s.o, InOk a
theorem SplOk.below {w w' : World} {s : Spl} (h : SplOk w s) (hb : Below w.heap.size w w') : SplOk w' s := ⟨h.lr, h.ints.below hb, h.wf, h.la, h.max, h.caps, h.rows.below hb, h.ok⟩
theorem ints_of_rows14 {w : World} {A : Option Addr} {l : List Int} (h : RowsAt (fun x : Int => [Value.int .i64 x]) 1 w A l) : IntsAt .i64 w A l := by
  intro hl
  obtain ⟨b, off, rfl, h1, h2⟩ := h hl
  refine ⟨b, off, rfl, h1, fun k hk => ?_⟩
  have e : nth l k = l[k] := by simp [nth, List.getD, hk]
  have := h2 k hk 0 (by omega)
  rw [e]
  simpa using this
section
variable {H : Type} {enc : TypeId × Value → H} {w : World} {base : Nat} {held : Bool}
theorem c_spl : Tryz.prog.cellsOf 25 = 4 := by kernel_rfl
theorem c_spli : Tryz.prog.cellsOf 23 = 1 := by kernel_rfl
theorem c_splr : Tryz.prog.cellsOf 22 = 1 := by kernel_rfl
set_option maxRecDepth 100000 in
theorem trod_spl {fuel : Nat} {cs : List Value} {x : DataW H × List MemPlace} (h : DataW.trod enc Tryz.prog w base (fun _ => true) held fuel 25 cs = some x) : ∃ s : Spl, cs = [.int .i64 s.f, .int .i64 s.t, .slice s.A s.n s.c, .slice s.B s.k s.d] ∧ SplOk w s := by
  obtain ⟨ys, n, _, _, hlen, hyl, hf⟩ := DataW.trod_struct Tryz.underlying25 h
  rw [c_spl] at hlen
  match cs, hlen with
  | [c0, c1, c2, c3], _ =>
    match ys, hyl with
    | [y0, y1, y2, y3], _ =>
      have h0 : DataW.trod enc Tryz.prog w base (fun _ => true) held n 3 [c0] = some y0 := by simpa [ic_int, c_spli, c_splr] using hf 0 _ rfl
      have h1 : DataW.trod enc Tryz.prog w base (fun _ => true) held n 3 [c1] = some y1 := by simpa [ic_int, c_spli, c_splr] using hf 1 _ rfl
      have h2 : DataW.trod enc Tryz.prog w base (fun _ => true) held n 23 [c2] = some y2 := by simpa [ic_int, c_spli, c_splr] using hf 2 _ rfl
      have h3 : DataW.trod enc Tryz.prog w base (fun _ => true) held n 22 [c3] = some y3 := by simpa [ic_int, c_spli, c_splr] using hf 3 _ rfl
      obtain ⟨z0, e0, _⟩ := DataW.trod_int Tryz.underlying3 h0
      obtain ⟨z1, e1, _⟩ := DataW.trod_int Tryz.underlying3 h1
      obtain ⟨A', m', c', l', e2, g3, _, _, g4, g5⟩ := ktrod (α := Int) (enc := fun x : Int => [Value.int .i64 x]) (k := 1) (Ok := fun x => (Lit.int .i64 x).wf = true) Tryz.underlying23 (fun _ => rfl) (by omega) ic_int (fun {_ _ _} h => by obtain ⟨s, hs, _, g⟩ := DataW.trod_int Tryz.underlying3 h; exact ⟨s, hs, g⟩) h2
      obtain ⟨B, k, d, o, e3, g6, g7, g8, g9, g10⟩ := ktrod (α := In) (enc := encI) (k := 5) (Ok := InOk) Tryz.underlying22 (fun _ => rfl) (by omega) ic_in (fun {_ _ _} h => trod_inlay h) h3
      simp only [List.cons.injEq, and_true] at e0 e1 e2 e3
      exact ⟨⟨z0, z1, A', m', c', l', B, k, d, o⟩, by rw [e0, e1, e2, e3], g3, ints_of_rows14 g4, g5, g6, g7, g8, g9, g10⟩
set_option maxRecDepth 100000 in
theorem open_spl {r : Reach} {b0 : Nat} {v : Value} {d : DataW H} {ps : List MemPlace} (hv : Value.okWide Tryz.prog w r b0 25 v) (h : DataW.Trod enc Tryz.prog w base (fun _ => true) held 25 v d ps) : ∃ s : Spl, v = .agg #[.int .i64 s.f, .int .i64 s.t, .slice s.A s.n s.c, .slice s.B s.k s.d] ∧ SplOk w s := by
  obtain ⟨cs, rfl, _⟩ := okWide_struct Tryz.underlying25 hv
  obtain ⟨fuel, hf⟩ := h
  obtain ⟨s, hi, g⟩ := trod_spl hf
  exact ⟨s, by rw [show cs = #[.int .i64 s.f, .int .i64 s.t, .slice s.A s.n s.c, .slice s.B s.k s.d] from Array.ext' (by simpa [Value.cells] using hi)], g⟩
end
/-- The inlays outside of a span. -/
def wbes (f t : Int) (o : List In) : List In := o.filter fun a => decide (a.pl < f ∨ t < a.pl)
theorem wbes_snoc (f t : Int) (o : List In) (a : In) : wbes f t (o ++ [a]) = if a.pl < f ∨ t < a.pl then wbes f t o ++ [a] else wbes f t o := by
  unfold wbes
  rw [List.filter_append]
  by_cases h : a.pl < f ∨ t < a.pl
  · rw [if_pos h, List.filter_cons_of_pos (by exact decide_eq_true h)]; rfl
  · rw [if_neg h, List.filter_cons_of_neg (by simpa using h)]; simp
theorem wbes_turn {f t : Int} {o o' : List In} (hft : f ≤ t) (h : wbes f t o = wbes f t o') : WvTurn o o' f t t := by
  have e1 : ∀ l : List In, (l.filter fun a => decide (a.pl < f)) = (wbes f t l).filter fun a => decide (a.pl < f) := fun l => by
    unfold wbes
    rw [List.filter_filter]
    refine List.filter_congr fun a _ => ?_
    by_cases g : a.pl < f <;> simp [g]
  have e2 : ∀ l : List In, (l.filter fun a => decide (t < a.pl)) = (wbes f t l).filter fun a => decide (t < a.pl) := fun l => by
    unfold wbes
    rw [List.filter_filter]
    refine List.filter_congr fun a _ => ?_
    by_cases g : t < a.pl <;> simp [g]
  refine ⟨by rw [e1 o, e1 o', h], ?_⟩
  rw [show t - t = 0 from by omega, wsh_zero, e2 o, e2 o', h]
end Go.Proofs.YtbeclkhahdcmbaaGreat
