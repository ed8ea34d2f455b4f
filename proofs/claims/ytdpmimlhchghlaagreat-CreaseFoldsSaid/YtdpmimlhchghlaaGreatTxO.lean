/- What the laws on creases are told: a text by value: how many runes, inlays, hidden spans. -/
import Derived.Test.YtdpmimlhchghlaaGreatInO
import Derived.Test.YtdpmimlhchghlaaGreatWvI
namespace Go.Proofs.YtdpmimlhchghlaaGreat
open Go.ChangeShapes Go.WideShapes Go.ChangeAt Go.RowKit
set_option linter.unusedVariables false
structure Txt where
  n : Int
  A : Option Addr
  m : Nat
  c : Nat
  l : List In
  B : Option Addr
  k : Nat
  d : Nat
  o : List (Int × Int)
structure TxtOk (w : World) (s : Txt) : Prop where
  wf : (Lit.int .i64 s.n).wf = true
  la : s.l.length = s.m
  max : s.m ≤ maxLen
  caps : Caps s.A s.m s.c
  rows : RowsAt encI 5 w s.A s.l
  ok : ∀ a ∈ s.l, InOk a
  lb : s.o.length = s.k
  maxb : s.k ≤ maxLen
  capsb : Caps s.B s.k s.d
  rowsb : RowsAt wencS 2 w s.B s.o
  okb : ∀ x ∈ s.o, (Lit.int .i64 x.1).wf = true ∧ (Lit.int .i64 x.2).wf = true
theorem TxtOk.below {w w' : World} {s : Txt} (h : TxtOk w s) (hb : Below w.heap.size w w') : TxtOk w' s := ⟨h.wf, h.la, h.max, h.caps, h.rows.below hb, h.ok, h.lb, h.maxb, h.capsb, h.rowsb.below hb, h.okb⟩
section
variable {H : Type} {enc : TypeId × Value → H} {w : World} {base : Nat} {held : Bool}
theorem c_txt : Tryz.prog.cellsOf 25 = 3 := by kernel_rfl
theorem c_txtr : Tryz.prog.cellsOf 22 = 1 := by kernel_rfl
theorem c_txts : Tryz.prog.cellsOf 23 = 1 := by kernel_rfl
theorem c_txtp : Tryz.prog.cellsOf 47 = 2 := by kernel_rfl
theorem trod_spanp {fuel : Nat} {cs : List Value} {x : DataW H × List MemPlace} (h : DataW.trod enc Tryz.prog w base (fun _ => true) held fuel 47 cs = some x) : ∃ s : Int × Int, cs = wencS s ∧ ((Lit.int .i64 s.1).wf = true ∧ (Lit.int .i64 s.2).wf = true) := by
  obtain ⟨s, e, g⟩ := trod_spanv h
  exact ⟨(s.f, s.t), e, g.1, g.2⟩
set_option maxRecDepth 100000 in
theorem trod_txt {fuel : Nat} {cs : List Value} {x : DataW H × List MemPlace} (h : DataW.trod enc Tryz.prog w base (fun _ => true) held fuel 25 cs = some x) : ∃ s : Txt, cs = [.int .i64 s.n, .slice s.A s.m s.c, .slice s.B s.k s.d] ∧ TxtOk w s := by
  obtain ⟨ys, n, _, _, hlen, hyl, hf⟩ := DataW.trod_struct Tryz.underlying25 h
  rw [c_txt] at hlen
  match cs, hlen with
  | [c0, c2, c3], _ =>
    match ys, hyl with
    | [y0, y2, y3], _ =>
      have h0 : DataW.trod enc Tryz.prog w base (fun _ => true) held n 3 [c0] = some y0 := by simpa [ic_int, c_txts, c_txtr] using hf 0 _ rfl
      have h2 : DataW.trod enc Tryz.prog w base (fun _ => true) held n 22 [c2] = some y2 := by simpa [ic_int, c_txts, c_txtr] using hf 1 _ rfl
      have h3 : DataW.trod enc Tryz.prog w base (fun _ => true) held n 23 [c3] = some y3 := by simpa [ic_int, c_txts, c_txtr] using hf 2 _ rfl
      obtain ⟨z0, e0, _, g0⟩ := DataW.trod_int Tryz.underlying3 h0
      obtain ⟨A, m, c, l, e2, g3, g1, g2, g4, g5⟩ := ktrod (α := In) (enc := encI) (k := 5) (Ok := InOk) Tryz.underlying22 (fun _ => rfl) (by omega) ic_in (fun {_ _ _} h => trod_inlay h) h2
      obtain ⟨B, k, d, o, e3, g6, g7, g8, g9, g10⟩ := ktrod (α := Int × Int) (enc := wencS) (k := 2) (Ok := fun s => (Lit.int .i64 s.1).wf = true ∧ (Lit.int .i64 s.2).wf = true) Tryz.underlying23 (fun _ => rfl) (by omega) c_txtp (fun {_ _ _} h => trod_spanp h) h3
      simp only [List.cons.injEq, and_true] at e0 e2 e3
      exact ⟨⟨z0, A, m, c, l, B, k, d, o⟩, by rw [e0, e2, e3], g0, g3, g1, g2, g4, g5, g6, g7, g8, g9, g10⟩
set_option maxRecDepth 100000 in
theorem open_txt {r : Reach} {b0 : Nat} {v : Value} {d : DataW H} {ps : List MemPlace} (hv : Value.okWide Tryz.prog w r b0 25 v) (h : DataW.Trod enc Tryz.prog w base (fun _ => true) held 25 v d ps) : ∃ s : Txt, v = .agg #[.int .i64 s.n, .slice s.A s.m s.c, .slice s.B s.k s.d] ∧ TxtOk w s := by
  obtain ⟨cs, rfl, _⟩ := okWide_struct Tryz.underlying25 hv
  obtain ⟨fuel, hf⟩ := h
  obtain ⟨s, hi, g⟩ := trod_txt hf
  exact ⟨s, by rw [show cs = #[.int .i64 s.n, .slice s.A s.m s.c, .slice s.B s.k s.d] from Array.ext' (by simpa [Value.cells] using hi)], g⟩
end
end Go.Proofs.YtdpmimlhchghlaaGreat
