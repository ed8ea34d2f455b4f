/- What the law InlaysSteps is told: operations. -/
import Derived.Test.YtmijlijgcaaiiaaInO
import Derived.Test.YtmijlijgcaaiiaaChOpens
import Derived.Test.YtmijlijgcaaiiaaMid
namespace Go.Proofs.Ytmijlijgcaaiiaa
open Go.ChangeShapes Go.WideShapes Go.ChangeAt Go.RowKit
set_option linter.unusedVariables false
/-- An operation: whether it shifts; changes, ids, inlays. -/
structure IOp where
  sh : Bool
  A : Option Addr
  n : Nat
  c : Nat
  l : List Ch
  A' : Option Addr
  n' : Nat
  c' : Nat
  l' : List Int
  B : Option Addr
  k : Nat
  d : Nat
  o : List In
def iocs (s : IOp) : List Value := [.bool s.sh, .slice s.A s.n s.c, .slice s.A' s.n' s.c', .slice s.B s.k s.d]
theorem iocs_len (s : IOp) : (iocs s).length = 4 := rfl
structure IOk (w : World) (s : IOp) : Prop where
  lp : s.l.length = s.n
  at_ : ChsAt w s.A s.l
  lr : s.l'.length = s.n'
  ints : IntsAt .i64 w s.A' s.l'
  wf : ∀ x ∈ s.l', (Lit.int .i64 x).wf = true
  la : s.o.length = s.k
  max : s.k ≤ maxLen
  caps : Caps s.B s.k s.d
  rows : RowsAt encI 5 w s.B s.o
  ok : ∀ a ∈ s.o, InOk a
theorem IOk.below {w w' : World} {s : IOp} (h : IOk w s) (hb : Below w.heap.size w w') : IOk w' s := ⟨h.lp, h.at_.below hb, h.lr, h.ints.below hb, h.wf, h.la, h.max, h.caps, h.rows.below hb, h.ok⟩
theorem chs_of_rows {w : World} {A : Option Addr} {l : List Ch} (h : RowsAt (fun c => (chcs c).toList) 4 w A l) : ChsAt w A l := by
  intro hl
  obtain ⟨b, off, rfl, h1, h2⟩ := h hl
  refine ⟨b, off, rfl, h1, fun k hk => ?_⟩
  have e : cth l k = l[k] := by simp [cth, List.getD, hk]
  rw [e]
  exact ⟨h2 k hk 0 (by omega), h2 k hk 1 (by omega), h2 k hk 2 (by omega), h2 k hk 3 (by omega)⟩
theorem ints_of_rows {w : World} {A : Option Addr} {l : List Int} (h : RowsAt (encN .i64) 1 w A l) : IntsAt .i64 w A l := by
  intro hl
  obtain ⟨b, off, rfl, h1, h2⟩ := h hl
  refine ⟨b, off, rfl, h1, fun k hk => ?_⟩
  have e : nth l k = l[k] := by simp [nth, List.getD, hk]
  have := h2 k hk 0 (by omega)
  rw [e]
  simpa [encN] using this
section
variable {H : Type} {enc : TypeId × Value → H} {w : World} {base : Nat} {held : Bool}
theorem c_iop : Try.prog.cellsOf 37 = 4 := by kernel_rfl
theorem c_chl : Try.prog.cellsOf 34 = 1 := by kernel_rfl
theorem c_intl : Try.prog.cellsOf 35 = 1 := by kernel_rfl
theorem c_inl : Try.prog.cellsOf 22 = 1 := by kernel_rfl
theorem c_booll : Try.prog.cellsOf 4 = 1 := by kernel_rfl
set_option maxRecDepth 100000 in
theorem trod_iop {fuel : Nat} {cs : List Value} {x : DataW H × List MemPlace} (h : DataW.trod enc Try.prog w base (fun _ => true) held fuel 37 cs = some x) : ∃ s : IOp, cs = iocs s ∧ IOk w s := by
  obtain ⟨ys, n, _, _, hlen, hyl, hf⟩ := DataW.trod_struct Try.underlying37 h
  rw [c_iop] at hlen
  match cs, hlen with
  | [c0, c1, c2, c3], _ =>
    match ys, hyl with
    | [y0, y1, y2, y3], _ =>
      have h0 : DataW.trod enc Try.prog w base (fun _ => true) held n 4 [c0] = some y0 := by simpa [c_booll, c_chl, c_intl, c_inl] using hf 0 _ rfl
      have h1 : DataW.trod enc Try.prog w base (fun _ => true) held n 34 [c1] = some y1 := by simpa [c_booll, c_chl, c_intl, c_inl] using hf 1 _ rfl
      have h2 : DataW.trod enc Try.prog w base (fun _ => true) held n 35 [c2] = some y2 := by simpa [c_booll, c_chl, c_intl, c_inl] using hf 2 _ rfl
      have h3 : DataW.trod enc Try.prog w base (fun _ => true) held n 22 [c3] = some y3 := by simpa [c_booll, c_chl, c_intl, c_inl] using hf 3 _ rfl
      obtain ⟨z0, e0, _⟩ := DataW.trod_bool Try.underlying4 h0
      obtain ⟨A, m, c, l, e1, g1, _, _, g2, _⟩ := ktrod (α := Ch) (enc := fun c => (chcs c).toList) (k := 4) (Ok := fun _ => True) Try.underlying34 (fun _ => rfl) (by omega) c_change (fun {_ _ _} h => by obtain ⟨s, hs⟩ := trod_change h; exact ⟨s, hs, trivial⟩) h1
      obtain ⟨A', m', c', l', e2, g3, _, _, g4, g5⟩ := ktrod (α := Int) (enc := encN .i64) (k := 1) (Ok := fun x => (Lit.int .i64 x).wf = true) Try.underlying35 (fun _ => rfl) (by omega) ic_int (fun {_ _ _} h => by obtain ⟨s, hs, _, g⟩ := DataW.trod_int Try.underlying3 h; exact ⟨s, hs, g⟩) h2
      obtain ⟨B, k, d, o, e3, g6, g7, g8, g9, g10⟩ := ktrod (α := In) (enc := encI) (k := 5) (Ok := InOk) Try.underlying22 (fun _ => rfl) (by omega) ic_in (fun {_ _ _} h => trod_inlay h) h3
      simp only [List.cons.injEq, and_true] at e0 e1 e2 e3
      exact ⟨⟨z0, A, m, c, l, A', m', c', l', B, k, d, o⟩, by rw [e0, e1, e2, e3]; rfl, g1, chs_of_rows g2, g3, ints_of_rows g4, g5, g6, g7, g8, g9, g10⟩
set_option maxRecDepth 100000 in
theorem opens_iops {r : Reach} {b0 : Nat} {v : Value} {d : DataW H} {ps : List MemPlace} (hv : Value.okWide Try.prog w r b0 23 v) (h : DataW.Trod enc Try.prog w base (fun _ => true) held 23 v d ps) :
    ∃ (A : Option Addr) (n c : Nat) (l : List IOp), v = .slice A n c ∧ l.length = n ∧ n ≤ maxLen ∧ Caps A n c ∧ RowsAt iocs 4 w A l ∧ ∀ s ∈ l, IOk w s :=
  kopen (α := IOp) (enc := iocs) (k := 4) Try.underlying23 (fun _ => rfl) (by omega) c_iop (fun {_ _ _} h => trod_iop h) hv h
end
end Go.Proofs.Ytmijlijgcaaiiaa
