/- What the law FoldsSteps is told: operations. -/
import Derived.Test.YtnfjleobcfhpnaaFoO
import Derived.Test.YtnfjleobcfhpnaaChOpens
import Derived.Test.YtnfjleobcfhpnaaMid
namespace Go.Proofs.Ytnfjleobcfhpnaa
open Go.ChangeShapes Go.WideShapes Go.ChangeAt Go.RowKit
set_option linter.unusedVariables false
/-- An operation: which; a span; changes. -/
structure FOp where
  wh : Int
  x : Fo
  A : Option Addr
  n : Nat
  c : Nat
  l : List Ch
def focs (s : FOp) : List Value := [.int .i64 s.wh, .int .i64 s.x.f, .int .i64 s.x.t, .slice s.A s.n s.c]
theorem focs_len (s : FOp) : (focs s).length = 4 := rfl
structure FOpOk (w : World) (s : FOp) : Prop where
  wf : FoOk s.x
  lp : s.l.length = s.n
  at_ : ChsAt w s.A s.l
theorem FOpOk.below {w w' : World} {s : FOp} (h : FOpOk w s) (hb : Below w.heap.size w w') : FOpOk w' s := ⟨h.wf, h.lp, h.at_.below hb⟩
theorem chs_of_rowsF {w : World} {A : Option Addr} {l : List Ch} (h : RowsAt (fun c => (chcs c).toList) 4 w A l) : ChsAt w A l := by
  intro hl
  obtain ⟨b, off, rfl, h1, h2⟩ := h hl
  refine ⟨b, off, rfl, h1, fun k hk => ?_⟩
  have e : cth l k = l[k] := by simp [cth, List.getD, hk]
  rw [e]
  exact ⟨h2 k hk 0 (by omega), h2 k hk 1 (by omega), h2 k hk 2 (by omega), h2 k hk 3 (by omega)⟩
section
variable {H : Type} {enc : TypeId × Value → H} {w : World} {base : Nat} {held : Bool}
theorem c_fop : Try.prog.cellsOf 41 = 4 := by kernel_rfl
theorem c_chlF : Try.prog.cellsOf 39 = 1 := by kernel_rfl
set_option maxRecDepth 100000 in
theorem trod_fop {fuel : Nat} {cs : List Value} {x : DataW H × List MemPlace} (h : DataW.trod enc Try.prog w base (fun _ => true) held fuel 41 cs = some x) : ∃ s : FOp, cs = focs s ∧ FOpOk w s := by
  obtain ⟨ys, n, _, _, hlen, hyl, hf⟩ := DataW.trod_struct Try.underlying41 h
  rw [c_fop] at hlen
  match cs, hlen with
  | [c0, c1, c2, c3], _ =>
    match ys, hyl with
    | [y0, y1, y2], _ =>
      have h0 : DataW.trod enc Try.prog w base (fun _ => true) held n 3 [c0] = some y0 := by simpa [fc_int, fc_span, c_chlF] using hf 0 _ rfl
      have h1 : DataW.trod enc Try.prog w base (fun _ => true) held n 33 [c1, c2] = some y1 := by simpa [fc_int, fc_span, c_chlF] using hf 1 _ rfl
      have h2 : DataW.trod enc Try.prog w base (fun _ => true) held n 39 [c3] = some y2 := by simpa [fc_int, fc_span, c_chlF] using hf 2 _ rfl
      obtain ⟨z0, e0, _, _⟩ := DataW.trod_int Try.underlying3 h0
      obtain ⟨s, e1, g1⟩ := trod_fold h1
      obtain ⟨A, m, c, l, e2, g2, _, _, g3, _⟩ := ktrod (α := Ch) (enc := fun c => (chcs c).toList) (k := 4) (Ok := fun _ => True) Try.underlying39 (fun _ => rfl) (by omega) c_change (fun {_ _ _} h => by obtain ⟨s, hs⟩ := trod_change h; exact ⟨s, hs, trivial⟩) h2
      simp only [List.cons.injEq, and_true, encF] at e0 e1 e2
      exact ⟨⟨z0, s, A, m, c, l⟩, by rw [e0, e1.1, e1.2, e2]; rfl, g1, g2, chs_of_rowsF g3⟩
set_option maxRecDepth 100000 in
theorem opens_fops {r : Reach} {b0 : Nat} {v : Value} {d : DataW H} {ps : List MemPlace} (hv : Value.okWide Try.prog w r b0 38 v) (h : DataW.Trod enc Try.prog w base (fun _ => true) held 38 v d ps) :
    ∃ (A : Option Addr) (n c : Nat) (l : List FOp), v = .slice A n c ∧ l.length = n ∧ n ≤ maxLen ∧ Caps A n c ∧ RowsAt focs 4 w A l ∧ ∀ s ∈ l, FOpOk w s :=
  kopen (α := FOp) (enc := focs) (k := 4) Try.underlying38 (fun _ => rfl) (by omega) c_fop (fun {_ _ _} h => trod_fop h) hv h
end
end Go.Proofs.Ytnfjleobcfhpnaa
