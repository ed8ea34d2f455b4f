/- What the laws on histories are told: openers. -/
import Derived.Test.YtncbhbjhfmbbkaaKOpen
import Derived.Test.YtncbhbjhfmbbkaaEdOpens
import Derived.Test.YtncbhbjhfmbbkaaHsF
namespace Go.Proofs.Ytncbhbjhfmbbkaa
open Go.ChangeShapes Go.WideShapes Go.ChangeAt Go.RowKit
/-- An operation: what, and two slices of edits. -/
structure HO where
  a : Int
  A : Option Addr
  n : Nat
  c : Nat
  l : List E3
  A' : Option Addr
  n' : Nat
  c' : Nat
  l' : List E3
def hocs (s : HO) : List Value := [.int .i64 s.a, .slice s.A s.n s.c, .slice s.A' s.n' s.c']
def HOok (w : World) (s : HO) : Prop := (s.l.length = s.n ∧ EdsAt w s.A s.l) ∧ s.l'.length = s.n' ∧ EdsAt w s.A' s.l'
theorem HOok.below {w w' : World} {s : HO} (h : HOok w s) (hb : Below w.heap.size w w') : HOok w' s := ⟨⟨h.1.1, h.1.2.below hb⟩, h.2.1, h.2.2.below hb⟩
def ecl (e : E3) : List Value := [.int .i64 e.f, .int .i64 e.t, .string e.x]
theorem eds_of_rows {w : World} {A : Option Addr} {l : List E3} (h : RowsAt ecl 3 w A l) : EdsAt w A l := by
  intro hl
  obtain ⟨b, off, rfl, h1, h2⟩ := h hl
  refine ⟨b, off, rfl, h1, fun k hk => ?_⟩
  have e : eth l k = l[k] := by simp [eth, List.getD, hk]
  rw [e]
  exact ⟨h2 k hk 0 (by omega), h2 k hk 1 (by omega), h2 k hk 2 (by omega)⟩
section
variable {H : Type} {enc : TypeId × Value → H} {w : World} {base : Nat} {held : Bool}
theorem c_hop : Try.prog.cellsOf 66 = 3 := by kernel_rfl
theorem c_edits : Try.prog.cellsOf 64 = 1 := by kernel_rfl
set_option maxRecDepth 100000 in
theorem trod_edits {fuel : Nat} {cs : List Value} {x : DataW H × List MemPlace} (hf : DataW.trod enc Try.prog w base (fun _ => true) held fuel 64 cs = some x) :
    ∃ (A : Option Addr) (n c : Nat) (l : List E3), cs = [.slice A n c] ∧ l.length = n ∧ EdsAt w A l := by
  obtain ⟨A, n, c, l, h1, h2, _, _, h3, _⟩ := ktrod (α := E3) (enc := ecl) (k := 3) (Ok := fun _ => True) Try.underlying64 (fun _ => rfl) (by omega) c_edit (fun {_ _ _} h => by obtain ⟨s, hs⟩ := trod_edit h; exact ⟨s, hs, trivial⟩) hf
  exact ⟨A, n, c, l, h1, h2, eds_of_rows h3⟩
set_option maxRecDepth 100000 in
theorem trod_hop {fuel : Nat} {cs : List Value} {x : DataW H × List MemPlace} (h : DataW.trod enc Try.prog w base (fun _ => true) held fuel 66 cs = some x) : ∃ s : HO, cs = hocs s ∧ HOok w s := by
  obtain ⟨ys, n, _, _, hlen, hyl, hf⟩ := DataW.trod_struct Try.underlying66 h
  rw [c_hop] at hlen
  match cs, hlen with
  | [c0, c1, c2], _ =>
    match ys, hyl with
    | [y0, y1, y2], _ =>
      have h0 : DataW.trod enc Try.prog w base (fun _ => true) held n 3 [c0] = some y0 := by simpa [c_intE, c_edits] using hf 0 _ rfl
      have h1 : DataW.trod enc Try.prog w base (fun _ => true) held n 64 [c1] = some y1 := by simpa [c_intE, c_edits] using hf 1 _ rfl
      have h2 : DataW.trod enc Try.prog w base (fun _ => true) held n 64 [c2] = some y2 := by simpa [c_intE, c_edits] using hf 2 _ rfl
      obtain ⟨z0, e0, _, _⟩ := DataW.trod_int Try.underlying3 h0
      obtain ⟨A, k, c, l, e1, g1, g2⟩ := trod_edits h1
      obtain ⟨A', k', c', l', e2, g3, g4⟩ := trod_edits h2
      simp only [List.cons.injEq, and_true] at e0 e1 e2
      exact ⟨⟨z0, A, k, c, l, A', k', c', l'⟩, by rw [e0, e1, e2]; rfl, ⟨g1, g2⟩, g3, g4⟩
set_option maxRecDepth 100000 in
theorem open_hop {r : Reach} {b0 : Nat} {v : Value} {d : DataW H} {ps : List MemPlace} (hv : Value.okWide Try.prog w r b0 66 v) (h : DataW.Trod enc Try.prog w base (fun _ => true) held 66 v d ps) : ∃ s : HO, v = .agg #[.int .i64 s.a, .slice s.A s.n s.c, .slice s.A' s.n' s.c'] ∧ HOok w s := by
  obtain ⟨cs, rfl, _⟩ := okWide_struct Try.underlying66 hv
  obtain ⟨fuel, hf⟩ := h
  obtain ⟨i, hi, ho⟩ := trod_hop hf
  exact ⟨i, by rw [show cs = #[.int .i64 i.a, .slice i.A i.n i.c, .slice i.A' i.n' i.c'] from by simpa [Value.cells, hocs, ← Array.toList_inj] using hi], ho⟩
set_option maxRecDepth 100000 in
theorem opens_hops {r : Reach} {b0 : Nat} {v : Value} {d : DataW H} {ps : List MemPlace} (hv : Value.okWide Try.prog w r b0 57 v) (h : DataW.Trod enc Try.prog w base (fun _ => true) held 57 v d ps) :
    ∃ (A : Option Addr) (n c : Nat) (l : List HO), v = .slice A n c ∧ l.length = n ∧ n ≤ maxLen ∧ Caps A n c ∧ RowsAt hocs 3 w A l ∧ ∀ s ∈ l, HOok w s :=
  kopen (α := HO) (enc := hocs) (k := 3) Try.underlying57 (fun _ => rfl) (by omega) c_hop (fun {_ _ _} h => trod_hop h) hv h
end
end Go.Proofs.Ytncbhbjhfmbbkaa
