/- What the laws on anchors are told: openers. -/
import Derived.Test.YtncbhbjhfmbbkaaKOpen
import Derived.Test.YtncbhbjhfmbbkaaAnA
namespace Go.Proofs.Ytncbhbjhfmbbkaa
open Go.ChangeShapes Go.WideShapes Go.ChangeAt Go.RowKit
section
variable {H : Type} {enc : TypeId × Value → H} {w : World} {base : Nat} {held : Bool}
theorem c_anchor : Try.prog.cellsOf 36 = 3 := by kernel_rfl
theorem c_intA : Try.prog.cellsOf 3 = 1 := by kernel_rfl
set_option maxRecDepth 100000 in
theorem trod_anchor {fuel : Nat} {cs : List Value} {x : DataW H × List MemPlace} (h : DataW.trod enc Try.prog w base (fun _ => true) held fuel 36 cs = some x) : ∃ a : An, cs = encA a ∧ (Lit.int .i64 a.id).wf = true := by
  obtain ⟨ys, n, _, _, hlen, hyl, hf⟩ := DataW.trod_struct Try.underlying36 h
  rw [c_anchor] at hlen
  match cs, hlen with
  | [c0, c1, c2], _ =>
    match ys, hyl with
    | [y0, y1, y2], _ =>
      have h0 : DataW.trod enc Try.prog w base (fun _ => true) held n 3 [c0] = some y0 := by simpa [c_intA] using hf 0 _ rfl
      have h1 : DataW.trod enc Try.prog w base (fun _ => true) held n 3 [c1] = some y1 := by simpa [c_intA] using hf 1 _ rfl
      have h2 : DataW.trod enc Try.prog w base (fun _ => true) held n 3 [c2] = some y2 := by simpa [c_intA] using hf 2 _ rfl
      obtain ⟨z0, e0, _, w0⟩ := DataW.trod_int Try.underlying3 h0
      obtain ⟨z1, e1, _, _⟩ := DataW.trod_int Try.underlying3 h1
      obtain ⟨z2, e2, _, _⟩ := DataW.trod_int Try.underlying3 h2
      simp only [List.cons.injEq, and_true] at e0 e1 e2
      exact ⟨⟨z0, z1, z2⟩, by rw [e0, e1, e2]; rfl, w0⟩
set_option maxRecDepth 100000 in
theorem opens_anchors {r : Reach} {b0 : Nat} {v : Value} {d : DataW H} {ps : List MemPlace} (hv : Value.okWide Try.prog w r b0 22 v) (h : DataW.Trod enc Try.prog w base (fun _ => true) held 22 v d ps) :
    ∃ (A : Option Addr) (n c : Nat) (l : List An), v = .slice A n c ∧ l.length = n ∧ n ≤ maxLen ∧ Caps A n c ∧ RowsAt encA 3 w A l ∧ ∀ s ∈ l, (Lit.int .i64 s.id).wf = true :=
  kopen (α := An) (enc := encA) (k := 3) Try.underlying22 encA_len (by omega) c_anchor (fun {_ _ _} h => trod_anchor h) hv h
end
end Go.Proofs.Ytncbhbjhfmbbkaa
