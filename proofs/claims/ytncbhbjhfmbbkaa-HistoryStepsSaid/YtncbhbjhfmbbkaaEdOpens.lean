/- What a law is told of its edits: openers of my own. -/
import Derived.Test.YtncbhbjhfmbbkaaOpens
import Derived.Test.YtncbhbjhfmbbkaaEdA
import Derived.Deep.Slices
namespace Go.Proofs.Ytncbhbjhfmbbkaa
open Go.ChangeShapes Go.WideShapes Go.ChangeAt Go.RowKit
section
variable {H : Type} {enc : TypeId × Value → H} {w : World} {base : Nat} {sp : Nat → Bool} {held : Bool}
theorem c_intE : Try.prog.cellsOf 3 = 1 := by kernel_rfl
theorem c_stringE : Try.prog.cellsOf 9 = 1 := by kernel_rfl
theorem c_edit : Try.prog.cellsOf 81 = 3 := by kernel_rfl
set_option maxRecDepth 100000 in
theorem trod_edit {fuel : Nat} {cs : List Value} {x : DataW H × List MemPlace} (h : DataW.trod enc Try.prog w base sp held fuel 81 cs = some x) : ∃ s : E3, cs = (ecs s).toList := by
  obtain ⟨ys, n, _, _, hlen, hyl, hf⟩ := DataW.trod_struct Try.underlying81 h
  rw [c_edit] at hlen
  match cs, hlen with
  | [c0, c1, c2], _ =>
    match ys, hyl with
    | [y0, y1, y2], _ =>
      have h0 : DataW.trod enc Try.prog w base sp held n 3 [c0] = some y0 := by simpa [c_intE] using hf 0 _ rfl
      have h1 : DataW.trod enc Try.prog w base sp held n 3 [c1] = some y1 := by simpa [c_intE] using hf 1 _ rfl
      have h2 : DataW.trod enc Try.prog w base sp held n 9 [c2] = some y2 := by simpa [c_stringE] using hf 2 _ rfl
      obtain ⟨z0, e0, _, _⟩ := DataW.trod_int Try.underlying3 h0
      obtain ⟨z1, e1, _, _⟩ := DataW.trod_int Try.underlying3 h1
      obtain ⟨z2, e2, _, _⟩ := DataW.trod_string Try.underlying9 h2
      simp only [List.cons.injEq, and_true] at e0 e1 e2
      exact ⟨⟨z0, z1, z2⟩, by rw [e0, e1, e2]; rfl⟩
set_option maxRecDepth 100000 in
theorem open_edit {r : Reach} {b0 : Nat} {v : Value} {d : DataW H} {ps : List MemPlace} (hv : Value.okWide Try.prog w r b0 81 v) (h : DataW.Trod enc Try.prog w base sp held 81 v d ps) : ∃ s : E3, v = .agg (ecs s) := by
  obtain ⟨cs, rfl, _⟩ := okWide_struct Try.underlying81 hv
  obtain ⟨fuel, hf⟩ := h
  obtain ⟨i, hi⟩ := trod_edit hf
  exact ⟨i, by rw [show cs = ecs i from by simpa [Value.cells] using hi]⟩
set_option maxRecDepth 100000 in
theorem opens_edits {r : Reach} {b0 : Nat} {v : Value} {d : DataW H} {ps : List MemPlace}
    (hv : Value.okWide Try.prog w r b0 64 v) (h : DataW.Trod enc Try.prog w base (fun _ => true) held 64 v d ps) :
    ∃ (A : Option Addr) (n c : Nat) (l : List E3), v = .slice A n c ∧ l.length = n ∧ n ≤ maxLen ∧ Caps A n c ∧ EdsAt w A l := by
  obtain ⟨A, n, c, rfl⟩ := okWide_slice Try.underlying64 hv
  obtain ⟨fuel, hf⟩ := h
  rcases Go.Deep.open_slice Try.underlying64 hf with ⟨hcs, _⟩ | ⟨a, len, cap, m, n', D, Pl, hcs, hb, hl, hm, hmm, hx, hi⟩
  · simp [Value.cells] at hcs
    obtain ⟨rfl, rfl, rfl⟩ := hcs
    exact ⟨none, 0, 0, [], rfl, rfl, Nat.zero_le _, ⟨Nat.le_refl _, fun _ => rfl⟩, fun h => absurd h (by simp)⟩
  · simp [Value.cells] at hcs
    obtain ⟨rfl, rfl, rfl⟩ := hcs
    have hmc : m = c := by simpa using hmm
    have each : ∀ k, k < m → ∃ s : E3, ∀ f u, (ecs s).toList[f]? = some u → w.cell? ((a.add (k * 3)).add f) = some u := by
      intro k hk
      obtain ⟨cs', h1, h2⟩ := hi k hk
      obtain ⟨s, rfl⟩ := trod_edit h2
      rw [c_edit] at h1
      obtain ⟨_, _, hat⟩ := World.cells?_some h1
      refine ⟨s, fun f u hu => ?_⟩
      have hf4 : f < 3 := (List.getElem?_eq_some_iff.1 hu).1
      rw [hat f hf4]
      exact hu
    obtain ⟨q, hq⟩ := Go.Deep.choose_lt each
    refine ⟨_, n, c, (List.range n).map q, rfl, by simp, by omega, ⟨hl, fun h => by cases h⟩, fun hp => ?_⟩
    have hn : 0 < n := by simpa using hp
    obtain ⟨b, off, spot⟩ := a
    have h00 := hq 0 (by omega) 0 _ rfl
    have hspot : spot = none := by simpa [Addr.add] using World.cell?_spot h00
    subst hspot
    rw [Go.Deep.add_add, add_plain] at h00
    refine ⟨b, off, rfl, cell_block_lt h00, fun k hk => ?_⟩
    have hkn : k < n := by simpa using hk
    have e : eth ((List.range n).map q) k = q k := by simp [eth, List.getD, hkn]
    have g := hq k (by omega)
    rw [e]
    have g0 := g 0 _ rfl
    have g1 := g 1 _ rfl
    have g2 := g 2 _ rfl
    rw [Go.Deep.add_add, add_plain] at g0 g1 g2
    simp only [← Nat.add_assoc, Nat.add_zero] at g0 g1 g2
    exact ⟨g0, g1, g2⟩
end
end Go.Proofs.Ytncbhbjhfmbbkaa
