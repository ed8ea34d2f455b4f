/- What a law is told of its changes: openers of my own. -/
import Derived.Test.YtjkkngldiimkjaaGreatOpens
import Derived.Test.YtjkkngldiimkjaaGreatChg
import Derived.Deep.Slices
namespace Go.Proofs.YtjkkngldiimkjaaGreat
open Go.ChangeShapes Go.WideShapes Go.ChangeAt Go.RowKit
section
variable {H : Type} {enc : TypeId × Value → H} {w : World} {base : Nat} {sp : Nat → Bool} {held : Bool}
theorem c_intC : Tryz.prog.cellsOf 3 = 1 := by kernel_rfl
theorem c_spanC : Tryz.prog.cellsOf 36 = 2 := by kernel_rfl
theorem c_change : Tryz.prog.cellsOf 64 = 4 := by kernel_rfl
set_option maxRecDepth 100000 in
theorem trod_span {fuel : Nat} {c0 c1 : Value} {x : DataW H × List MemPlace} (h : DataW.trod enc Tryz.prog w base sp held fuel 36 [c0, c1] = some x) : ∃ a b : Int, c0 = .int .i64 a ∧ c1 = .int .i64 b := by
  obtain ⟨ys, n, _, _, hlen, hyl, hf⟩ := DataW.trod_struct Tryz.underlying36 h
  match ys, hyl with
  | [y0, y1], _ =>
    have h0 : DataW.trod enc Tryz.prog w base sp held n 3 [c0] = some y0 := by simpa [c_intC] using hf 0 _ rfl
    have h1 : DataW.trod enc Tryz.prog w base sp held n 3 [c1] = some y1 := by simpa [c_intC] using hf 1 _ rfl
    obtain ⟨z0, e0, _, _⟩ := DataW.trod_int Tryz.underlying3 h0
    obtain ⟨z1, e1, _, _⟩ := DataW.trod_int Tryz.underlying3 h1
    simp only [List.cons.injEq, and_true] at e0 e1
    exact ⟨z0, z1, e0, e1⟩
set_option maxRecDepth 100000 in
theorem trod_change {fuel : Nat} {cs : List Value} {x : DataW H × List MemPlace} (h : DataW.trod enc Tryz.prog w base sp held fuel 64 cs = some x) : ∃ s : Ch, cs = (chcs s).toList := by
  obtain ⟨ys, n, _, _, hlen, hyl, hf⟩ := DataW.trod_struct Tryz.underlying64 h
  rw [c_change] at hlen
  match cs, hlen with
  | [c0, c1, c2, c3], _ =>
    match ys, hyl with
    | [y0, y1], _ =>
      have h0 : DataW.trod enc Tryz.prog w base sp held n 36 [c0, c1] = some y0 := by simpa [c_spanC] using hf 0 _ rfl
      have h1 : DataW.trod enc Tryz.prog w base sp held n 36 [c2, c3] = some y1 := by simpa [c_spanC] using hf 1 _ rfl
      obtain ⟨a, b, e0, e1⟩ := trod_span h0
      obtain ⟨c, d, e2, e3⟩ := trod_span h1
      exact ⟨⟨a, b, c, d⟩, by rw [e0, e1, e2, e3]; rfl⟩
set_option maxRecDepth 100000 in
theorem open_change {r : Reach} {b0 : Nat} {v : Value} {d : DataW H} {ps : List MemPlace} (hv : Value.okWide Tryz.prog w r b0 64 v) (h : DataW.Trod enc Tryz.prog w base sp held 64 v d ps) : ∃ s : Ch, v = .agg (chcs s) := by
  obtain ⟨cs, rfl, _⟩ := okWide_struct Tryz.underlying64 hv
  obtain ⟨fuel, hf⟩ := h
  obtain ⟨i, hi⟩ := trod_change hf
  exact ⟨i, by rw [show cs = chcs i from by simpa [Value.cells] using hi]⟩
set_option maxRecDepth 100000 in
theorem opens_changes {r : Reach} {b0 : Nat} {v : Value} {d : DataW H} {ps : List MemPlace}
    (hv : Value.okWide Tryz.prog w r b0 66 v) (h : DataW.Trod enc Tryz.prog w base (fun _ => true) held 66 v d ps) :
    ∃ (A : Option Addr) (n c : Nat) (l : List Ch), v = .slice A n c ∧ l.length = n ∧ n ≤ maxLen ∧ Caps A n c ∧ ChsAt w A l := by
  obtain ⟨A, n, c, rfl⟩ := okWide_slice Tryz.underlying66 hv
  obtain ⟨fuel, hf⟩ := h
  rcases Go.Deep.open_slice Tryz.underlying66 hf with ⟨hcs, _⟩ | ⟨a, len, cap, m, n', D, Pl, hcs, hb, hl, hm, hmm, hx, hi⟩
  · simp [Value.cells] at hcs
    obtain ⟨rfl, rfl, rfl⟩ := hcs
    exact ⟨none, 0, 0, [], rfl, rfl, Nat.zero_le _, ⟨Nat.le_refl _, fun _ => rfl⟩, fun h => absurd h (by simp)⟩
  · simp [Value.cells] at hcs
    obtain ⟨rfl, rfl, rfl⟩ := hcs
    have hmc : m = c := by simpa using hmm
    have each : ∀ k, k < m → ∃ s : Ch, ∀ f u, (chcs s).toList[f]? = some u → w.cell? ((a.add (k * 4)).add f) = some u := by
      intro k hk
      obtain ⟨cs', h1, h2⟩ := hi k hk
      obtain ⟨s, rfl⟩ := trod_change h2
      rw [c_change] at h1
      obtain ⟨_, _, hat⟩ := World.cells?_some h1
      refine ⟨s, fun f u hu => ?_⟩
      have hf4 : f < 4 := (List.getElem?_eq_some_iff.1 hu).1
      rw [hat f hf4]
      exact hu
    obtain ⟨q, hq⟩ := Go.Deep.choose_lt each
    refine ⟨_, n, c, (List.range n).map q, rfl, by simp, by omega, ⟨hl, fun h => by cases h⟩, fun hp => ?_⟩
    have hn : 0 < n := by simpa using hp
    obtain ⟨b, off, spot⟩ := a
    have h00 := hq 0 (by omega) 0 _ rfl
    have hspot : spot = none := by simpa [Addr.add] using World.cell?_spot h00
    subst hspot
    rw [Go.Deep.add_add, add_plain] at h00
    refine ⟨b, off, rfl, cell_block_lt h00, fun k hk => ?_⟩
    have hkn : k < n := by simpa using hk
    have e : cth ((List.range n).map q) k = q k := by simp [cth, List.getD, hkn]
    have g := hq k (by omega)
    rw [e]
    have g0 := g 0 _ rfl
    have g1 := g 1 _ rfl
    have g2 := g 2 _ rfl
    have g3 := g 3 _ rfl
    rw [Go.Deep.add_add, add_plain] at g0 g1 g2 g3
    simp only [← Nat.add_assoc, Nat.add_zero] at g0 g1 g2 g3
    exact ⟨g0, g1, g2, g3⟩
end
end Go.Proofs.YtjkkngldiimkjaaGreat
