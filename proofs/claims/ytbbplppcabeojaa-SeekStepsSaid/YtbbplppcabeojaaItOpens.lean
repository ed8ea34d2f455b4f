/- What a law's arguments are told as to its walk, where they are items: openers of my own. -/
import Derived.Test.YtbbplppcabeojaaOpens
import Derived.Test.YtbbplppcabeojaaItOwn
import Derived.Deep.Slices
namespace Go.Proofs.Ytbbplppcabeojaa
open Go.ChangeShapes Go.WideShapes Go.ChangeAt Go.RowKit
section
variable {H : Type} {enc : TypeId × Value → H} {w : World} {base : Nat} {sp : Nat → Bool} {held : Bool}
theorem c_int : Try.prog.cellsOf 3 = 1 := by kernel_rfl
theorem c_string : Try.prog.cellsOf 9 = 1 := by kernel_rfl
theorem c_three : Try.prog.cellsOf 50 = 3 := by kernel_rfl
theorem c_item : Try.prog.cellsOf 54 = 7 := by kernel_rfl
set_option maxRecDepth 100000 in
theorem trod_item {fuel : Nat} {cs : List Value} {x : DataW H × List MemPlace} (h : DataW.trod enc Try.prog w base sp held fuel 54 cs = some x) : ∃ i : I7, cs = (ics i).toList := by
  obtain ⟨ys, n, _, _, hlen, hyl, hf⟩ := DataW.trod_struct Try.underlying54 h
  rw [c_item] at hlen
  match cs, hlen with
  | [c0, c1, c2, c3, c4, c5, c6], _ =>
    match ys, hyl with
    | [y0, y1, y2, y3, y4], _ =>
      have h0 : DataW.trod enc Try.prog w base sp held n 3 [c0] = some y0 := by simpa [c_int] using hf 0 _ rfl
      have h1 : DataW.trod enc Try.prog w base sp held n 3 [c1] = some y1 := by simpa [c_int] using hf 1 _ rfl
      have h2 : DataW.trod enc Try.prog w base sp held n 50 [c2, c3, c4] = some y2 := by simpa [c_three] using hf 2 _ rfl
      have h3 : DataW.trod enc Try.prog w base sp held n 3 [c5] = some y3 := by simpa [c_int] using hf 3 _ rfl
      have h4 : DataW.trod enc Try.prog w base sp held n 9 [c6] = some y4 := by simpa [c_string] using hf 4 _ rfl
      obtain ⟨z0, e0, _, _⟩ := DataW.trod_int Try.underlying3 h0
      obtain ⟨z1, e1, _, _⟩ := DataW.trod_int Try.underlying3 h1
      obtain ⟨z5, e5, _, _⟩ := DataW.trod_int Try.underlying3 h3
      obtain ⟨s6, e6, _, _⟩ := DataW.trod_string Try.underlying9 h4
      obtain ⟨xs, m, _, _, _, hxl, hg⟩ := DataW.trod_array Try.underlying50 h2
      match xs, hxl with
      | [x0, x1, x2], _ =>
        have g0 : DataW.trod enc Try.prog w base sp held m 3 [c2] = some x0 := by simpa [c_int] using hg 0 (by omega)
        have g1 : DataW.trod enc Try.prog w base sp held m 3 [c3] = some x1 := by simpa [c_int] using hg 1 (by omega)
        have g2 : DataW.trod enc Try.prog w base sp held m 3 [c4] = some x2 := by simpa [c_int] using hg 2 (by omega)
        obtain ⟨z2, e2, _, _⟩ := DataW.trod_int Try.underlying3 g0
        obtain ⟨z3, e3, _, _⟩ := DataW.trod_int Try.underlying3 g1
        obtain ⟨z4, e4, _, _⟩ := DataW.trod_int Try.underlying3 g2
        simp only [List.cons.injEq, and_true] at e0 e1 e2 e3 e4 e5 e6
        exact ⟨⟨z0, z1, z2, z3, z4, z5, s6⟩, by rw [e0, e1, e2, e3, e4, e5, e6]; rfl⟩
set_option maxRecDepth 100000 in
theorem open_item {r : Reach} {b0 : Nat} {v : Value} {d : DataW H} {ps : List MemPlace} (hv : Value.okWide Try.prog w r b0 54 v) (h : DataW.Trod enc Try.prog w base sp held 54 v d ps) : ∃ i : I7, v = .agg (ics i) := by
  obtain ⟨cs, rfl, _⟩ := okWide_struct Try.underlying54 hv
  obtain ⟨fuel, hf⟩ := h
  obtain ⟨i, hi⟩ := trod_item hf
  exact ⟨i, by rw [show cs = ics i from by simpa [Value.cells] using hi]⟩
set_option maxRecDepth 100000 in
theorem opens_items {r : Reach} {b0 : Nat} {v : Value} {d : DataW H} {ps : List MemPlace}
    (hv : Value.okWide Try.prog w r b0 22 v) (h : DataW.Trod enc Try.prog w base (fun _ => true) held 22 v d ps) :
    ∃ (A : Option Addr) (n c : Nat) (l : List I7), v = .slice A n c ∧ l.length = n ∧ n ≤ maxLen ∧ Caps A n c ∧ ItsAt w A l := by
  obtain ⟨A, n, c, rfl⟩ := okWide_slice Try.underlying22 hv
  obtain ⟨fuel, hf⟩ := h
  rcases Go.Deep.open_slice Try.underlying22 hf with ⟨hcs, _⟩ | ⟨a, len, cap, m, n', D, Pl, hcs, hb, hl, hm, hmm, hx, hi⟩
  · simp [Value.cells] at hcs
    obtain ⟨rfl, rfl, rfl⟩ := hcs
    exact ⟨none, 0, 0, [], rfl, rfl, Nat.zero_le _, ⟨Nat.le_refl _, fun _ => rfl⟩, fun h => absurd h (by simp)⟩
  · simp [Value.cells] at hcs
    obtain ⟨rfl, rfl, rfl⟩ := hcs
    have hmc : m = c := by simpa using hmm
    have each : ∀ k, k < m → ∃ i : I7, ∀ f u, (ics i).toList[f]? = some u → w.cell? ((a.add (k * 7)).add f) = some u := by
      intro k hk
      obtain ⟨cs', h1, h2⟩ := hi k hk
      obtain ⟨i, rfl⟩ := trod_item h2
      rw [c_item] at h1
      obtain ⟨_, _, hat⟩ := World.cells?_some h1
      refine ⟨i, fun f u hu => ?_⟩
      have hf7 : f < 7 := (List.getElem?_eq_some_iff.1 hu).1
      rw [hat f hf7]
      exact hu
    obtain ⟨q, hq⟩ := Go.Deep.choose_lt each
    refine ⟨_, n, c, (List.range n).map q, rfl, by simp, by omega, ⟨hl, fun h => by cases h⟩, fun hp => ?_⟩
    have hn : 0 < n := by simpa using hp
    obtain ⟨b, off, spot⟩ := a
    have h00 := hq 0 (by omega) 0 _ rfl
    have hspot : spot = none := by simpa [Addr.add] using World.cell?_spot h00
    subst hspot
    rw [Go.Deep.add_add, add_plain] at h00
    refine ⟨b, off, rfl, cell_block_lt h00, fun k hk => ?_⟩
    have hkn : k < n := by simpa using hk
    have e : ith ((List.range n).map q) k = q k := by simp [ith, List.getD, hkn]
    have g := fun f u hu => hq k (by omega) f u hu
    rw [e]
    have g0 := g 0 _ rfl
    have g1 := g 1 _ rfl
    have g2 := g 2 _ rfl
    have g3 := g 3 _ rfl
    have g4 := g 4 _ rfl
    have g5 := g 5 _ rfl
    have g6 := g 6 _ rfl
    rw [Go.Deep.add_add, add_plain] at g0 g1 g2 g3 g4 g5 g6
    simp only [← Nat.add_assoc, Nat.add_zero] at g0 g1 g2 g3 g4 g5 g6
    exact ⟨g0, g1, g2, g3, g4, g5, g6⟩
end
end Go.Proofs.Ytbbplppcabeojaa
