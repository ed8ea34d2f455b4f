/- What the law on replacing is told of its steps: an opener of my own. -/
import Derived.Test.YtbbplppcabeojaaItOpens
namespace Go.Proofs.Ytbbplppcabeojaa
open Go.ChangeShapes Go.WideShapes Go.ChangeAt Go.RowKit
/-- A step: from, to, and the items' slice. -/
structure RS where
  x : Int
  y : Int
  A : Option Addr
  n : Nat
  c : Nat
  l : List I7
instance : Inhabited RS := ⟨⟨0, 0, none, 0, 0, []⟩⟩
def rth (l : List RS) (k : Nat) : RS := l.getD k ⟨0, 0, none, 0, 0, []⟩
def RSok (w : World) (s : RS) : Prop := s.l.length = s.n ∧ s.n ≤ maxLen ∧ Caps s.A s.n s.c ∧ ItsAt w s.A s.l
/-- Steps that lie in memory. -/
def RSAt (w : World) (A : Option Addr) (l : List RS) : Prop :=
  0 < l.length → ∃ b off, A = some ⟨b, off, none⟩ ∧ b < w.heap.size ∧ ∀ k, k < l.length →
    w.cell? ⟨b, off + k * 3, none⟩ = some (.int .i64 (rth l k).x) ∧ w.cell? ⟨b, off + k * 3 + 1, none⟩ = some (.int .i64 (rth l k).y) ∧ w.cell? ⟨b, off + k * 3 + 2, none⟩ = some (.slice (rth l k).A (rth l k).n (rth l k).c) ∧ RSok w (rth l k)
section
variable {H : Type} {enc : TypeId × Value → H} {w : World} {base : Nat} {held : Bool}
theorem c_items : Try.prog.cellsOf 22 = 1 := by kernel_rfl
theorem c_rstep : Try.prog.cellsOf 33 = 3 := by kernel_rfl
set_option maxRecDepth 100000 in
theorem trod_items {fuel : Nat} {cs : List Value} {x : DataW H × List MemPlace} (hf : DataW.trod enc Try.prog w base (fun _ => true) held fuel 22 cs = some x) :
    ∃ (A : Option Addr) (n c : Nat) (l : List I7), cs = [.slice A n c] ∧ l.length = n ∧ n ≤ maxLen ∧ Caps A n c ∧ ItsAt w A l := by
  rcases Go.Deep.open_slice Try.underlying22 hf with ⟨hcs, _⟩ | ⟨a, len, cap, m, n', D, Pl, hcs, hb, hl, hm, hmm, hx, hi⟩
  · exact ⟨none, 0, 0, [], hcs, rfl, Nat.zero_le _, ⟨Nat.le_refl _, fun _ => rfl⟩, fun h => absurd h (by simp)⟩
  · have hmc : m = cap := by simpa using hmm
    have each : ∀ k, k < m → ∃ i : I7, ∀ f u, (ics i).toList[f]? = some u → w.cell? ((a.add (k * 7)).add f) = some u := by
      intro k hk
      obtain ⟨cs', h1, h2⟩ := hi k hk
      obtain ⟨i, rfl⟩ := trod_item h2
      rw [c_item] at h1
      obtain ⟨_, _, hat⟩ := World.cells?_some h1
      refine ⟨i, fun f u hu => ?_⟩
      have hf7 : f < 7 := (List.getElem?_eq_some_iff.1 hu).1
      rw [hat f hf7]
      exact hu
    obtain ⟨q, hq⟩ := Go.Deep.choose_lt each
    refine ⟨some a, len, cap, (List.range len).map q, hcs, by simp, by omega, ⟨hl, fun h => by cases h⟩, fun hp => ?_⟩
    have hn : 0 < len := by simpa using hp
    obtain ⟨b, off, spot⟩ := a
    have h00 := hq 0 (by omega) 0 _ rfl
    have hspot : spot = none := by simpa [Addr.add] using World.cell?_spot h00
    subst hspot
    rw [Go.Deep.add_add, add_plain] at h00
    refine ⟨b, off, rfl, cell_block_lt h00, fun k hk => ?_⟩
    have hkn : k < len := by simpa using hk
    have e : ith ((List.range len).map q) k = q k := by simp [ith, List.getD, hkn]
    have g := fun f u hu => hq k (by omega) f u hu
    rw [e]
    have g0 := g 0 _ rfl
    have g1 := g 1 _ rfl
    have g2 := g 2 _ rfl
    have g3 := g 3 _ rfl
    have g4 := g 4 _ rfl
    have g5 := g 5 _ rfl
    have g6 := g 6 _ rfl
    rw [Go.Deep.add_add, add_plain] at g0 g1 g2 g3 g4 g5 g6
    simp only [← Nat.add_assoc, Nat.add_zero] at g0 g1 g2 g3 g4 g5 g6
    exact ⟨g0, g1, g2, g3, g4, g5, g6⟩
set_option maxRecDepth 100000 in
theorem trod_rstep {fuel : Nat} {cs : List Value} {x : DataW H × List MemPlace} (h : DataW.trod enc Try.prog w base (fun _ => true) held fuel 33 cs = some x) :
    ∃ s : RS, cs = [.int .i64 s.x, .int .i64 s.y, .slice s.A s.n s.c] ∧ RSok w s := by
  obtain ⟨ys, n, _, _, hlen, hyl, hf⟩ := DataW.trod_struct Try.underlying33 h
  rw [c_rstep] at hlen
  match cs, hlen with
  | [c0, c1, c2], _ =>
    match ys, hyl with
    | [y0, y1, y2], _ =>
      have h0 : DataW.trod enc Try.prog w base (fun _ => true) held n 3 [c0] = some y0 := by simpa [c_int] using hf 0 _ rfl
      have h1 : DataW.trod enc Try.prog w base (fun _ => true) held n 3 [c1] = some y1 := by simpa [c_int] using hf 1 _ rfl
      have h2 : DataW.trod enc Try.prog w base (fun _ => true) held n 22 [c2] = some y2 := by simpa [c_items] using hf 2 _ rfl
      obtain ⟨z0, e0, _, _⟩ := DataW.trod_int Try.underlying3 h0
      obtain ⟨z1, e1, _, _⟩ := DataW.trod_int Try.underlying3 h1
      obtain ⟨A, k, c, l, e2, g1, g2, g3, g4⟩ := trod_items h2
      simp only [List.cons.injEq, and_true] at e0 e1 e2
      exact ⟨⟨z0, z1, A, k, c, l⟩, by rw [e0, e1, e2], g1, g2, g3, g4⟩
set_option maxRecDepth 100000 in
theorem opens_rsteps {r : Reach} {b0 : Nat} {v : Value} {d : DataW H} {ps : List MemPlace}
    (hv : Value.okWide Try.prog w r b0 23 v) (h : DataW.Trod enc Try.prog w base (fun _ => true) held 23 v d ps) :
    ∃ (A : Option Addr) (n c : Nat) (l : List RS), v = .slice A n c ∧ l.length = n ∧ n ≤ maxLen ∧ Caps A n c ∧ RSAt w A l := by
  obtain ⟨A, n, c, rfl⟩ := okWide_slice Try.underlying23 hv
  obtain ⟨fuel, hf⟩ := h
  rcases Go.Deep.open_slice Try.underlying23 hf with ⟨hcs, _⟩ | ⟨a, len, cap, m, n', D, Pl, hcs, hb, hl, hm, hmm, hx, hi⟩
  · simp [Value.cells] at hcs
    obtain ⟨rfl, rfl, rfl⟩ := hcs
    exact ⟨none, 0, 0, [], rfl, rfl, Nat.zero_le _, ⟨Nat.le_refl _, fun _ => rfl⟩, fun h => absurd h (by simp)⟩
  · simp [Value.cells] at hcs
    obtain ⟨rfl, rfl, rfl⟩ := hcs
    have hmc : m = c := by simpa using hmm
    have each : ∀ k, k < m → ∃ s : RS, RSok w s ∧ ∀ f u, [Value.int .i64 s.x, .int .i64 s.y, .slice s.A s.n s.c][f]? = some u → w.cell? ((a.add (k * 3)).add f) = some u := by
      intro k hk
      obtain ⟨cs', h1, h2⟩ := hi k hk
      obtain ⟨s, rfl, hs⟩ := trod_rstep h2
      rw [c_rstep] at h1
      obtain ⟨_, _, hat⟩ := World.cells?_some h1
      refine ⟨s, hs, fun f u hu => ?_⟩
      have hf3 : f < 3 := (List.getElem?_eq_some_iff.1 hu).1
      rw [hat f hf3]
      exact hu
    obtain ⟨q, hq⟩ := Go.Deep.choose_lt each
    refine ⟨_, n, c, (List.range n).map q, rfl, by simp, by omega, ⟨hl, fun h => by cases h⟩, fun hp => ?_⟩
    have hn : 0 < n := by simpa using hp
    obtain ⟨b, off, spot⟩ := a
    have h00 := (hq 0 (by omega)).2 0 _ rfl
    have hspot : spot = none := by simpa [Addr.add] using World.cell?_spot h00
    subst hspot
    rw [Go.Deep.add_add, add_plain] at h00
    refine ⟨b, off, rfl, cell_block_lt h00, fun k hk => ?_⟩
    have hkn : k < n := by simpa using hk
    have e : rth ((List.range n).map q) k = q k := by simp [rth, List.getD, hkn]
    obtain ⟨gs, g⟩ := hq k (by omega)
    rw [e]
    have g0 := g 0 _ rfl
    have g1 := g 1 _ rfl
    have g2 := g 2 _ rfl
    rw [Go.Deep.add_add, add_plain] at g0 g1 g2
    simp only [← Nat.add_assoc, Nat.add_zero] at g0 g1 g2
    exact ⟨g0, g1, g2, gs⟩
end
end Go.Proofs.Ytbbplppcabeojaa
