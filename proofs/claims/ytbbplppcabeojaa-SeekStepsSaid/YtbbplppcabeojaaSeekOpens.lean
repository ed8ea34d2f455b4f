/- What the laws on cursors are told of their steps: openers of my own. -/
import Derived.Test.YtbbplppcabeojaaItOpens
namespace Go.Proofs.Ytbbplppcabeojaa
open Go.ChangeShapes Go.WideShapes Go.ChangeAt Go.RowKit
/-- A step: what, by which size, up to what, with which bias. -/
structure SS where
  k : Int
  d : Int
  v : Int
  b : Int
instance : Inhabited SS := ⟨⟨0, 0, 0, 0⟩⟩
def stcs (s : SS) : Array Value := #[.int .i64 s.k, .int .i64 s.d, .int .i64 s.v, .int .i64 s.b]
def stth (l : List SS) (k : Nat) : SS := l.getD k ⟨0, 0, 0, 0⟩
/-- Steps that lie in memory. -/
def SSAt (w : World) (A : Option Addr) (l : List SS) : Prop :=
  0 < l.length → ∃ b off, A = some ⟨b, off, none⟩ ∧ b < w.heap.size ∧ ∀ k, k < l.length →
    w.cell? ⟨b, off + k * 4, none⟩ = some (.int .i64 (stth l k).k) ∧ w.cell? ⟨b, off + k * 4 + 1, none⟩ = some (.int .i64 (stth l k).d) ∧ w.cell? ⟨b, off + k * 4 + 2, none⟩ = some (.int .i64 (stth l k).v) ∧ w.cell? ⟨b, off + k * 4 + 3, none⟩ = some (.int .i64 (stth l k).b)
section
variable {H : Type} {enc : TypeId × Value → H} {w : World} {base : Nat} {sp : Nat → Bool} {held : Bool}
theorem c_sstep : Try.prog.cellsOf 46 = 4 := by kernel_rfl
set_option maxRecDepth 100000 in
theorem trod_sstep {fuel : Nat} {cs : List Value} {x : DataW H × List MemPlace} (h : DataW.trod enc Try.prog w base sp held fuel 46 cs = some x) : ∃ s : SS, cs = (stcs s).toList := by
  obtain ⟨ys, n, _, _, hlen, hyl, hf⟩ := DataW.trod_struct Try.underlying46 h
  rw [c_sstep] at hlen
  match cs, hlen with
  | [c0, c1, c2, c3], _ =>
    match ys, hyl with
    | [y0, y1, y2, y3], _ =>
      have h0 : DataW.trod enc Try.prog w base sp held n 3 [c0] = some y0 := by simpa [c_int] using hf 0 _ rfl
      have h1 : DataW.trod enc Try.prog w base sp held n 3 [c1] = some y1 := by simpa [c_int] using hf 1 _ rfl
      have h2 : DataW.trod enc Try.prog w base sp held n 3 [c2] = some y2 := by simpa [c_int] using hf 2 _ rfl
      have h3 : DataW.trod enc Try.prog w base sp held n 3 [c3] = some y3 := by simpa [c_int] using hf 3 _ rfl
      obtain ⟨z0, e0, _, _⟩ := DataW.trod_int Try.underlying3 h0
      obtain ⟨z1, e1, _, _⟩ := DataW.trod_int Try.underlying3 h1
      obtain ⟨z2, e2, _, _⟩ := DataW.trod_int Try.underlying3 h2
      obtain ⟨z3, e3, _, _⟩ := DataW.trod_int Try.underlying3 h3
      simp only [List.cons.injEq, and_true] at e0 e1 e2 e3
      exact ⟨⟨z0, z1, z2, z3⟩, by rw [e0, e1, e2, e3]; rfl⟩
set_option maxRecDepth 100000 in
theorem open_sstep {r : Reach} {b0 : Nat} {v : Value} {d : DataW H} {ps : List MemPlace} (hv : Value.okWide Try.prog w r b0 46 v) (h : DataW.Trod enc Try.prog w base sp held 46 v d ps) : ∃ s : SS, v = .agg (stcs s) := by
  obtain ⟨cs, rfl, _⟩ := okWide_struct Try.underlying46 hv
  obtain ⟨fuel, hf⟩ := h
  obtain ⟨i, hi⟩ := trod_sstep hf
  exact ⟨i, by rw [show cs = stcs i from by simpa [Value.cells] using hi]⟩
set_option maxRecDepth 100000 in
theorem opens_ssteps {r : Reach} {b0 : Nat} {v : Value} {d : DataW H} {ps : List MemPlace}
    (hv : Value.okWide Try.prog w r b0 39 v) (h : DataW.Trod enc Try.prog w base (fun _ => true) held 39 v d ps) :
    ∃ (A : Option Addr) (n c : Nat) (l : List SS), v = .slice A n c ∧ l.length = n ∧ n ≤ maxLen ∧ Caps A n c ∧ SSAt w A l := by
  obtain ⟨A, n, c, rfl⟩ := okWide_slice Try.underlying39 hv
  obtain ⟨fuel, hf⟩ := h
  rcases Go.Deep.open_slice Try.underlying39 hf with ⟨hcs, _⟩ | ⟨a, len, cap, m, n', D, Pl, hcs, hb, hl, hm, hmm, hx, hi⟩
  · simp [Value.cells] at hcs
    obtain ⟨rfl, rfl, rfl⟩ := hcs
    exact ⟨none, 0, 0, [], rfl, rfl, Nat.zero_le _, ⟨Nat.le_refl _, fun _ => rfl⟩, fun h => absurd h (by simp)⟩
  · simp [Value.cells] at hcs
    obtain ⟨rfl, rfl, rfl⟩ := hcs
    have hmc : m = c := by simpa using hmm
    have each : ∀ k, k < m → ∃ s : SS, ∀ f u, (stcs s).toList[f]? = some u → w.cell? ((a.add (k * 4)).add f) = some u := by
      intro k hk
      obtain ⟨cs', h1, h2⟩ := hi k hk
      obtain ⟨s, rfl⟩ := trod_sstep h2
      rw [c_sstep] at h1
      obtain ⟨_, _, hat⟩ := World.cells?_some h1
      refine ⟨s, fun f u hu => ?_⟩
      have hf4 : f < 4 := (List.getElem?_eq_some_iff.1 hu).1
      rw [hat f hf4]
      exact hu
    obtain ⟨q, hq⟩ := Go.Deep.choose_lt each
    refine ⟨_, n, c, (List.range n).map q, rfl, by simp, by omega, ⟨hl, fun h => by cases h⟩, fun hp => ?_⟩
    have hn : 0 < n := by simpa using hp
    obtain ⟨b, off, spot⟩ := a
    have h00 := hq 0 (by omega) 0 _ rfl
    have hspot : spot = none := by simpa [Addr.add] using World.cell?_spot h00
    subst hspot
    rw [Go.Deep.add_add, add_plain] at h00
    refine ⟨b, off, rfl, cell_block_lt h00, fun k hk => ?_⟩
    have hkn : k < n := by simpa using hk
    have e : stth ((List.range n).map q) k = q k := by simp [stth, List.getD, hkn]
    have g := hq k (by omega)
    rw [e]
    have g0 := g 0 _ rfl
    have g1 := g 1 _ rfl
    have g2 := g 2 _ rfl
    have g3 := g 3 _ rfl
    rw [Go.Deep.add_add, add_plain] at g0 g1 g2 g3
    simp only [← Nat.add_assoc, Nat.add_zero] at g0 g1 g2 g3
    exact ⟨g0, g1, g2, g3⟩
end
end Go.Proofs.Ytbbplppcabeojaa
