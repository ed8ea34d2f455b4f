/- What a law is told of its slices, whatever their elements: one opener for all. -/
import Derived.Test.YtnfjleobcfhpnaaOpens
import Derived.Test.YtnfjleobcfhpnaaKRow
import Derived.Deep.Slices
namespace Go.Proofs.Ytnfjleobcfhpnaa
open Go.ChangeShapes Go.WideShapes Go.ChangeAt Go.RowKit
section
variable {H : Type} {encH : TypeId × Value → H} {w : World} {base : Nat} {held : Bool} {P : Program}
set_option maxRecDepth 100000 in
theorem ktrod {t e : TypeId} (ht : P.underlying t = some (.slice e)) {α : Type} {enc : α → List Value} {k : Nat} (hk : ∀ x, (enc x).length = k) (hp : 0 < k) (hc : P.cellsOf e = k) {Ok : α → Prop}
    (hd : ∀ {fuel : Nat} {cs : List Value} {x : DataW H × List MemPlace}, DataW.trod encH P w base (fun _ => true) held fuel e cs = some x → ∃ a : α, cs = enc a ∧ Ok a)
    {fuel : Nat} {cs : List Value} {x : DataW H × List MemPlace} (hf : DataW.trod encH P w base (fun _ => true) held fuel t cs = some x) :
    ∃ (A : Option Addr) (n c : Nat) (l : List α), cs = [.slice A n c] ∧ l.length = n ∧ n ≤ maxLen ∧ Caps A n c ∧ RowsAt enc k w A l ∧ ∀ a ∈ l, Ok a := by
  rcases Go.Deep.open_slice ht hf with ⟨hcs, _⟩ | ⟨a, len, cap, m, n', D, Pl, hcs, hb, hl, hm, hmm, hx, hi⟩
  · exact ⟨none, 0, 0, [], hcs, rfl, Nat.zero_le _, ⟨Nat.le_refl _, fun _ => rfl⟩, fun h => absurd h (by simp), fun a h => absurd h (by simp)⟩
  · have hmc : m = cap := by simpa using hmm
    have each : ∀ j, j < m → ∃ s : α, Ok s ∧ ∀ f u, (enc s)[f]? = some u → w.cell? ((a.add (j * k)).add f) = some u := by
      intro j hj
      obtain ⟨cs', h1, h2⟩ := hi j hj
      obtain ⟨s, rfl, hs⟩ := hd h2
      rw [hc] at h1
      obtain ⟨_, _, hat⟩ := World.cells?_some h1
      refine ⟨s, hs, fun f u hu => ?_⟩
      have hfk : f < k := by have := (List.getElem?_eq_some_iff.1 hu).1; rwa [hk] at this
      rw [hat f hfk]
      exact hu
    rcases Nat.eq_zero_or_pos m with hm0 | hmp
    · have hl0 : len = 0 := by omega
      subst hl0
      exact ⟨some a, 0, cap, [], hcs, rfl, Nat.zero_le _, ⟨Nat.zero_le _, fun h => by cases h⟩, fun h => absurd h (by simp), fun a h => absurd h (by simp)⟩
    · obtain ⟨s0, hs0, _⟩ := each 0 hmp
      have each' : ∀ j, ∃ s : α, j < m → Ok s ∧ ∀ f u, (enc s)[f]? = some u → w.cell? ((a.add (j * k)).add f) = some u := fun j => by
        by_cases h : j < m
        · obtain ⟨s, hs⟩ := each j h
          exact ⟨s, fun _ => hs⟩
        · exact ⟨s0, fun h' => absurd h' h⟩
      obtain ⟨q, hq⟩ := Classical.axiomOfChoice each'
      refine ⟨some a, len, cap, (List.range len).map q, hcs, by simp, by omega, ⟨hl, fun h => by cases h⟩, fun hpp => ?_, fun x hx => ?_⟩
      · have hn : 0 < len := by simpa using hpp
        obtain ⟨b, off, spot⟩ := a
        have hlen0 : 0 < (enc (q 0)).length := by rw [hk]; exact hp
        have h00 := (hq 0 (by omega)).2 0 _ (List.getElem?_eq_getElem hlen0)
        have hspot : spot = none := by simpa [Addr.add] using World.cell?_spot h00
        subst hspot
        rw [Go.Deep.add_add, add_plain] at h00
        refine ⟨b, off, rfl, cell_block_lt h00, fun j hj c hcc => ?_⟩
        have hjn : j < len := by simpa using hj
        have hlc : c < (enc (q j)).length := by rw [hk]; exact hcc
        have g := (hq j (by omega)).2 c _ (List.getElem?_eq_getElem hlc)
        rw [Go.Deep.add_add, add_plain, ← Nat.add_assoc] at g
        rw [g]
        simp [List.getElem?_eq_getElem hlc]
      · obtain ⟨j, hj, rfl⟩ := List.mem_map.1 hx
        exact (hq j (by have := List.mem_range.1 hj; omega)).1
set_option maxRecDepth 100000 in
theorem kopen {t e : TypeId} (ht : P.underlying t = some (.slice e)) {α : Type} {enc : α → List Value} {k : Nat} (hk : ∀ x, (enc x).length = k) (hp : 0 < k) (hc : P.cellsOf e = k) {Ok : α → Prop}
    (hd : ∀ {fuel : Nat} {cs : List Value} {x : DataW H × List MemPlace}, DataW.trod encH P w base (fun _ => true) held fuel e cs = some x → ∃ a : α, cs = enc a ∧ Ok a)
    {r : Reach} {b0 : Nat} {v : Value} {d : DataW H} {ps : List MemPlace} (hv : Value.okWide P w r b0 t v) (h : DataW.Trod encH P w base (fun _ => true) held t v d ps) :
    ∃ (A : Option Addr) (n c : Nat) (l : List α), v = .slice A n c ∧ l.length = n ∧ n ≤ maxLen ∧ Caps A n c ∧ RowsAt enc k w A l ∧ ∀ a ∈ l, Ok a := by
  obtain ⟨A, n, c, rfl⟩ := okWide_slice ht hv
  obtain ⟨fuel, hf⟩ := h
  obtain ⟨A', n', c', l, e, h⟩ := ktrod ht hk hp hc (fun {_ _ _} h => hd h) hf
  simp [Value.cells] at e
  obtain ⟨rfl, rfl, rfl⟩ := e
  exact ⟨_, _, _, l, rfl, h⟩
end
end Go.Proofs.Ytnfjleobcfhpnaa
