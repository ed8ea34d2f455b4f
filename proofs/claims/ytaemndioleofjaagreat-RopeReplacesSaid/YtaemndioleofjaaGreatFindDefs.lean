/- What is found in a tree, in plain words. -/
import Derived.Test.YtaemndioleofjaaGreatItBase
import Derived.Test.YtaemndioleofjaaGreatItAdd
import Derived.Deep.RegionHeld3
namespace Go.Proofs.YtaemndioleofjaaGreat
open Go.RowKit
/-- A size of items together. -/
def sdim (l : List I7) (dim : Nat) : Int := if dim = 3 then l.length else if dim = 0 then (sall l).d0 else if dim = 1 then (sall l).d1 else (sall l).d2
theorem sdim_bd (l : List I7) (ho : Okl l) (hl : l.length ≤ 1000000) (dim : Nat) : Small (sdim l dim) := by
  obtain ⟨_, h1, h2, h3, _⟩ := (sall_ok _ l rfl ho).small (by omega)
  unfold sdim
  repeat' split
  · unfold Small; omega
  · exact h1
  · exact h2
  · exact h3
/-- Does a place stand ahead of an end, by a bias? -/
def Stops (e v b : Int) : Prop := v < e ∨ (b = 0 ∧ e = v)
/-- The place that is found. -/
structure FindIs (l : List I7) (dim : Nat) (v b : Int) (k : Nat) : Prop where
  le : k ≤ l.length
  no : ∀ j, j < k → ¬ Stops (sdim (l.take (j + 1)) dim) v b
  yes : k < l.length → Stops (sdim (l.take (k + 1)) dim) v b
theorem FindIs.unique {l : List I7} {dim : Nat} {v b : Int} {k m : Nat} (h : FindIs l dim v b k) (g : FindIs l dim v b m) : k = m := by
  rcases Nat.lt_trichotomy k m with h1 | h1 | h1
  · exact absurd (h.yes (Nat.lt_of_lt_of_le h1 g.le)) (g.no k h1)
  · exact h1
  · exact absurd (g.yes (Nat.lt_of_lt_of_le h1 h.le)) (h.no m h1)
/-- May a place be asked for so? -/
def AskOk (l : List I7) (dim v b : Int) : Prop := 0 ≤ dim ∧ dim < 4 ∧ 0 ≤ v ∧ v ≤ sdim l dim.toNat ∧ (b = 0 ∨ b = 1)
theorem ab_no {ab : Bool} {p : Prop} (h : ab = true ↔ p) (hn : ¬ p) : false = ab := by
  cases ab
  · rfl
  · exact absurd (h.1 rfl) hn
theorem ab_yes {ab : Bool} {p : Prop} (h : ab = true ↔ p) (hn : p) : true = ab := (h.2 hn).symm
end Go.Proofs.YtaemndioleofjaaGreat
