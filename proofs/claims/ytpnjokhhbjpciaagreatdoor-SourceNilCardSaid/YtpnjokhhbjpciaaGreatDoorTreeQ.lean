/- What is found in a tree, in plain words. What the walks of the laws on cursors ask of the tree's functions. -/
import Derived.Test.YtpnjokhhbjpciaaGreatDoorItBase
import Derived.Test.YtpnjokhhbjpciaaGreatDoorItAdd
import Derived.Deep.RegionHeld3
namespace Go.Proofs.YtpnjokhhbjpciaaGreatDoor
open Go.RowKit
/-- A size of items together. -/
def sdim (l : List I7) (dim : Nat) : Int := if dim = 3 then l.length else if dim = 0 then (sall l).d0 else if dim = 1 then (sall l).d1 else (sall l).d2
theorem sdim_bd (l : List I7) (ho : Okl l) (hl : l.length ≤ 1000000) (dim : Nat) : Small (sdim l dim) := by
  obtain ⟨_, h1, h2, h3, _⟩ := (sall_ok _ l rfl ho).small (by omega)
  unfold sdim
  repeat' split
  · unfold Small; omega
  · exact h1
  · exact h2
  · exact h3
/-- Does a place stand ahead of an end, by a bias? -/
def Stops (e v b : Int) : Prop := v < e ∨ (b = 0 ∧ e = v)
/-- The place that is found. -/
structure FindIs (l : List I7) (dim : Nat) (v b : Int) (k : Nat) : Prop where
  le : k ≤ l.length
  no : ∀ j, j < k → ¬ Stops (sdim (l.take (j + 1)) dim) v b
  yes : k < l.length → Stops (sdim (l.take (k + 1)) dim) v b
theorem FindIs.unique {l : List I7} {dim : Nat} {v b : Int} {k m : Nat} (h : FindIs l dim v b k) (g : FindIs l dim v b m) : k = m := by
  rcases Nat.lt_trichotomy k m with h1 | h1 | h1
  · exact absurd (h.yes (Nat.lt_of_lt_of_le h1 g.le)) (g.no k h1)
  · exact h1
  · exact absurd (g.yes (Nat.lt_of_lt_of_le h1 h.le)) (h.no m h1)
/-- May a place be asked for so? -/
def AskOk (l : List I7) (dim v b : Int) : Prop := 0 ≤ dim ∧ dim < 4 ∧ 0 ≤ v ∧ v ≤ sdim l dim.toNat ∧ (b = 0 ∨ b = 1)
theorem ab_no {ab : Bool} {p : Prop} (h : ab = true ↔ p) (hn : ¬ p) : false = ab := by
  cases ab
  · rfl
  · exact absurd (h.1 rfl) hn
theorem ab_yes {ab : Bool} {p : Prop} (h : ab = true ↔ p) (hn : p) : true = ab := (h.2 hn).symm
/-- The cells of a found place, with its visits. -/
def vcs (k : Nat) (s : S6) (v : Int) : Array Value := #[.int .i64 k, .int .i64 s.n, .int .i64 s.d0, .int .i64 s.d1, .int .i64 s.d2, .int .i64 s.mx, .int .i64 s.pl, .int .i64 v]
theorem raw_vcs {t : TypeId} {w : World} {b k : Nat} {s : S6} {z : Int} (h : RawAt t w b (vcs k s z)) : w.cell? ⟨b, 0, none⟩ = some (.int .i64 k) ∧ w.cell? ⟨b, 1, none⟩ = some (.int .i64 s.n) ∧ w.cell? ⟨b, 2, none⟩ = some (.int .i64 s.d0) ∧ w.cell? ⟨b, 3, none⟩ = some (.int .i64 s.d1) ∧ w.cell? ⟨b, 4, none⟩ = some (.int .i64 s.d2) ∧ w.cell? ⟨b, 5, none⟩ = some (.int .i64 s.mx) ∧ w.cell? ⟨b, 6, none⟩ = some (.int .i64 s.pl) ∧ w.cell? ⟨b, 7, none⟩ = some (.int .i64 z) :=
  ⟨RawAt.cell h 0, RawAt.cell h 1, RawAt.cell h 2, RawAt.cell h 3, RawAt.cell h 4, RawAt.cell h 5, RawAt.cell h 6, RawAt.cell h 7⟩
/-- T w a l h: in the world w a tree lies at a; it has the items l, and is h high. -/
structure TreeQ (T : World → Addr → List I7 → Nat → Prop) : Prop where
  below : ∀ {w w' : World} {a : Addr} {l : List I7} {h : Nat}, T w a l h → Below w.heap.size w w' → T w' a l h
  ok : ∀ {w : World} {a : Addr} {l : List I7} {h : Nat}, T w a l h → Okl l ∧ l.length ≤ 30000
  sum : ∀ (w : World) (a : Addr) (l : List I7) (h : Nat), T w a l h → Calls Tryz.prog 109 #[.pointer (some a)] w fun e w' => e = .returned (.agg (scs (sall l))) ∧ Below w.heap.size w w'
  new : ∀ (A : Option Addr) (n c : Nat) (l : List I7) (w : World), ItsAt w A l → l.length = n → Caps A n c → n ≤ 30000 → Okl l → Calls Tryz.prog 108 #[.slice A n c] w fun e w' => ∃ a h, e = .returned (.tuple #[.pointer (some a), .int .i64 0]) ∧ T w' a l h ∧ Below w.heap.size w w'
  find : ∀ (w : World) (a : Addr) (l : List I7) (h : Nat) (dim v b : Int), T w a l h → AskOk l dim v b → Calls Tryz.prog 130 #[.pointer (some a), .int .i64 dim, .int .i64 v, .int .i64 b] w fun e w' => ∃ (k : Nat) (z : Int), FindIs l dim.toNat v b k ∧ 0 ≤ z ∧ z ≤ h ∧ e = .returned (.tuple #[.agg (vcs k (sall (l.take k)) z), .int .i64 0]) ∧ Below w.heap.size w w'
  findBad : ∀ (w : World) (a : Addr) (l : List I7) (h : Nat) (dim v b : Int), T w a l h → ¬ AskOk l dim v b → Calls Tryz.prog 130 #[.pointer (some a), .int .i64 dim, .int .i64 v, .int .i64 b] w fun e w' => e = .returned (.tuple #[.agg (vcs 0 s0 0), .int .i64 1]) ∧ Below w.heap.size w w'
  at_ : ∀ (w : World) (a : Addr) (l : List I7) (h k : Nat), T w a l h → k < l.length → Calls Tryz.prog 131 #[.pointer (some a), .int .i64 k] w fun e w' => e = .returned (.tuple #[.agg (ics (ith l k)), .int .i64 0]) ∧ Below w.heap.size w w'
  atBad : ∀ (w : World) (a : Addr) (l : List I7) (h : Nat) (k : Int), T w a l h → ¬ (0 ≤ k ∧ k < l.length) → Calls Tryz.prog 131 #[.pointer (some a), .int .i64 k] w fun e w' => e = .returned (.tuple #[.agg (ics ⟨0, 0, 0, 0, 0, 0, ⟨#[]⟩⟩), .int .i64 1]) ∧ Below w.heap.size w w'
end Go.Proofs.YtpnjokhhbjpciaaGreatDoor
