/- Edits: what a row of them is in memory, and what is wrong with one. -/
import Derived.Test.YtncbhbjhfmbbkaaBase
namespace Go.Proofs.Ytncbhbjhfmbbkaa
open Go.RowKit
/-- An edit. -/
structure E3 where
  f : Int
  t : Int
  x : ByteArray
instance : Inhabited E3 := ⟨⟨0, 0, ⟨#[]⟩⟩⟩
def eth (l : List E3) (k : Nat) : E3 := l.getD k ⟨0, 0, ⟨#[]⟩⟩
theorem eth_drop {l : List E3} {j : Nat} (h : j < l.length) : l.drop j = eth l j :: l.drop (j + 1) := by
  rw [List.drop_eq_getElem_cons h]; simp [eth, List.getD, h]
theorem eth_take {l : List E3} {j : Nat} (h : j < l.length) : l.take (j + 1) = l.take j ++ [eth l j] := by
  rw [List.take_succ_eq_append_getElem h]; simp [eth, List.getD, h]
/-- What is wrong with edits behind a place, for a text of n runes. -/
def echk (n : Int) : Int → List E3 → Int
  | _, [] => 0
  | p, e :: l => if ¬ (0 ≤ e.f ∧ e.f ≤ e.t ∧ e.t ≤ n) then 1 else if e.f < p then 90 else echk n e.t l
/-- What is wrong with a batch. -/
def bchk (n : Int) (l : List E3) : Int := if 64 < l.length then 2 else echk n 0 l
/-- By how much a text grows. -/
def egro (e : E3) : Int := ((dec e.x).length : Int) - (e.t - e.f)
def egrow (l : List E3) : Int := (l.map egro).sum
/-- Edits that may be, behind a place of a text of n runes. -/
def ERis (n : Nat) : Nat → List E3 → Prop
  | _, [] => True
  | p, e :: l => ∃ a b : Nat, e.f = a ∧ e.t = b ∧ p ≤ a ∧ a ≤ b ∧ b ≤ n ∧ ERis n b l
theorem echk_ris {n : Nat} : ∀ {p : Nat} {l : List E3}, echk n p l = 0 ↔ ERis n p l
  | p, [] => by simp [echk, ERis]
  | p, e :: l => by
    unfold echk ERis
    by_cases h : 0 ≤ e.f ∧ e.f ≤ e.t ∧ e.t ≤ n
    · rw [if_neg (fun hn => hn h)]
      obtain ⟨h1, h2, h3⟩ := h
      obtain ⟨a, ha⟩ : ∃ a : Nat, e.f = a := ⟨e.f.toNat, by omega⟩
      obtain ⟨b, hb⟩ : ∃ b : Nat, e.t = b := ⟨e.t.toNat, by omega⟩
      by_cases hp : e.f < p
      · rw [if_pos hp]
        constructor
        · intro h; exact absurd h (by decide)
        · rintro ⟨a', b', e1, e2, e3, e4, e5, _⟩; omega
      · rw [if_neg hp, hb, echk_ris]
        constructor
        · intro h; exact ⟨a, b, ha, rfl, by omega, by omega, by omega, h⟩
        · rintro ⟨a', b', e1, e2, e3, e4, e5, h⟩
          obtain rfl : b = b' := by omega
          exact h
    · rw [if_pos h]
      constructor
      · intro h; exact absurd h (by decide)
      · rintro ⟨a', b', e1, e2, e3, e4, e5, _⟩; exact absurd ⟨by omega, by omega, by omega⟩ h
/-- An edit's cells. -/
def ecs (e : E3) : Array Value := #[.int .i64 e.f, .int .i64 e.t, .string e.x]
/-- Edits lie from an address on. -/
def EdsAt (w : World) (A : Option Addr) (l : List E3) : Prop :=
  0 < l.length → ∃ b off, A = some ⟨b, off, none⟩ ∧ b < w.heap.size ∧ ∀ k, k < l.length → w.cell? ⟨b, off + k * 3, none⟩ = some (.int .i64 (eth l k).f) ∧ w.cell? ⟨b, off + k * 3 + 1, none⟩ = some (.int .i64 (eth l k).t) ∧ w.cell? ⟨b, off + k * 3 + 2, none⟩ = some (.string (eth l k).x)
theorem EdsAt.below {w w' : World} {A : Option Addr} {l : List E3} (h : EdsAt w A l) (hb : Below w.heap.size w w') : EdsAt w' A l := by
  intro hl
  obtain ⟨b, off, rfl, h1, h2⟩ := h hl
  refine ⟨b, off, rfl, Nat.lt_of_lt_of_le h1 hb.size, fun k hk => ?_⟩
  obtain ⟨c0, c1, c2⟩ := h2 k hk
  have H := (old_cells hb).1
  exact ⟨(H _ _ h1).trans c0, (H _ _ h1).trans c1, (H _ _ h1).trans c2⟩
/-- Edits as values. -/
def eflat (o : List E3) : List Value := o.flatMap fun e => [.int .i64 e.f, .int .i64 e.t, .string e.x]
theorem eflat_append (a b : List E3) : eflat (a ++ b) = eflat a ++ eflat b := by simp [eflat]
theorem eflat_length (o : List E3) : (eflat o).length = o.length * 3 := by
  induction o with
  | nil => rfl
  | cons x o ih => rw [show eflat (x :: o) = [.int .i64 x.f, .int .i64 x.t, .string x.x] ++ eflat o from rfl, List.length_append, ih, List.length_cons]; simp; omega
theorem eflat_at : ∀ (o : List E3) (k : Nat), k < o.length → (eflat o)[k * 3]? = some (.int .i64 (eth o k).f) ∧ (eflat o)[k * 3 + 1]? = some (.int .i64 (eth o k).t) ∧ (eflat o)[k * 3 + 2]? = some (.string (eth o k).x)
  | x :: o, 0, _ => ⟨rfl, rfl, rfl⟩
  | x :: o, k + 1, h => by
    have := eflat_at o k (by simpa using h)
    rw [show (k + 1) * 3 = k * 3 + 3 from by omega, show k * 3 + 3 + 1 = k * 3 + 1 + 3 from by omega, show k * 3 + 3 + 2 = k * 3 + 2 + 3 from by omega]
    simpa [eflat, eth, List.getD] using this
theorem eds_of_own {w : World} {base n : Nat} {e : TypeId} {v : Value} {o : List E3} (h : w.ownsRow base e 3 v n (eflat o)) : ∃ A c, v = .slice A n c ∧ EdsAt w A o ∧ o.length = n ∧ Caps A n c := by
  have hl : o.length = n := by have := h.1; rw [eflat_length] at this; omega
  rcases h.2 with ⟨rfl, rfl⟩ | ⟨g, cap, cur, rfl, hbg, hh, hnc, _, hsz, htake⟩
  · exact ⟨none, 0, rfl, fun hp => by omega, hl, Nat.le_refl _, fun _ => rfl⟩
  · refine ⟨_, cap, rfl, fun _ => ⟨g, 0, rfl, block_lt hh, fun k hk => ?_⟩, hl, hnc, fun h => by cases h⟩
    obtain ⟨c0, c1, c2⟩ := eflat_at o k hk
    have key : ∀ j u, (eflat o)[j]? = some u → w.cell? ⟨g, 0 + j, none⟩ = some u := fun j u hu => by
      rw [cell_of_row w g _ cur e (0, 0) hh, ← Array.getElem?_toList, Nat.zero_add]
      have hj : j < n * 3 := by
        rcases Nat.lt_or_ge j (n * 3) with h9 | h9
        · exact h9
        · rw [List.getElem?_eq_none (by rw [eflat_length]; omega)] at hu; cases hu
      rw [← htake, List.getElem?_take, if_pos hj] at hu
      exact hu
    exact ⟨key _ _ c0, by rw [Nat.add_assoc]; exact key _ _ c1, by rw [Nat.add_assoc]; exact key _ _ c2⟩
theorem EdsAt.drop1 {w : World} {A : Option Addr} {l : List E3} (h : EdsAt w A l) {k : Nat} (hk : k < l.length) : ∃ b off, A = some ⟨b, off, none⟩ ∧ b < w.heap.size ∧ w.cell? ⟨b, off + k * 3, none⟩ = some (.int .i64 (eth l k).f) ∧ w.cell? ⟨b, off + k * 3 + 1, none⟩ = some (.int .i64 (eth l k).t) ∧ w.cell? ⟨b, off + k * 3 + 2, none⟩ = some (.string (eth l k).x) := by
  obtain ⟨b, off, e, h1, h2⟩ := h (by omega)
  exact ⟨b, off, e, h1, h2 k hk⟩
end Go.Proofs.Ytncbhbjhfmbbkaa
