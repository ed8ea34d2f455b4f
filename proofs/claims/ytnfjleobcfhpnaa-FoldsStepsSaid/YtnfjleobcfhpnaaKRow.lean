/- Rows of things of k cells each, whatever they are: where they lie, what each one's cells are; rows of one's own. -/
import Derived.Test.YtnfjleobcfhpnaaBase
import Derived.Test.YtnfjleobcfhpnaaOnT
namespace Go.Proofs.Ytnfjleobcfhpnaa
open Go.RowKit
section
variable {α : Type} (enc : α → List Value) (k : Nat)
/-- All cells, one behind the other. -/
def kfl (l : List α) : List Value := l.flatMap enc
theorem kfl_append (a b : List α) : kfl enc (a ++ b) = kfl enc a ++ kfl enc b := by simp [kfl]
theorem kfl_cons (x : α) (l : List α) : kfl enc (x :: l) = enc x ++ kfl enc l := rfl
theorem kfl_one (x : α) : kfl enc [x] = enc x := by simp [kfl]
variable {enc} {k}
theorem kfl_length (hk : ∀ x, (enc x).length = k) : ∀ l : List α, (kfl enc l).length = l.length * k
  | [] => by simp [kfl]
  | x :: l => by rw [kfl_cons, List.length_append, kfl_length hk l, hk, List.length_cons, Nat.add_mul, Nat.one_mul]; omega
theorem kfl_at (hk : ∀ x, (enc x).length = k) : ∀ (l : List α) (j : Nat) (h : j < l.length) (c : Nat), c < k → (kfl enc l)[j * k + c]? = (enc l[j])[c]?
  | x :: l, 0, _, c, hc => by rw [kfl_cons, Nat.zero_mul, Nat.zero_add, List.getElem?_append_left (by rw [hk]; exact hc)]; rfl
  | x :: l, j + 1, h, c, hc => by
    have ih := kfl_at hk l j (by simpa using h) c hc
    rw [kfl_cons, List.getElem?_append_right (by rw [hk, Nat.add_mul, Nat.one_mul]; omega), hk, show (j + 1) * k + c - k = j * k + c by rw [Nat.add_mul, Nat.one_mul]; omega, ih]
    rfl
theorem kfl_take (hk : ∀ x, (enc x).length = k) (l : List α) (j : Nat) : (kfl enc l).take (j * k) = kfl enc (l.take j) := by
  rcases Nat.lt_or_ge j l.length with h | h
  · have e : kfl enc l = kfl enc (l.take j) ++ kfl enc (l.drop j) := by rw [← kfl_append, List.take_append_drop]
    have hl : (kfl enc (l.take j)).length = j * k := by rw [kfl_length hk, List.length_take, Nat.min_eq_left (by omega)]
    rw [e, List.take_append_of_le_length (by rw [hl]; exact Nat.le_refl _), List.take_of_length_le (by rw [hl]; exact Nat.le_refl _)]
  · rw [List.take_of_length_le h, List.take_of_length_le (by rw [kfl_length hk]; exact Nat.mul_le_mul_right _ h)]
theorem kfl_one' (h1 : ∀ x, ∀ v ∈ enc x, v.oneCell' = true) (l : List α) : ∀ u ∈ kfl enc l, u.oneCell' = true := by
  intro u hu
  obtain ⟨x, _, hx⟩ := List.mem_flatMap.1 hu
  exact h1 x u hx
theorem kfl_inj (hk : ∀ x, (enc x).length = k) (hi : ∀ x y, enc x = enc y → x = y) (hp : 0 < k) : ∀ {a b : List α}, kfl enc a = kfl enc b → a = b
  | [], [], _ => rfl
  | [], y :: b, h => by have := congrArg List.length h; rw [kfl_length hk, kfl_length hk, List.length_cons, Nat.add_mul] at this; simp at this; omega
  | x :: a, [], h => by have := congrArg List.length h; rw [kfl_length hk, kfl_length hk, List.length_cons, Nat.add_mul] at this; simp at this; omega
  | x :: a, y :: b, h => by
    rw [kfl_cons, kfl_cons] at h
    obtain ⟨h1, h2⟩ := List.append_inj h (by rw [hk, hk])
    rw [hi _ _ h1, kfl_inj hk hi hp h2]
variable (enc) (k)
/-- A row lies from an address on; nothing is asked where there is none. -/
def RowsAt (w : World) (A : Option Addr) (l : List α) : Prop :=
  0 < l.length → ∃ b off, A = some ⟨b, off, none⟩ ∧ b < w.heap.size ∧ ∀ j (h : j < l.length) c, c < k → w.cell? ⟨b, off + j * k + c, none⟩ = (enc l[j])[c]?
variable {enc} {k}
theorem RowsAt.nil (w : World) (A : Option Addr) : RowsAt enc k w A [] := fun h => absurd h (Nat.lt_irrefl 0)
theorem RowsAt.below {w w' : World} {A : Option Addr} {l : List α} (h : RowsAt enc k w A l) (hb : Below w.heap.size w w') : RowsAt enc k w' A l := by
  intro hl
  obtain ⟨b, off, rfl, h1, h2⟩ := h hl
  exact ⟨b, off, rfl, Nat.lt_of_lt_of_le h1 hb.size, fun j hj c hc => ((old_cells hb).1 _ _ h1).trans (h2 j hj c hc)⟩
theorem RowsAt.drew {w : World} {A : Option Addr} {l : List α} (h : RowsAt enc k w A l) : RowsAt enc k w.drew A l := h
theorem RowsAt.at1 {w : World} {A : Option Addr} {l : List α} (h : RowsAt enc k w A l) {j : Nat} (hj : j < l.length) : ∃ b off, A = some ⟨b, off, none⟩ ∧ b < w.heap.size ∧ ∀ c, c < k → w.cell? ⟨b, off + j * k + c, none⟩ = (enc l[j])[c]? := by
  obtain ⟨b, off, e, h1, h2⟩ := h (by omega)
  exact ⟨b, off, e, h1, h2 j hj⟩
theorem rows_of_block (hk : ∀ x, (enc x).length = k) {w : World} {b : Nat} {l : List α} {cs : Array Value} {t : TypeId} (h : RawAt t w b cs) (hc : cs.toList = kfl enc l) : RowsAt enc k w (some ⟨b, 0, none⟩) l := by
  intro _
  refine ⟨b, 0, rfl, RawAt.lt h, fun j hj c hcc => ?_⟩
  rw [RawAt.cell h, ← Array.getElem?_toList, hc, Nat.zero_add]
  exact kfl_at hk l j hj c hcc
theorem rows_of_own (hk : ∀ x, (enc x).length = k) (hp : 0 < k) {w : World} {base n : Nat} {e : TypeId} {v : Value} {o : List α} (h : w.ownsRow base e k v n (kfl enc o)) : ∃ A c, v = .slice A n c ∧ RowsAt enc k w A o ∧ o.length = n ∧ Caps A n c := by
  have hl : o.length = n := by
    have := h.1
    rw [kfl_length hk] at this
    exact Nat.eq_of_mul_eq_mul_right hp this
  rcases h.2 with ⟨rfl, rfl⟩ | ⟨g, cap, cur, rfl, hbg, hh, hnc, _, hsz, htake⟩
  · exact ⟨none, 0, rfl, fun hp => by omega, hl, Nat.le_refl _, fun _ => rfl⟩
  · refine ⟨_, cap, rfl, fun _ => ⟨g, 0, rfl, block_lt hh, fun j hj c hc => ?_⟩, hl, hnc, fun h => by cases h⟩
    have e1 := kfl_at hk o j hj c hc
    have hlt : j * k + c < n * k := by
      have := Nat.mul_le_mul_right k (show j + 1 ≤ n by omega)
      rw [Nat.add_mul, Nat.one_mul] at this
      omega
    rw [cell_of_row w g _ cur e (0, 0) hh, ← Array.getElem?_toList, Nat.zero_add, ← e1, ← htake, List.getElem?_take, if_pos hlt]
theorem own_len (hk : ∀ x, (enc x).length = k) (hp : 0 < k) {w : World} {base n : Nat} {e : TypeId} {v : Value} {o : List α} (h : w.ownsRow base e k v n (kfl enc o)) : o.length = n := by
  have := h.1
  rw [kfl_length hk] at this
  exact Nat.eq_of_mul_eq_mul_right hp this
/-- The cells of a row, for append's laws. -/
theorem RowsAt.news (hk : ∀ x, (enc x).length = k) (hp : 0 < k) {w : World} {a : Addr} {l : List α} (h : RowsAt enc k w (some a) l) : ∀ (j : Nat) (u : Value), (kfl enc l)[j]? = some u → w.cell? (a.add j) = some u := by
  intro j u hu
  have hj : j < l.length * k := by
    have := (List.getElem?_eq_some_iff.1 hu).1
    rwa [kfl_length hk] at this
  have hl : 0 < l.length := by
    rcases Nat.eq_zero_or_pos l.length with h0 | h0
    · rw [h0, Nat.zero_mul] at hj; omega
    · exact h0
  obtain ⟨b, off, e, _, hc⟩ := h hl
  obtain rfl : a = ⟨b, off, none⟩ := by injection e
  have hq : j / k < l.length := (Nat.div_lt_iff_lt_mul hp).2 hj
  have hm : j % k < k := Nat.mod_lt _ hp
  have e1 := hc (j / k) hq (j % k) hm
  have e2 := kfl_at hk l (j / k) hq (j % k) hm
  have e3 : j / k * k + j % k = j := Nat.div_add_mod' j k
  rw [Go.WideShapes.add_plain]
  rw [Nat.add_assoc, e3] at e1
  rw [e3, hu] at e2
  rw [e1, ← e2]
end
end Go.Proofs.Ytnfjleobcfhpnaa
