/- A line's end among a text's runes is one among its bytes. -/
import Derived.Test.YtmijlijgcaaiiaaInB
namespace Go.Proofs.Ytmijlijgcaaiiaa
open Go.RowKit Go.Lib
set_option linter.unusedVariables false
theorem decodeN_high (n b0 b1 b2 b3 : Nat) (h : 128 ≤ b0) : (decodeN n b0 b1 b2 b3).1 ≠ 10 ∧ ((decodeN n b0 b1 b2 b3).2 = 1 ∨ ((decodeN n b0 b1 b2 b3).2 = 2 ∧ b1 / 64 = 2) ∨ ((decodeN n b0 b1 b2 b3).2 = 3 ∧ b1 / 64 = 2 ∧ b2 / 64 = 2) ∨ ((decodeN n b0 b1 b2 b3).2 = 4 ∧ b1 / 64 = 2 ∧ b2 / 64 = 2 ∧ b3 / 64 = 2)) := by
  rcases decodeN_shape n b0 b1 b2 b3 with ⟨c, e⟩ | ⟨c1, c2, c3, cv, e⟩ | ⟨c1, c2, c3, c4, cv, cs, e⟩ | ⟨c1, c2, c3, c4, c5, cv, cw, e⟩ | e
  · omega
  · rw [e]; exact ⟨fun h => by simp only at h; omega, .inr (.inl ⟨rfl, c3⟩)⟩
  · rw [e]; exact ⟨fun h => by simp only at h; omega, .inr (.inr (.inl ⟨rfl, c3, c4⟩))⟩
  · rw [e]; exact ⟨fun h => by simp only at h; omega, .inr (.inr (.inr ⟨rfl, c3, c4, c5⟩))⟩
  · rw [e]; exact ⟨by decide, .inl rfl⟩
theorem getD_ten {t : List UInt8} {i : Nat} (h : (t.getD i 0).toNat / 64 = 2) : t.getD i 0 ≠ 10 := by
  intro e
  rw [e] at h
  exact absurd h (by decide)
theorem decD_ten : ∀ (n : Nat) (l : List UInt8), l.length ≤ n → ((10 : Int) ∈ decD l ↔ (10 : UInt8) ∈ l)
  | n, [], _ => by simp [decD, decGo]
  | 0, b :: t, h => absurd h (by simp)
  | n + 1, b :: t, h => by
    rw [decD_step (by simp)]
    by_cases hb : b.toNat < 128
    · rw [decodeL_ascii b t hb]
      have ih := decD_ten n t (by simpa using h)
      rw [List.mem_cons, List.mem_cons, show (b :: t).drop 1 = t from rfl, ih]
      have : (10 : Int) = ((b.toNat : Nat) : Int) ↔ 10 = b := by
        constructor
        · intro e
          apply UInt8.toNat_inj.1
          show 10 = b.toNat
          omega
        · intro e; rw [← e]; rfl
      rw [this]
    · have hN := decodeN_high (b :: t).length b.toNat (t.getD 0 0).toNat (t.getD 1 0).toNat (t.getD 2 0).toNat (by omega)
      have hL : decodeL (b :: t) = decodeN (b :: t).length b.toNat (t.getD 0 0).toNat (t.getD 1 0).toNat (t.getD 2 0).toNat := by rw [decodeL_N]; rfl
      rw [← hL] at hN
      have hw := decodeL_width (b :: t)
      generalize decodeL (b :: t) = rk at *
      obtain ⟨r, k⟩ := rk
      simp only at hN hw ⊢
      obtain ⟨h1, h2⟩ := hN
      have ih := decD_ten n ((b :: t).drop k) (by rw [List.length_drop]; simp at h ⊢; omega)
      rw [List.mem_cons, ih]
      have hne : ¬ (10 : Int) = (r : Int) := by omega
      have hbne : ¬ (10 : UInt8) = b := by rintro rfl; exact hb (by decide)
      have key : ∀ (t : List UInt8) (j : Nat), (∀ i, i < j → t.getD i 0 ≠ 10) → ((10 : UInt8) ∈ t.drop j ↔ (10 : UInt8) ∈ t) := by
        intro t
        induction t with
        | nil => intro j _; simp
        | cons x t iht =>
          intro j hj
          cases j with
          | zero => simp
          | succ j =>
            have h0 := hj 0 (by omega)
            simp at h0
            rw [List.drop_succ_cons, iht j (fun i hi => by have := hj (i + 1) (by omega); simpa using this), List.mem_cons]
            constructor
            · exact .inr
            · rintro (e | e)
              · exact absurd e.symm h0
              · exact e
      simp only [hne, false_or]
      rcases h2 with h2 | ⟨h2, a⟩ | ⟨h2, a, c⟩ | ⟨h2, a, c, d⟩ <;> subst h2 <;> rw [List.drop_succ_cons, List.mem_cons, key]
      · simp [hbne]
      · intro i hi; omega
      · simp [hbne]
      · intro i hi
        obtain rfl : i = 0 := by omega
        exact getD_ten a
      · simp [hbne]
      · intro i hi
        have : i = 0 ∨ i = 1 := by omega
        rcases this with rfl | rfl
        · exact getD_ten a
        · exact getD_ten c
      · simp [hbne]
      · intro i hi
        have : i = 0 ∨ i = 1 ∨ i = 2 := by omega
        rcases this with rfl | rfl | rfl
        · exact getD_ten a
        · exact getD_ten c
        · exact getD_ten d
theorem has10_dec (s : ByteArray) : has10 s = true ↔ (10 : Int) ∈ dec s := by
  rw [dec_list, decD_ten _ _ (Nat.le_refl _)]
  unfold has10
  rw [decide_eq_true_eq]
  constructor
  · intro h
    obtain ⟨o, ho⟩ : ∃ o : Nat, indexByte s.data.toList 10 = o := ⟨(indexByte s.data.toList 10).toNat, by omega⟩
    exact List.mem_of_getElem? (indexByte_some ho).1
  · intro h
    obtain ⟨k, hk⟩ := List.mem_iff_getElem?.1 h
    have h1 := indexByte_ge s.data.toList 10
    by_cases h2 : indexByte s.data.toList 10 = -1
    · exact absurd hk (indexByte_none h2 k)
    · omega
end Go.Proofs.Ytmijlijgcaaiiaa
