/- Plain facts on runes and their encodings, over lists of bytes: nothing of the program. -/
import Derived.Test.YtaemndioleofjaaGreatUtfBase
import Derived.Test.YtaemndioleofjaaGreatEncPure
import Derived.Lib.MapLaws
import Derived.Lib.ValidLaws
namespace Go.Proofs.YtaemndioleofjaaGreat
open Go.Lib
theorem toByteN (z : Int) (_ : 0 ≤ z) (h : z < 256) : (z.toNat.toUInt8).toNat = z.toNat := by
  simp
  omega
theorem decode_encode (r : Int) (t : List UInt8) : decodeL (encodeRune r ++ t) = ((cleanR r).toNat, (encodeRune r).length) := by
  rw [decodeL_N]
  have hb := encodeRuneZ_byte r
  unfold encodeRune cleanR hasR
  by_cases a : 0 ≤ r ∧ r ≤ 127
  · rw [encodeRuneZ_one a.1 a.2]
    have e := toByteN r (by omega) (by omega)
    rw [decide_eq_true (by omega)]
    simp only [List.map_cons, List.map_nil, List.cons_append, List.nil_append, List.getD_cons_zero, e, if_true, List.length_cons, List.length_nil]
    unfold decodeN
    rw [if_pos (by omega)]
  · by_cases b : 128 ≤ r ∧ r ≤ 2047
    · rw [encodeRuneZ_two b.1 b.2]
      have e0 := toByteN (192 + r / 64) (by omega) (by omega)
      have e1 := toByteN (128 + r % 64) (by omega) (by omega)
      rw [decide_eq_true (by omega)]
      simp only [List.map_cons, List.map_nil, List.cons_append, List.nil_append, List.getD_cons_zero, List.getD_cons_succ, e0, e1, if_true, List.length_cons, List.length_nil]
      unfold decodeN
      rw [if_neg (by omega), if_pos (by omega), if_pos (by omega)]
      exact Prod.ext (by simp only; omega) rfl
    · by_cases c : (2048 ≤ r ∧ r < 55296) ∨ (57343 < r ∧ r ≤ 65535)
      · rw [encodeRuneZ_three c]
        have e0 := toByteN (224 + r / 4096) (by omega) (by omega)
        have e1 := toByteN (128 + r / 64 % 64) (by omega) (by omega)
        have e2 := toByteN (128 + r % 64) (by omega) (by omega)
        rw [decide_eq_true (by omega)]
        simp only [List.map_cons, List.map_nil, List.cons_append, List.nil_append, List.getD_cons_zero, List.getD_cons_succ, e0, e1, e2, if_true, List.length_cons, List.length_nil]
        unfold decodeN
        rw [if_neg (by omega), if_neg (by omega), if_pos (by omega), if_pos (by omega)]
        exact Prod.ext (by simp only; omega) rfl
      · by_cases d : 65536 ≤ r ∧ r ≤ 1114111
        · rw [encodeRuneZ_four d.1 d.2]
          have e0 := toByteN (240 + r / 262144) (by omega) (by omega)
          have e1 := toByteN (128 + r / 4096 % 64) (by omega) (by omega)
          have e2 := toByteN (128 + r / 64 % 64) (by omega) (by omega)
          have e3 := toByteN (128 + r % 64) (by omega) (by omega)
          rw [decide_eq_true (by omega)]
          simp only [List.map_cons, List.map_nil, List.cons_append, List.nil_append, List.getD_cons_zero, List.getD_cons_succ, e0, e1, e2, e3, if_true, List.length_cons, List.length_nil]
          unfold decodeN
          rw [if_neg (by omega), if_neg (by omega), if_neg (by omega), if_pos (by omega), if_pos (by omega)]
          exact Prod.ext (by simp only; omega) rfl
        · rw [encodeRuneZ_bad (by omega), decide_eq_false (by omega)]
          simp [decodeN]
/-- Runes of bytes, step by step. -/
def decGo : Nat → List UInt8 → List Int
  | 0, _ => []
  | f + 1, l => if l = [] then [] else ((decodeL l).1 : Int) :: decGo f (l.drop (decodeL l).2)
def decD (l : List UInt8) : List Int := decGo l.length l
theorem decGo_more : ∀ (f g : Nat) (l : List UInt8), l.length ≤ f → l.length ≤ g → decGo f l = decGo g l
  | 0, g, l, h, _ => by
    obtain rfl : l = [] := List.eq_nil_of_length_eq_zero (by omega)
    cases g <;> simp [decGo]
  | f + 1, 0, l, _, h => by
    obtain rfl : l = [] := List.eq_nil_of_length_eq_zero (by omega)
    simp [decGo]
  | f + 1, g + 1, l, h1, h2 => by
    unfold decGo
    split
    · rfl
    · have hw := decodeL_width l
      rw [decGo_more f g (l.drop (decodeL l).2) (by rw [List.length_drop]; omega) (by rw [List.length_drop]; omega)]
theorem decD_step {l : List UInt8} (h : l ≠ []) : decD l = ((decodeL l).1 : Int) :: decD (l.drop (decodeL l).2) := by
  have hp : 0 < l.length := List.length_pos_iff.2 h
  obtain ⟨n, hn⟩ : ∃ n, l.length = n + 1 := ⟨l.length - 1, by omega⟩
  have hw := decodeL_width l
  unfold decD
  rw [hn]
  simp only [decGo, if_neg h]
  rw [decGo_more n (l.drop (decodeL l).2).length _ (by rw [List.length_drop]; omega) (Nat.le_refl _)]
theorem decF_list (s : ByteArray) : ∀ f p, decF s f p = decGo f (s.data.toList.drop p)
  | 0, _ => rfl
  | f + 1, p => by
    have hl : s.data.toList.length = s.size := Array.length_toList
    unfold decF decGo
    by_cases h : p < s.size
    · rw [if_pos h, if_neg (fun e => by have := congrArg List.length e; rw [List.length_drop] at this; simp at this; omega), decodeL_drop, decF_list s f, List.drop_drop]
    · rw [if_neg h, if_pos (List.drop_eq_nil_of_le (by omega))]
theorem dec_list (s : ByteArray) : dec s = decD s.data.toList := by
  have hl : s.data.toList.length = s.size := Array.length_toList
  unfold dec decD
  rw [decF_list, hl]
  rfl
theorem encodeRune_ne (r : Int) : encodeRune r ≠ [] := by
  intro e
  have h1 := (encodeRuneZ_length r).1
  have h2 := congrArg List.length e
  unfold encodeRune at h2
  rw [List.length_map] at h2
  rw [h2] at h1
  simp at h1
theorem cleanR_ge (r : Int) : 0 ≤ cleanR r := by
  unfold cleanR hasR
  split
  · rename_i h; have := of_decide_eq_true h; omega
  · omega
theorem decD_enc (r : Int) (t : List UInt8) : decD (encodeRune r ++ t) = cleanR r :: decD t := by
  rw [decD_step (by simp [encodeRune_ne]), decode_encode]
  have := cleanR_ge r
  simp only [List.drop_left, List.cons.injEq, and_true]
  omega
theorem decD_encAll (l : List Int) : decD (encAll l) = l.map cleanR := by
  induction l with
  | nil => rfl
  | cons r l ih => simp only [encAll, List.flatMap_cons, List.map_cons] at ih ⊢; rw [decD_enc, ih]
theorem enc_bad3 {r : Int} (h : cleanR r = 65533) : (encodeRune r).length = 3 := by
  unfold cleanR hasR at h
  unfold encodeRune
  split at h
  · subst h; simp [encodeRuneZ]
  · rename_i h'
    rw [encodeRuneZ_bad (by simp at h'; omega)]
    rfl
theorem valid_enc (r : Int) (t : List UInt8) : validD (encodeRune r ++ t) = validD t := by
  rw [validD_step _ (by simp [encodeRune_ne]), decode_encode]
  have := cleanR_ge r
  rw [if_neg (fun ⟨h1, h2⟩ => by have := enc_bad3 (r := r) (by simp only at h1; omega); simp only at h2; omega)]
  simp
theorem valid_encAll (l : List Int) : validD (encAll l) = true := by
  induction l with
  | nil => rfl
  | cons r l ih => simp only [encAll, List.flatMap_cons] at ih ⊢; rw [valid_enc, ih]
/-- A right text begins with a rune's encoding. -/
theorem valid_head {l : List UInt8} (h : validD l = true) (hne : l ≠ []) : l = encodeRune ((decodeL l).1 : Int) ++ l.drop (decodeL l).2 ∧ validD (l.drop (decodeL l).2) = true := by
  rw [validD_step _ hne] at h
  split at h
  · cases h
  · rename_i hv
    exact ⟨by rw [encode_decode l hne hv, List.take_append_drop], h⟩
theorem drop_shorter {l : List UInt8} (hne : l ≠ []) : (l.drop (decodeL l).2).length < l.length := by
  have hw := decodeL_width l
  have hp : 0 < l.length := List.length_pos_iff.2 hne
  rw [List.length_drop]
  omega
theorem encAll_dec : ∀ (n : Nat) (l : List UInt8), l.length ≤ n → validD l = true → encAll (decD l) = l
  | 0, l, h, _ => by
    obtain rfl : l = [] := List.eq_nil_of_length_eq_zero (by omega)
    rfl
  | n + 1, l, h, hv => by
    by_cases hne : l = []
    · subst hne; rfl
    · obtain ⟨e, hv'⟩ := valid_head hv hne
      have hs := drop_shorter hne
      have ih := encAll_dec n (l.drop (decodeL l).2) (by omega) hv'
      rw [decD_step hne]
      simp only [encAll, List.flatMap_cons] at ih ⊢
      rw [ih]
      exact e.symm
theorem decD_append : ∀ (n : Nat) (s t : List UInt8), s.length ≤ n → validD s = true → decD (s ++ t) = decD s ++ decD t
  | 0, s, t, h, _ => by
    obtain rfl : s = [] := List.eq_nil_of_length_eq_zero (by omega)
    simp [decD, decGo]
  | n + 1, s, t, h, hv => by
    by_cases hne : s = []
    · subst hne; simp [decD, decGo]
    · obtain ⟨e, hv'⟩ := valid_head hv hne
      have hs := drop_shorter hne
      have ih := decD_append n (s.drop (decodeL s).2) t (by omega) hv'
      generalize hr : ((decodeL s).1 : Int) = r at e
      generalize hd : s.drop (decodeL s).2 = u at *
      rw [e, List.append_assoc, decD_enc, decD_enc, ih]
      rfl
theorem decoded_has (l : List UInt8) : cleanR ((decodeL l).1 : Int) = ((decodeL l).1 : Int) := by
  rw [decodeL_N]
  have k0 := (l.getD 0 0).toNat_lt
  have k1 := (l.getD 1 0).toNat_lt
  have k2 := (l.getD 2 0).toNat_lt
  have k3 := (l.getD 3 0).toNat_lt
  unfold cleanR hasR
  rcases decodeN_shape l.length (l.getD 0 0).toNat (l.getD 1 0).toNat (l.getD 2 0).toNat (l.getD 3 0).toNat with ⟨c, e⟩ | ⟨c1, c2, c3, cv, e⟩ | ⟨c1, c2, c3, c4, cv, cs, e⟩ | ⟨c1, c2, c3, c4, c5, cv, cw, e⟩ | e
  all_goals rw [e]
  all_goals first
    | rfl
    | (rw [decide_eq_true (by simp only; omega)]; rfl)
theorem decoded_clean : ∀ (f : Nat) (l : List UInt8), (decGo f l).map cleanR = decGo f l
  | 0, _ => rfl
  | f + 1, l => by
    unfold decGo
    split
    · rfl
    · rw [List.map_cons, decoded_has, decoded_clean f]
end Go.Proofs.YtaemndioleofjaaGreat
