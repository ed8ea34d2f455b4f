/- A step of the document's decoding is the model's: plain facts. -/
import Derived.Test.YtaemndioleofjaaGreatRefNum
import Derived.Test.YtaemndioleofjaaGreatUtfPure
namespace Go.Proofs.YtaemndioleofjaaGreat
open Go.Lib
/-- So many bytes of a text from a place on. -/
def bcutAt (s : ByteArray) (p n : Nat) : ByteArray := s.extract p (p + n)
theorem cutAt_list (s : ByteArray) (p n : Nat) : (bcutAt s p n).data.toList = (s.data.toList.drop p).take n := by
  unfold bcutAt
  rw [ByteArray.data_extract, Array.toList_extract]
  simp [List.extract]
theorem size_list (s : ByteArray) : s.data.toList.length = s.size := Array.length_toList
theorem bt_list (t : ByteArray) (i : Nat) (h : i < t.size) : bt t i = ((t.data.toList.getD i 0).toNat : Int) := by
  rw [← bt_at t i h]
  have h' : i < t.data.toList.length := by rw [size_list]; exact h
  simp [List.getD, List.getElem?_eq_getElem h']
  rfl
/-- The number that n bytes from a place on say. -/
def numAt (s : ByteArray) (p n : Nat) : Int := numK (bcutAt s p n) n n
/-- n bytes from a place on are a right encoding. -/
def Mt (s : ByteArray) (p n : Nat) : Prop := 1 ≤ n ∧ n ≤ 4 ∧ p + n ≤ s.size ∧ rsz (numAt s p n) = n ∧ encodeRune (numAt s p n) = (bcutAt s p n).data.toList
theorem rsz_has {r : Int} (h : rsz r ≠ 0) : hasR r = true := by
  unfold rsz at h
  cases e : hasR r
  · rw [e] at h; exact absurd rfl h
  · rfl
theorem Mt.decode {s : ByteArray} {p n : Nat} (h : Mt s p n) : 0 ≤ numAt s p n ∧ ((Utf8.decode s p).1 : Int) = numAt s p n ∧ (Utf8.decode s p).2 = n := by
  obtain ⟨h1, h2, h3, h4, h5⟩ := h
  have hh := rsz_has (r := numAt s p n) (by omega)
  have hc : cleanR (numAt s p n) = numAt s p n := by unfold cleanR; rw [hh]; rfl
  have hge := cleanR_ge (numAt s p n)
  rw [hc] at hge
  have hl : (bcutAt s p n).data.toList.length = n := by rw [cutAt_list, List.length_take, List.length_drop, size_list]; omega
  have hd : decodeL (s.data.toList.drop p) = ((numAt s p n).toNat, n) := by
    have e : s.data.toList.drop p = encodeRune (numAt s p n) ++ (s.data.toList.drop p).drop n := by
      rw [h5, cutAt_list, List.take_append_drop]
    rw [e, decode_encode, hc, h5, hl]
  rw [decodeL_drop] at hd
  rw [hd]
  exact ⟨hge, by simp only; omega, rfl⟩
theorem numAt_eq {s : ByteArray} {p n : Nat} {r : Int} (hn : p + n ≤ s.size) (hr : hasR r = true) (he : encodeRune r = (bcutAt s p n).data.toList) (hz : uSize r = n) : numAt s p n = r := by
  have hsz : (bcutAt s p n).size = n := by rw [← size_list, cutAt_list, List.length_take, List.length_drop, size_list]; omega
  have hb : ∀ i, i < n → bt (bcutAt s p n) i = ((((encodeRuneZ r).map fun (x : Int) => x.toNat.toUInt8).getD i 0).toNat : Int) := by
    intro i hi
    rw [bt_list _ i (by omega), ← he]
    rfl
  have hh : 0 ≤ r ∧ r ≤ 1114111 ∧ (r < 55296 ∨ 57343 < r) := of_decide_eq_true hr
  have hy := rsz_yes hh
  rw [show rsz r = uSize r from by unfold rsz; rw [hr]; rfl, hz] at hy
  unfold numAt
  by_cases a : r < 128
  · rw [if_pos a] at hy
    obtain rfl : n = 1 := by omega
    have b0 := hb 0 (by omega)
    rw [encodeRuneZ_one hh.1 (by omega)] at b0
    have e0 := toByteN r (by omega) (by omega)
    simp only [List.map_cons, List.map_nil, List.getD_cons_zero, e0] at b0
    show bt _ 0 - offN 1 = r
    rw [b0]
    simp [offN]
    omega
  · rw [if_neg a] at hy
    by_cases b : r < 2048
    · rw [if_pos b] at hy
      obtain rfl : n = 2 := by omega
      have b0 := hb 0 (by omega)
      have b1 := hb 1 (by omega)
      rw [encodeRuneZ_two (by omega) (by omega)] at b0 b1
      have e0 := toByteN (192 + r / 64) (by omega) (by omega)
      have e1 := toByteN (128 + r % 64) (by omega) (by omega)
      simp only [List.map_cons, List.map_nil, List.getD_cons_zero, List.getD_cons_succ, e0, e1] at b0 b1
      show 64 * (bt _ 0 - offN 2) + bt _ 1 - 128 = r
      rw [b0, b1]
      simp [offN]
      omega
    · rw [if_neg b] at hy
      by_cases c : r < 65536
      · rw [if_pos c] at hy
        obtain rfl : n = 3 := by omega
        have b0 := hb 0 (by omega)
        have b1 := hb 1 (by omega)
        have b2 := hb 2 (by omega)
        rw [encodeRuneZ_three (by omega)] at b0 b1 b2
        have e0 := toByteN (224 + r / 4096) (by omega) (by omega)
        have e1 := toByteN (128 + r / 64 % 64) (by omega) (by omega)
        have e2 := toByteN (128 + r % 64) (by omega) (by omega)
        simp only [List.map_cons, List.map_nil, List.getD_cons_zero, List.getD_cons_succ, e0, e1, e2] at b0 b1 b2
        show 64 * (64 * (bt _ 0 - offN 3) + bt _ 1 - 128) + bt _ 2 - 128 = r
        rw [b0, b1, b2]
        simp [offN]
        omega
      · rw [if_neg c] at hy
        obtain rfl : n = 4 := by omega
        have b0 := hb 0 (by omega)
        have b1 := hb 1 (by omega)
        have b2 := hb 2 (by omega)
        have b3 := hb 3 (by omega)
        rw [encodeRuneZ_four (by omega) (by omega)] at b0 b1 b2 b3
        have e0 := toByteN (240 + r / 262144) (by omega) (by omega)
        have e1 := toByteN (128 + r / 4096 % 64) (by omega) (by omega)
        have e2 := toByteN (128 + r / 64 % 64) (by omega) (by omega)
        have e3 := toByteN (128 + r % 64) (by omega) (by omega)
        simp only [List.map_cons, List.map_nil, List.getD_cons_zero, List.getD_cons_succ, e0, e1, e2, e3] at b0 b1 b2 b3
        show 64 * (64 * (64 * (bt _ 0 - offN 4) + bt _ 1 - 128) + bt _ 2 - 128) + bt _ 3 - 128 = r
        rw [b0, b1, b2, b3]
        simp [offN]
        omega
theorem uSize_le4 (r : Int) : uSize r ≤ 4 := by
  have := (encodeRuneZ_length r).2
  unfold uSize
  omega
theorem decode_error {s : ByteArray} {p : Nat} (hp : p < s.size) (h : ∀ n, 1 ≤ n → n ≤ 4 → p + n ≤ s.size → ¬ Mt s p n) : (Utf8.decode s p).1 = 65533 ∧ (Utf8.decode s p).2 = 1 := by
  rw [← decodeL_drop]
  have hne : s.data.toList.drop p ≠ [] := by
    intro e
    have := congrArg List.length e
    rw [List.length_drop, size_list] at this
    simp at this
    omega
  by_cases hv : (decodeL (s.data.toList.drop p)).1 = 65533 ∧ (decodeL (s.data.toList.drop p)).2 = 1
  · exact hv
  · exfalso
    have he := encode_decode _ hne hv
    have hw := decodeL_width (s.data.toList.drop p)
    have hle := decodeL_le _ hne
    have hc := decoded_has (s.data.toList.drop p)
    rw [List.length_drop, size_list] at hle
    generalize hr : ((decodeL (s.data.toList.drop p)).1 : Int) = r at *
    generalize hn : (decodeL (s.data.toList.drop p)).2 = n at *
    rw [← cutAt_list] at he
    have hl : (encodeRune r).length = n := by rw [he, cutAt_list, List.length_take, List.length_drop, size_list]; omega
    have hz : uSize r = n := by
      unfold uSize
      have e : (encodeRune r).length = (encodeRuneZ r).length := by simp [encodeRune]
      omega
    have h4 := uSize_le4 r
    have hh : hasR r = true := by
      cases e : hasR r
      · exfalso
        unfold cleanR at hc
        rw [e] at hc
        simp only [Bool.false_eq_true, if_false] at hc
        rw [← hc] at e
        exact absurd e (by decide)
      · rfl
    have hN := numAt_eq (by omega) hh he hz
    refine h n hw (by omega) (by omega) ⟨hw, by omega, by omega, ?_, ?_⟩
    · rw [hN]; unfold rsz; rw [hh]; exact hz
    · rw [hN]; exact he
end Go.Proofs.YtaemndioleofjaaGreat
