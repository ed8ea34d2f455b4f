/- What the document's own answers of texts do (package bodkinref01): size, Size, one. The right encoding of a number, as the document's own answer writes it: the contract of bodkinref01.one. The number that so many bytes say, as the document's own answer reckons it: the contract of bodkinref01.number. A step of the document's decoding is the model's: plain facts. A step of the document's decoding: the contract of bodkinref01.Step. The encodings of runes as the document's own answer has them: the contract of bodkinref01.Encode. The document's decoding of a whole text, and whether a text is good: the contracts of bodkinref01.Decode and Good. -/
import Derived.Test.YtjkmkobnfhepaaaGreatBase
import Derived.Laws.BytesArg
import Derived.Lib.QuoteLoop
namespace Go.Proofs.YtjkmkobnfhepaaaGreat
section
open Go.RowKit
/-- How many bytes a number that has a right encoding has; none: 0. -/
def rsz (r : Int) : Int := if hasR r then uSize r else 0
theorem rsz_no {r : Int} (h : ¬ (0 ≤ r ∧ r ≤ 1114111 ∧ (r < 55296 ∨ 57343 < r))) : rsz r = 0 := by
  unfold rsz hasR
  rw [decide_eq_false h]
  rfl
theorem rsz_yes {r : Int} (h : 0 ≤ r ∧ r ≤ 1114111 ∧ (r < 55296 ∨ 57343 < r)) : rsz r = if r < 128 then 1 else if r < 2048 then 2 else if r < 65536 then 3 else 4 := by
  unfold rsz hasR uSize Lib.encodeRuneZ
  rw [decide_eq_true h]
  simp only [if_true]
  repeat' split
  all_goals first
    | rfl
    | (exfalso; omega)
set_option maxHeartbeats 1000000 in
theorem rsize_any (r : Int) (w : World) : Calls Tryz.prog 61 #[.int .i32 r] w fun e w' => e = .returned (.int .i64 (rsz r)) ∧ w' = w := by
  by_cases hr : 0 ≤ r ∧ r ≤ 1114111 ∧ (r < 55296 ∨ 57343 < r)
  · have hz := rsz_yes hr
    obtain ⟨r1, r2, r3⟩ := hr
    by_cases s1 : r < 128
    · rw [if_pos s1] at hz
      have HZ := Lib.hid hz; clear hz
      have r5 : r < 55296 := by omega
      go_enter Tryz.func61, Tryz.ntmps61
      go_wp2
      go_ret
      exact ⟨ret_int HZ.out.symm, rfl⟩
    · rw [if_neg s1] at hz
      by_cases s2 : r < 2048
      · rw [if_pos s2] at hz
        have HZ := Lib.hid hz; clear hz
        have r5 : r < 55296 := by omega
        go_enter Tryz.func61, Tryz.ntmps61
        go_wp2
        go_ret
        exact ⟨ret_int HZ.out.symm, rfl⟩
      · rw [if_neg s2] at hz
        by_cases s4 : r < 55296
        · rw [if_pos (by omega)] at hz
          have HZ := Lib.hid hz; clear hz
          have s5 : r < 65536 := by omega
          go_enter Tryz.func61, Tryz.ntmps61
          go_wp2
          go_ret
          exact ⟨ret_int HZ.out.symm, rfl⟩
        · have s5 : 57343 < r := by omega
          by_cases s3 : r < 65536
          · rw [if_pos s3] at hz
            have HZ := Lib.hid hz; clear hz
            go_enter Tryz.func61, Tryz.ntmps61
            go_wp2
            go_ret
            exact ⟨ret_int HZ.out.symm, rfl⟩
          · rw [if_neg s3] at hz
            have HZ := Lib.hid hz; clear hz
            go_enter Tryz.func61, Tryz.ntmps61
            go_wp2
            go_ret
            exact ⟨ret_int HZ.out.symm, rfl⟩
  · have HZ := Lib.hid (rsz_no hr)
    by_cases r1 : r < 0
    · go_enter Tryz.func61, Tryz.ntmps61
      go_wp2
      go_ret
      exact ⟨ret_int HZ.out.symm, rfl⟩
    · by_cases r2 : 1114111 < r
      · go_enter Tryz.func61, Tryz.ntmps61
        go_wp2
        go_ret
        exact ⟨ret_int HZ.out.symm, rfl⟩
      · have r3 : 55296 ≤ r := by omega
        have r4 : r ≤ 57343 := by omega
        clear hr
        go_enter Tryz.func61, Tryz.ntmps61
        go_wp2
        go_ret
        exact ⟨ret_int HZ.out.symm, rfl⟩
/-- Bytes just laid, turned into a text. -/
theorem conv_new (w : World) (xs : List Int) (n c : Nat) (hn : xs.length = n) :
    (convert 161 9 (.slice (some ⟨w.heap.size, 0, none⟩) n c)).run Tryz.prog (w.alloc (.cells (xs.map (Value.int .u8)).toArray 5)) = .ok (.string (strOfNums xs)) (w.alloc (.cells (xs.map (Value.int .u8)).toArray 5)) :=
  run_convert_bytes_arg _ 161 5 Tryz.underlying161 Tryz.underlying5 w.heap.size 0 n c xs hn (fun i hi => by
    rw [cell_of_row _ _ _ _ 5 _ (heap_alloc_new w _), ← Array.getElem?_toList, Nat.zero_add]
    have hi' : i < xs.length := by omega
    simp [List.getD, hi']) 9 Tryz.underlying9
theorem str_enc {r : Int} {xs : List Int} (h : Lib.encodeRuneZ r = xs) : Ending.returned (.string (strOfNums xs)) = .returned (.string ⟨(Lib.encodeRune r).toArray⟩) := by
  subst h
  rfl
set_option maxHeartbeats 1000000 in
theorem one_1 (r : Int) (w : World) (h0 : 0 ≤ r) (h1 : r < 128) :
    Calls Tryz.prog 62 #[.int .i32 r, .int .i64 1] w fun e w' => e = .returned (.string ⟨(Lib.encodeRune r).toArray⟩) ∧ Below w.heap.size w w' := by
  have e1 := conv_new w [r] 1 1 rfl
  simp only [List.map_cons, List.map_nil] at e1
  have HE := Lib.hid (Lib.encodeRuneZ_one (r := r) h0 (by omega))
  go_enter Tryz.func62, Tryz.ntmps62
  go_wp2
  go_ret
  exact ⟨str_enc HE.out, (Below.refl _ _).alloc (Nat.le_refl _) _⟩
set_option maxHeartbeats 1000000 in
theorem one_2 (r : Int) (w : World) (h0 : 128 ≤ r) (h1 : r < 2048) :
    Calls Tryz.prog 62 #[.int .i32 r, .int .i64 2] w fun e w' => e = .returned (.string ⟨(Lib.encodeRune r).toArray⟩) ∧ Below w.heap.size w w' := by
  have e1 := conv_new w [192 + r / 64, 128 + r % 64] 2 2 rfl
  simp only [List.map_cons, List.map_nil] at e1
  have HE := Lib.hid (Lib.encodeRuneZ_two (r := r) h0 (by omega))
  have h2 : 0 ≤ r := by omega
  go_enter Tryz.func62, Tryz.ntmps62
  go_wp2
  go_ret
  exact ⟨str_enc HE.out, (Below.refl _ _).alloc (Nat.le_refl _) _⟩
set_option maxHeartbeats 1000000 in
theorem one_3 (r : Int) (w : World) (h0 : 2048 ≤ r) (h1 : r < 65536) (hs : r < 55296 ∨ 57343 < r) :
    Calls Tryz.prog 62 #[.int .i32 r, .int .i64 3] w fun e w' => e = .returned (.string ⟨(Lib.encodeRune r).toArray⟩) ∧ Below w.heap.size w w' := by
  have e1 := conv_new w [224 + r / 4096, 128 + r / 64 % 64, 128 + r % 64] 3 3 rfl
  simp only [List.map_cons, List.map_nil] at e1
  have HE := Lib.hid (Lib.encodeRuneZ_three (r := r) (by omega))
  have h2 : 0 ≤ r := by omega
  clear hs
  go_enter Tryz.func62, Tryz.ntmps62
  go_wp2
  go_ret
  exact ⟨str_enc HE.out, (Below.refl _ _).alloc (Nat.le_refl _) _⟩
set_option maxHeartbeats 1000000 in
theorem one_4 (r : Int) (w : World) (h0 : 65536 ≤ r) (h1 : r ≤ 1114111) :
    Calls Tryz.prog 62 #[.int .i32 r, .int .i64 4] w fun e w' => e = .returned (.string ⟨(Lib.encodeRune r).toArray⟩) ∧ Below w.heap.size w w' := by
  have e1 := conv_new w [240 + r / 262144, 128 + r / 4096 % 64, 128 + r / 64 % 64, 128 + r % 64] 4 4 rfl
  simp only [List.map_cons, List.map_nil] at e1
  have HE := Lib.hid (Lib.encodeRuneZ_four (r := r) h0 h1)
  have h2 : 0 ≤ r := by omega
  go_enter Tryz.func62, Tryz.ntmps62
  go_wp2
  go_ret
  exact ⟨str_enc HE.out, (Below.refl _ _).alloc (Nat.le_refl _) _⟩
theorem one_any (r n : Int) (w : World) (h : rsz r = n) (hn : n ≠ 0) :
    Calls Tryz.prog 62 #[.int .i32 r, .int .i64 n] w fun e w' => e = .returned (.string ⟨(Lib.encodeRune r).toArray⟩) ∧ Below w.heap.size w w' := by
  by_cases hr : 0 ≤ r ∧ r ≤ 1114111 ∧ (r < 55296 ∨ 57343 < r)
  · have hz := rsz_yes hr
    rw [h] at hz
    subst hz
    split
    · exact one_1 r w hr.1 (by assumption)
    · split
      · exact one_2 r w (by omega) (by assumption)
      · split
        · exact one_3 r w (by omega) (by assumption) hr.2.2
        · exact one_4 r w (by omega) hr.2.1
  · exact absurd (h.symm.trans (rsz_no hr)) hn
/-- A text's byte, as a number. -/
def btR (t : ByteArray) (i : Nat) : Int := ((t.get! i).toNat : Int)
/-- What is taken off the first byte. -/
def offN (m : Nat) : Int := if m = 1 then 0 else if m = 2 then 192 else if m = 3 then 224 else 240
/-- The number of the first j bytes. -/
def numK (t : ByteArray) (m : Nat) : Nat → Int
  | 0 => 0
  | 1 => btR t 0 - offN m
  | j + 2 => 64 * numK t m (j + 1) + btR t (j + 1) - 128
theorem get_at (s : ByteArray) (k : Nat) (h : k < s.size) : s.get! k = s[k]'h := by
  cases s with
  | mk d => exact getElem!_pos d k h
theorem bt_at (t : ByteArray) (i : Nat) (h : i < t.size) : ((t[i]'h).toNat : Int) = btR t i := by
  unfold btR
  rw [get_at t i h]
theorem bt_bd (t : ByteArray) (i : Nat) : 0 ≤ btR t i ∧ btR t i ≤ 255 := by
  unfold btR
  have := (t.get! i).toNat_lt
  omega
theorem numK_succ (t : ByteArray) (m : Nat) {j : Nat} (h : 1 ≤ j) : numK t m (j + 1) = 64 * numK t m j + btR t j - 128 := by
  obtain ⟨k, rfl⟩ : ∃ k, j = k + 1 := ⟨j - 1, by omega⟩
  rfl
theorem numK_bd (t : ByteArray) (m : Nat) : ∀ j, 1 ≤ j → j ≤ 3 → -1100000 ≤ numK t m j ∧ numK t m j ≤ 1100000 := by
  have b0 := bt_bd t 0
  have b1 := bt_bd t 1
  have b2 := bt_bd t 2
  have ho : 0 ≤ offN m ∧ offN m ≤ 240 := by unfold offN; repeat' split
                                            all_goals omega
  intro j h1 h2
  have e1 : numK t m 1 = btR t 0 - offN m := rfl
  have e2 : numK t m 2 = 64 * numK t m 1 + btR t 1 - 128 := rfl
  have e3 : numK t m 3 = 64 * numK t m 2 + btR t 2 - 128 := rfl
  obtain rfl | rfl | rfl : j = 1 ∨ j = 2 ∨ j = 3 := by omega
  all_goals omega
set_option maxHeartbeats 1000000 in
theorem number_one (t : ByteArray) (w : World) (hm : t.size = 1) :
    Calls Tryz.prog 96 #[.string t] w fun e w' => e = .returned (.int .i32 (numK t 1 1)) ∧ w' = w := by
  have h0 : 0 < t.size := by omega
  have hz : (t.size : Int) = 1 := by omega
  have q := bt_at t 0 h0
  have hb := bt_bd t 0
  have hb1 : (0 : Int) ≤ ((t[0]'h0).toNat : Int) := by omega
  have hb2 : ((t[0]'h0).toNat : Int) ≤ 255 := by omega
  have HQ := Lib.hid q; clear q hb
  have e1 : numK t 1 1 = btR t 0 - 0 := rfl
  have HE := Lib.hid e1; clear e1
  go_enter Tryz.func96, Tryz.ntmps96
  go_wp2
  go_ret
  exact ⟨ret_int (by rw [HE.out, ← HQ.out]; omega), rfl⟩
set_option maxHeartbeats 1000000 in
theorem number_2 (t : ByteArray) (w : World) (hm : t.size = 2) :
    Calls Tryz.prog 96 #[.string t] w fun e w' => e = .returned (.int .i32 (numK t 2 2)) ∧ w' = w := by
  have h0 : 0 < t.size := by omega
  have q := bt_at t 0 h0
  have hb := bt_bd t 0
  have hb1 : (0 : Int) ≤ ((t[0]'h0).toNat : Int) := by omega
  have hb2 : ((t[0]'h0).toNat : Int) ≤ 255 := by omega
  have HQ := Lib.hid q; clear q hb
  have e1 : numK t 2 1 = btR t 0 - 192 := rfl
  have HE := Lib.hid e1; clear e1
  have HM := Lib.hid hm
  have hz : (t.size : Int) = 2 := by omega
  go_enter Tryz.func96, Tryz.ntmps96
  go_wp2
  go_loopg [3, 4] 2 (fun k v i wr => ∃ j : Nat, i = .int .i64 j ∧ v = .int .i32 (numK t 2 j) ∧ 1 ≤ j ∧ j ≤ 2 ∧ 2 - j ≤ k ∧ wr = w)
  case atStart => exact ⟨1, rfl, by rw [HE.out, ← HQ.out], by omega, by omega, by omega, rfl⟩
  case round =>
    obtain ⟨j, rfl, rfl, i0, i1, i2, rfl⟩ := hrel
    by_cases hlt : j < 2
    · have hj : j < t.size := by omega
      have hjz : (j : Int) < 2 := by omega
      have qb := bt_at t j hj
      have bb := bt_bd t j
      have k1 : (0 : Int) ≤ ((t[j]'hj).toNat : Int) := by omega
      have k2 : ((t[j]'hj).toNat : Int) ≤ 255 := by omega
      have hbd := numK_bd t 2 j i0 (by omega)
      have hns := numK_succ t 2 i0
      have HN := Lib.hid hns; clear hns
      have HB := Lib.hid qb; clear qb bb
      obtain ⟨d1, d2⟩ := hbd
      generalize numK t 2 j = v at *
      go_wp2
      go_roundg (gk - 1)
      case measure => omega
      case rel => exact ⟨j + 1, by go_num, by rw [HN.out, ← HB.out], by omega, by omega, by omega, rfl⟩
    · have hj : j = 2 := by omega
      subst hj
      go_wp2
      go_ret
      exact ⟨rfl, rfl⟩
set_option maxHeartbeats 1000000 in
theorem number_3 (t : ByteArray) (w : World) (hm : t.size = 3) :
    Calls Tryz.prog 96 #[.string t] w fun e w' => e = .returned (.int .i32 (numK t 3 3)) ∧ w' = w := by
  have h0 : 0 < t.size := by omega
  have q := bt_at t 0 h0
  have hb := bt_bd t 0
  have hb1 : (0 : Int) ≤ ((t[0]'h0).toNat : Int) := by omega
  have hb2 : ((t[0]'h0).toNat : Int) ≤ 255 := by omega
  have HQ := Lib.hid q; clear q hb
  have e1 : numK t 3 1 = btR t 0 - 224 := rfl
  have HE := Lib.hid e1; clear e1
  have HM := Lib.hid hm
  have hz : (t.size : Int) = 3 := by omega
  go_enter Tryz.func96, Tryz.ntmps96
  go_wp2
  go_loopg [3, 4] 3 (fun k v i wr => ∃ j : Nat, i = .int .i64 j ∧ v = .int .i32 (numK t 3 j) ∧ 1 ≤ j ∧ j ≤ 3 ∧ 3 - j ≤ k ∧ wr = w)
  case atStart => exact ⟨1, rfl, by rw [HE.out, ← HQ.out], by omega, by omega, by omega, rfl⟩
  case round =>
    obtain ⟨j, rfl, rfl, i0, i1, i2, rfl⟩ := hrel
    by_cases hlt : j < 3
    · have hj : j < t.size := by omega
      have hjz : (j : Int) < 3 := by omega
      have qb := bt_at t j hj
      have bb := bt_bd t j
      have k1 : (0 : Int) ≤ ((t[j]'hj).toNat : Int) := by omega
      have k2 : ((t[j]'hj).toNat : Int) ≤ 255 := by omega
      have hbd := numK_bd t 3 j i0 (by omega)
      have hns := numK_succ t 3 i0
      have HN := Lib.hid hns; clear hns
      have HB := Lib.hid qb; clear qb bb
      obtain ⟨d1, d2⟩ := hbd
      generalize numK t 3 j = v at *
      go_wp2
      go_roundg (gk - 1)
      case measure => omega
      case rel => exact ⟨j + 1, by go_num, by rw [HN.out, ← HB.out], by omega, by omega, by omega, rfl⟩
    · have hj : j = 3 := by omega
      subst hj
      go_wp2
      go_ret
      exact ⟨rfl, rfl⟩
set_option maxHeartbeats 1000000 in
theorem number_4 (t : ByteArray) (w : World) (hm : t.size = 4) :
    Calls Tryz.prog 96 #[.string t] w fun e w' => e = .returned (.int .i32 (numK t 4 4)) ∧ w' = w := by
  have h0 : 0 < t.size := by omega
  have q := bt_at t 0 h0
  have hb := bt_bd t 0
  have hb1 : (0 : Int) ≤ ((t[0]'h0).toNat : Int) := by omega
  have hb2 : ((t[0]'h0).toNat : Int) ≤ 255 := by omega
  have HQ := Lib.hid q; clear q hb
  have e1 : numK t 4 1 = btR t 0 - 240 := rfl
  have HE := Lib.hid e1; clear e1
  have HM := Lib.hid hm
  have hz : (t.size : Int) = 4 := by omega
  go_enter Tryz.func96, Tryz.ntmps96
  go_wp2
  go_loopg [3, 4] 4 (fun k v i wr => ∃ j : Nat, i = .int .i64 j ∧ v = .int .i32 (numK t 4 j) ∧ 1 ≤ j ∧ j ≤ 4 ∧ 4 - j ≤ k ∧ wr = w)
  case atStart => exact ⟨1, rfl, by rw [HE.out, ← HQ.out], by omega, by omega, by omega, rfl⟩
  case round =>
    obtain ⟨j, rfl, rfl, i0, i1, i2, rfl⟩ := hrel
    by_cases hlt : j < 4
    · have hj : j < t.size := by omega
      have hjz : (j : Int) < 4 := by omega
      have qb := bt_at t j hj
      have bb := bt_bd t j
      have k1 : (0 : Int) ≤ ((t[j]'hj).toNat : Int) := by omega
      have k2 : ((t[j]'hj).toNat : Int) ≤ 255 := by omega
      have hbd := numK_bd t 4 j i0 (by omega)
      have hns := numK_succ t 4 i0
      have HN := Lib.hid hns; clear hns
      have HB := Lib.hid qb; clear qb bb
      obtain ⟨d1, d2⟩ := hbd
      generalize numK t 4 j = v at *
      go_wp2
      go_roundg (gk - 1)
      case measure => omega
      case rel => exact ⟨j + 1, by go_num, by rw [HN.out, ← HB.out], by omega, by omega, by omega, rfl⟩
    · have hj : j = 4 := by omega
      subst hj
      go_wp2
      go_ret
      exact ⟨rfl, rfl⟩
end
section
open Go.Lib
/-- So many bytes of a text from a place on. -/
def bcutAt (s : ByteArray) (p n : Nat) : ByteArray := s.extract p (p + n)
theorem cutAt_list (s : ByteArray) (p n : Nat) : (bcutAt s p n).data.toList = (s.data.toList.drop p).take n := by
  unfold bcutAt
  rw [ByteArray.data_extract, Array.toList_extract]
  simp [List.extract]
theorem size_list (s : ByteArray) : s.data.toList.length = s.size := Array.length_toList
theorem bt_list (t : ByteArray) (i : Nat) (h : i < t.size) : btR t i = ((t.data.toList.getD i 0).toNat : Int) := by
  rw [← bt_at t i h]
  have h' : i < t.data.toList.length := by rw [size_list]; exact h
  simp [List.getD, List.getElem?_eq_getElem h']
  rfl
/-- The number that n bytes from a place on say. -/
def numAt (s : ByteArray) (p n : Nat) : Int := numK (bcutAt s p n) n n
/-- n bytes from a place on are a right encoding. -/
def Mt (s : ByteArray) (p n : Nat) : Prop := 1 ≤ n ∧ n ≤ 4 ∧ p + n ≤ s.size ∧ rsz (numAt s p n) = n ∧ encodeRune (numAt s p n) = (bcutAt s p n).data.toList
theorem rsz_has {r : Int} (h : rsz r ≠ 0) : hasR r = true := by
  unfold rsz at h
  cases e : hasR r
  · rw [e] at h; exact absurd rfl h
  · rfl
theorem Mt.decode {s : ByteArray} {p n : Nat} (h : Mt s p n) : 0 ≤ numAt s p n ∧ ((Utf8.decode s p).1 : Int) = numAt s p n ∧ (Utf8.decode s p).2 = n := by
  obtain ⟨h1, h2, h3, h4, h5⟩ := h
  have hh := rsz_has (r := numAt s p n) (by omega)
  have hc : cleanR (numAt s p n) = numAt s p n := by unfold cleanR; rw [hh]; rfl
  have hge := cleanR_ge (numAt s p n)
  rw [hc] at hge
  have hl : (bcutAt s p n).data.toList.length = n := by rw [cutAt_list, List.length_take, List.length_drop, size_list]; omega
  have hd : decodeL (s.data.toList.drop p) = ((numAt s p n).toNat, n) := by
    have e : s.data.toList.drop p = encodeRune (numAt s p n) ++ (s.data.toList.drop p).drop n := by
      rw [h5, cutAt_list, List.take_append_drop]
    rw [e, decode_encode, hc, h5, hl]
  rw [decodeL_drop] at hd
  rw [hd]
  exact ⟨hge, by simp only; omega, rfl⟩
theorem numAt_eq {s : ByteArray} {p n : Nat} {r : Int} (hn : p + n ≤ s.size) (hr : hasR r = true) (he : encodeRune r = (bcutAt s p n).data.toList) (hz : uSize r = n) : numAt s p n = r := by
  have hsz : (bcutAt s p n).size = n := by rw [← size_list, cutAt_list, List.length_take, List.length_drop, size_list]; omega
  have hb : ∀ i, i < n → btR (bcutAt s p n) i = ((((encodeRuneZ r).map fun (x : Int) => x.toNat.toUInt8).getD i 0).toNat : Int) := by
    intro i hi
    rw [bt_list _ i (by omega), ← he]
    rfl
  have hh : 0 ≤ r ∧ r ≤ 1114111 ∧ (r < 55296 ∨ 57343 < r) := of_decide_eq_true hr
  have hy := rsz_yes hh
  rw [show rsz r = uSize r from by unfold rsz; rw [hr]; rfl, hz] at hy
  unfold numAt
  by_cases a : r < 128
  · rw [if_pos a] at hy
    obtain rfl : n = 1 := by omega
    have b0 := hb 0 (by omega)
    rw [encodeRuneZ_one hh.1 (by omega)] at b0
    have e0 := toByteN r (by omega) (by omega)
    simp only [List.map_cons, List.map_nil, List.getD_cons_zero, e0] at b0
    show btR _ 0 - offN 1 = r
    rw [b0]
    simp [offN]
    omega
  · rw [if_neg a] at hy
    by_cases b : r < 2048
    · rw [if_pos b] at hy
      obtain rfl : n = 2 := by omega
      have b0 := hb 0 (by omega)
      have b1 := hb 1 (by omega)
      rw [encodeRuneZ_two (by omega) (by omega)] at b0 b1
      have e0 := toByteN (192 + r / 64) (by omega) (by omega)
      have e1 := toByteN (128 + r % 64) (by omega) (by omega)
      simp only [List.map_cons, List.map_nil, List.getD_cons_zero, List.getD_cons_succ, e0, e1] at b0 b1
      show 64 * (btR _ 0 - offN 2) + btR _ 1 - 128 = r
      rw [b0, b1]
      simp [offN]
      omega
    · rw [if_neg b] at hy
      by_cases c : r < 65536
      · rw [if_pos c] at hy
        obtain rfl : n = 3 := by omega
        have b0 := hb 0 (by omega)
        have b1 := hb 1 (by omega)
        have b2 := hb 2 (by omega)
        rw [encodeRuneZ_three (by omega)] at b0 b1 b2
        have e0 := toByteN (224 + r / 4096) (by omega) (by omega)
        have e1 := toByteN (128 + r / 64 % 64) (by omega) (by omega)
        have e2 := toByteN (128 + r % 64) (by omega) (by omega)
        simp only [List.map_cons, List.map_nil, List.getD_cons_zero, List.getD_cons_succ, e0, e1, e2] at b0 b1 b2
        show 64 * (64 * (btR _ 0 - offN 3) + btR _ 1 - 128) + btR _ 2 - 128 = r
        rw [b0, b1, b2]
        simp [offN]
        omega
      · rw [if_neg c] at hy
        obtain rfl : n = 4 := by omega
        have b0 := hb 0 (by omega)
        have b1 := hb 1 (by omega)
        have b2 := hb 2 (by omega)
        have b3 := hb 3 (by omega)
        rw [encodeRuneZ_four (by omega) (by omega)] at b0 b1 b2 b3
        have e0 := toByteN (240 + r / 262144) (by omega) (by omega)
        have e1 := toByteN (128 + r / 4096 % 64) (by omega) (by omega)
        have e2 := toByteN (128 + r / 64 % 64) (by omega) (by omega)
        have e3 := toByteN (128 + r % 64) (by omega) (by omega)
        simp only [List.map_cons, List.map_nil, List.getD_cons_zero, List.getD_cons_succ, e0, e1, e2, e3] at b0 b1 b2 b3
        show 64 * (64 * (64 * (btR _ 0 - offN 4) + btR _ 1 - 128) + btR _ 2 - 128) + btR _ 3 - 128 = r
        rw [b0, b1, b2, b3]
        simp [offN]
        omega
theorem uSize_le4 (r : Int) : uSize r ≤ 4 := by
  have := (encodeRuneZ_length r).2
  unfold uSize
  omega
theorem decode_error {s : ByteArray} {p : Nat} (hp : p < s.size) (h : ∀ n, 1 ≤ n → n ≤ 4 → p + n ≤ s.size → ¬ Mt s p n) : (Utf8.decode s p).1 = 65533 ∧ (Utf8.decode s p).2 = 1 := by
  rw [← decodeL_drop]
  have hne : s.data.toList.drop p ≠ [] := by
    intro e
    have := congrArg List.length e
    rw [List.length_drop, size_list] at this
    simp at this
    omega
  by_cases hv : (decodeL (s.data.toList.drop p)).1 = 65533 ∧ (decodeL (s.data.toList.drop p)).2 = 1
  · exact hv
  · exfalso
    have he := encode_decode _ hne hv
    have hw := decodeL_width (s.data.toList.drop p)
    have hle := decodeL_le _ hne
    have hc := decoded_has (s.data.toList.drop p)
    rw [List.length_drop, size_list] at hle
    generalize hr : ((decodeL (s.data.toList.drop p)).1 : Int) = r at *
    generalize hn : (decodeL (s.data.toList.drop p)).2 = n at *
    rw [← cutAt_list] at he
    have hl : (encodeRune r).length = n := by rw [he, cutAt_list, List.length_take, List.length_drop, size_list]; omega
    have hz : uSize r = n := by
      unfold uSize
      have e : (encodeRune r).length = (encodeRuneZ r).length := by simp [encodeRune]
      omega
    have h4 := uSize_le4 r
    have hh : hasR r = true := by
      cases e : hasR r
      · exfalso
        unfold cleanR at hc
        rw [e] at hc
        simp only [Bool.false_eq_true, if_false] at hc
        rw [← hc] at e
        exact absurd e (by decide)
      · rfl
    have hN := numAt_eq (by omega) hh he hz
    refine h n hw (by omega) (by omega) ⟨hw, by omega, by omega, ?_, ?_⟩
    · rw [hN]; unfold rsz; rw [hh]; exact hz
    · rw [hN]; exact he
end
section
open Go.RowKit
theorem cutAt_size {s : ByteArray} {p n : Nat} (h : p + n ≤ s.size) : (bcutAt s p n).size = n := by
  rw [← size_list, cutAt_list, List.length_take, List.length_drop, size_list]
  omega
theorem number_any (s : ByteArray) (p n : Nat) (w : World) (h1 : 1 ≤ n) (h4 : n ≤ 4) (h : p + n ≤ s.size) :
    Calls Tryz.prog 96 #[.string (bcutAt s p n)] w fun e w' => e = .returned (.int .i32 (numAt s p n)) ∧ w' = w := by
  have hz := cutAt_size h
  unfold numAt
  obtain rfl | rfl | rfl | rfl : n = 1 ∨ n = 2 ∨ n = 3 ∨ n = 4 := by omega
  · exact number_one _ w hz
  · exact number_2 _ w hz
  · exact number_3 _ w hz
  · exact number_4 _ w hz
set_option maxHeartbeats 2000000 in
set_option maxRecDepth 100000 in
theorem step_in (s : ByteArray) (p : Nat) (w : World) (hs : s.size ≤ 1000000000) (hp : p < s.size) :
    Calls Tryz.prog 63 #[.string s, .int .i64 p] w fun e w' => e = .returned (.agg #[.int .i32 (Utf8.decode s p).1, .int .i64 (Utf8.decode s p).2]) ∧ Below w.heap.size w w' := by
  have b1 : decide ((p : Int) < 0) = false := decide_eq_false (by omega)
  have b2 : decide (s.size ≤ p) = false := decide_eq_false (by omega)
  have b3 : decide ((s.size : Int) ≤ p) = false := decide_eq_false (by omega)
  go_enter Tryz.func63, Tryz.ntmps63
  go_wp2
  go_loopg [5, 6, 7] 5 (fun g v x y wr => ∃ k : Nat, v = .int .i64 k ∧ 1 ≤ k ∧ k ≤ 5 ∧ 5 - k ≤ g ∧ Below (w.heap.size + 1) (w.alloc (.cells #[.int .i32 0, .int .i64 0] 126)) wr ∧ ∀ i, i < k → ¬ Mt s p i)
  case atStart => exact ⟨1, rfl, by omega, by omega, by omega, Below.refl _ _, fun i hi h => by have := h.1; omega⟩
  case round =>
    obtain ⟨k, rfl, i0, i1, i2, hb, hno⟩ := hrel
    have HN := Lib.hid hno; clear hno
    have hB0 : Below w.heap.size w wr := ((Below.refl _ _).alloc (Nat.le_refl _) _).trans (hb.mono (by omega))
    have q0 : wr.cell? ⟨w.heap.size, 0, none⟩ = some (.int .i32 0) := by
      rw [hb.cell (p := ⟨w.heap.size, 0, none⟩) (by simp), cell_of_row _ _ _ _ _ _ (heap_alloc_new w _)]; rfl
    have q1 : wr.cell? ⟨w.heap.size, 1, none⟩ = some (.int .i64 0) := by
      rw [hb.cell (p := ⟨w.heap.size, 1, none⟩) (by simp), cell_of_row _ _ _ _ _ _ (heap_alloc_new w _)]; rfl
    have f0 : ∀ i, wr.frozen? ⟨w.heap.size, i, none⟩ = false := fun i => by
      rw [hb.frozen (p := ⟨w.heap.size, i, none⟩) (by simp)]; unfold World.frozen?; rw [heap_alloc_new w _]; simp
    by_cases g1 : k ≤ 4
    · by_cases g2 : p + k ≤ s.size
      · have z1 : (k : Int) ≤ (s.size : Int) - p := by omega
        have z2 : (p : Int) + k ≤ s.size := by omega
        have z3 : (0 : Int) ≤ p := by omega
        have z4 : (p : Int) ≤ (p : Int) + k := by omega
        have hM : Mt s p k ↔ (1 ≤ k ∧ k ≤ 4 ∧ p + k ≤ s.size ∧ rsz (numAt s p k) = k ∧ Lib.encodeRune (numAt s p k) = (bcutAt s p k).data.toList) := Iff.rfl
        have hMd := Mt.decode (s := s) (p := p) (n := k)
        have C := Lib.hid fun W => number_any s p k W i0 g1 g2
        generalize hr : numAt s p k = r at *
        generalize hc : bcutAt s p k = t at *
        unfold bcutAt at hc
        have HC := Lib.hid hc; clear hc
        have HR := Lib.hid hr; clear hr
        have D := Lib.hid fun W => rsize_any r W
        have E := Lib.hid fun (W : World) (h : rsz r = k) => one_any r k W h (by omega)
        by_cases hrk : rsz r = k
        · have hE := E.out
          by_cases he : Lib.encodeRune r = t.data.toList
          · -- it matches
            obtain ⟨d0, d1, d2⟩ := hMd (hM.2 ⟨i0, g1, g2, hrk, he⟩)
            have heq : (Lib.encodeRune r == t.toList) = true := by
              rw [ByteArray.toList_eq, beq_iff_eq]; exact he
            have HQ := Lib.hid heq; clear heq
            have HD1 := Lib.hid d1
            have HD2 := Lib.hid d2
            have HE := Lib.hid fun W => E.out W hrk
            clear hM hMd d1 d2 E hE he
            go_wp2_with fail
            rw [HC.out]
            refine (C.out _).mono ?_
            rintro e w1 ⟨rfl, rfl⟩
            go_wp2_with fail
            refine (D.out _).mono ?_
            rintro e w1 ⟨rfl, rfl⟩
            rw [hrk]
            go_wp2_with fail
            refine (HE.out _).mono ?_
            rintro e w2 ⟨rfl, hb2⟩
            have hszr : w.heap.size + 1 ≤ w1.heap.size := by have := hb.size; simpa using this
            have p0 : w2.cell? ⟨w.heap.size, 0, none⟩ = some (.int .i32 0) := (hb2.cell (p := ⟨w.heap.size, 0, none⟩) (by show w.heap.size < _; omega)).trans q0
            have p1 : w2.cell? ⟨w.heap.size, 1, none⟩ = some (.int .i64 0) := (hb2.cell (p := ⟨w.heap.size, 1, none⟩) (by show w.heap.size < _; omega)).trans q1
            have pf : ∀ i, w2.frozen? ⟨w.heap.size, i, none⟩ = false := fun i => (hb2.frozen (p := ⟨w.heap.size, i, none⟩) (by show w.heap.size < _; omega)).trans (f0 i)
            have heq := HQ.out
            go_wp2_with fail
            exact bodyPost_ret (v := .agg #[.int .i32 r, .int .i64 k]) (by simp [results, Tryz.results63, go_sem, p0, p1]) rfl ⟨by rw [HD1.out, HD2.out], ((hB0.trans (hb2.mono hB0.size)).setCell (p := ⟨w.heap.size, 0, none⟩) (Nat.le_refl _) _).setCell (p := ⟨w.heap.size, 1, none⟩) (Nat.le_refl _) _⟩
          · have hno := fun hh => he (hM.1 hh).2.2.2.2
            have heq : (Lib.encodeRune r == t.toList) = false := by
              rw [ByteArray.toList_eq, beq_eq_false_iff_ne]; exact he
            have HQ := Lib.hid heq; clear heq
            have HX := Lib.hid hno; clear hno
            have HE := Lib.hid fun W => E.out W hrk
            clear hM hMd E hE he
            go_wp2_with fail
            rw [HC.out]
            refine (C.out _).mono ?_
            rintro e w1 ⟨rfl, rfl⟩
            go_wp2_with fail
            refine (D.out _).mono ?_
            rintro e w1 ⟨rfl, rfl⟩
            rw [hrk]
            go_wp2_with fail
            refine (HE.out _).mono ?_
            rintro e w2 ⟨rfl, hb2⟩
            have heq := HQ.out
            go_wp2_with fail
            go_roundg (gk - 1)
            case measure => omega
            case rel => exact ⟨k + 1, by go_num, by omega, by omega, by omega, hb.trans (hb2.mono (by have := hb.size; simpa using this)), fun i hi => by
              by_cases e : i < k
              · exact HN.out i e
              · obtain rfl : i = k := by omega
                exact HX.out⟩
        · have hno := fun hh => hrk (hM.1 hh).2.2.2.1
          have HX := Lib.hid hno; clear hno
          have hne : (rsz r == (k : Int)) = false := by simpa using hrk
          generalize rsz r = x at *
          clear hM hMd E
          go_wp2_with fail
          rw [HC.out]
          refine (C.out _).mono ?_
          rintro e w1 ⟨rfl, rfl⟩
          go_wp2_with fail
          refine (D.out _).mono ?_
          rintro e w1 ⟨rfl, rfl⟩
          go_wp2_with fail
          go_roundg (gk - 1)
          case measure => omega
          case rel => exact ⟨k + 1, by go_num, by omega, by omega, by omega, hb, fun i hi => by
              by_cases e : i < k
              · exact HN.out i e
              · obtain rfl : i = k := by omega
                exact HX.out⟩
      · have z1 : ¬ (k : Int) ≤ (s.size : Int) - p := by omega
        have z5 : (s.size : Int) - p < k := by omega
        have herr := decode_error hp (fun n n1 n4 n5 => HN.out n (by omega))
        have HE := Lib.hid herr; clear herr
        go_wp2_with fail
        exact bodyPost_ret (v := .agg #[.int .i32 65533, .int .i64 1]) (by simp [results, Tryz.results63, go_sem, q0, q1]) rfl ⟨by rw [HE.out.1, HE.out.2]; rfl, (hB0.setCell (p := ⟨w.heap.size, 0, none⟩) (Nat.le_refl _) _).setCell (p := ⟨w.heap.size, 1, none⟩) (Nat.le_refl _) _⟩
    · have hk : k = 5 := by omega
      subst hk
      have herr := decode_error hp (fun n n1 n4 n5 => HN.out n (by omega))
      have HE := Lib.hid herr; clear herr
      go_wp2_with fail
      exact bodyPost_ret (v := .agg #[.int .i32 65533, .int .i64 1]) (by simp [results, Tryz.results63, go_sem, q0, q1]) rfl ⟨by rw [HE.out.1, HE.out.2]; rfl, (hB0.setCell (p := ⟨w.heap.size, 0, none⟩) (Nat.le_refl _) _).setCell (p := ⟨w.heap.size, 1, none⟩) (Nat.le_refl _) _⟩
end
section
open Go.RowKit
theorem bytes_add (x y : List UInt8) : (ByteArray.mk x.toArray) ++ (ByteArray.mk y.toArray) = ⟨(x ++ y).toArray⟩ :=
  Go.WideShapes.bytes_inj (by simp)
theorem enc_none {r : Int} (h : rsz r = 0) : Lib.encodeRune r = Lib.encodeRune 65533 := by
  have hr : ¬ (0 ≤ r ∧ r ≤ 1114111 ∧ (r < 55296 ∨ 57343 < r)) := by
    intro hr
    have := rsz_yes hr
    rw [h] at this
    repeat' split at this
    all_goals omega
  unfold Lib.encodeRune
  rw [Lib.encodeRuneZ_bad (by omega), Lib.encodeRuneZ_three (r := 65533) (by omega)]
  decide
theorem encodeRune_le (r : Int) : (Lib.encodeRune r).length ≤ 4 := by
  have := (Lib.encodeRuneZ_length r).2
  have e : (Lib.encodeRune r).length = (Lib.encodeRuneZ r).length := by simp [Lib.encodeRune]
  omega
theorem ret_str {a b : ByteArray} (h : a = b) : Ending.returned (.string a) = .returned (.string b) := by rw [h]
set_option maxHeartbeats 1000000 in
theorem rencode_any (A : Option Addr) (n c : Nat) (l : List Int) (w : World) (hA : IntsAt .i32 w A l) (hl : l.length = n) (hn : n ≤ 100000000) :
    Calls Tryz.prog 26 #[.slice A n c] w fun e w' => e = .returned (.string ⟨(encAll l).toArray⟩) ∧ Below w.heap.size w w' := by
  have HL := Lib.hid hl; clear hl
  have HA := Lib.hid hA; clear hA
  go_enter Tryz.func26, Tryz.ntmps26
  go_wp2
  go_loopg [3, 5, 6, 9] n (fun k v x y i wr => ∃ (j : Nat) (t : ByteArray), i = .int .i64 j ∧ v = .string t ∧ j ≤ n ∧ n - j ≤ k ∧ Below w.heap.size w wr ∧ Hid (t = ⟨(encAll (l.take j)).toArray⟩))
  case atStart => exact ⟨0, _, rfl, rfl, by omega, by omega, Below.refl _ _, rfl⟩
  case round =>
    obtain ⟨j, t, rfl, rfl, h1, h2, hb, ht⟩ := hrel
    by_cases hlt : j < n
    · have hm : j < l.length := by rw [HL.out]; exact hlt
      obtain ⟨b, off, rfl, hbs, hc⟩ := HA.out (by omega)
      have q := hc j hm
      clear hc
      obtain ⟨H1, H2⟩ := old_cells hb
      have HM := Lib.hid hm; clear hm
      have hsn := encAll_snoc HM.out
      have zt : t.size ≤ 400000000 := by
        have h1 := encAll_len (l.take j)
        have h2 := List.length_take_le' j l
        have h3 : t.size = (encAll (l.take j)).length := by rw [ht.out]; simp [ByteArray.size]
        have := HL.out
        omega
      have zl := encodeRune_le (nth l j)
      have zl3 := encodeRune_le 65533
      generalize nth l j = r at *
      have HS := Lib.hid hsn; clear hsn
      have C := Lib.hid fun W => rsize_any r W
      have D := Lib.hid fun (n : Int) (W : World) (h : rsz r = n) (h' : n ≠ 0) => one_any r n W h h'
      have E0 := Lib.hid fun h => enc_none (r := r) h
      generalize rsz r = x at *
      by_cases hx : x = 0
      · have hE := E0.out hx
        have HE := Lib.hid hE; clear hE D E0
        subst hx
        go_wp2_with fail
        refine (C.out _).mono ?_
        rintro e w1 ⟨rfl, rfl⟩
        go_wp2_with fail
        refine (one_any 65533 3 _ (by decide) (by decide)).mono ?_
        rintro e w2 ⟨rfl, hb2⟩
        go_wp2_with fail
        go_roundg (gk - 1)
        case measure => omega
        case rel => exact ⟨j + 1, _, by go_num, rfl, by omega, by omega, hb.trans (hb2.mono hb.size), by show _ = _; rw [ht.out, bytes_add, HS.out, HE.out]⟩
      · have hxb : (x == 0) = false := by simpa using hx
        clear E0
        go_wp2_with fail
        refine (C.out _).mono ?_
        rintro e w1 ⟨rfl, rfl⟩
        go_wp2_with fail
        refine (D.out x _ rfl hx).mono ?_
        rintro e w2 ⟨rfl, hb2⟩
        go_wp2_with fail
        go_roundg (gk - 1)
        case measure => omega
        case rel => exact ⟨j + 1, _, by go_num, rfl, by omega, by omega, hb.trans (hb2.mono hb.size), by show _ = _; rw [ht.out, bytes_add, HS.out]⟩
    · go_wp2_with fail
      go_ret
      exact ⟨ret_str (by rw [ht.out, List.take_of_length_le (by rw [HL.out]; omega)]), hb⟩
end
section
open Go.RowKit
theorem width_in (s : ByteArray) (p : Nat) (h : p < s.size) : p + (Utf8.decode s p).2 ≤ s.size := by
  have := Lib.decodeN_width_le (s.size - p) (s.get! p).toNat (s.get! (p + 1)).toNat (s.get! (p + 2)).toNat (s.get! (p + 3)).toNat (by omega)
  rw [← Lib.decode_at] at this
  omega
theorem z_after {w1 w4 : World} (c0 c1 : Value) (t : TypeId) (o : Obj) (row : Option Nat) (hlt : ∀ k, row = some k → k < w1.heap.size) (hg : ((w1.alloc (.cells #[c0, c1] t)).alloc o).grownBy w4 row) : w4.cell? ⟨w1.heap.size, 1, none⟩ = some c1 := by
  rw [cell_of_row _ _ _ _ _ _ ((hg.block w1.heap.size (by simp; omega) (fun e => by have := hlt _ e.symm; omega)).trans ((Below.heap_alloc _ _ _ (by simp)).trans (heap_alloc_new w1 _)))]
  rfl
set_option maxHeartbeats 1000000 in
theorem rdecode_any (s : ByteArray) (w : World) (hs : s.size ≤ 1000000000) :
    Calls Tryz.prog 27 #[.string s] w fun e w' => ∃ A c, e = .returned (.slice A (dec s).length c) ∧ Below w.heap.size w w' ∧ IntsAt .i32 w' A (dec s) ∧ Caps A (dec s).length c := by
  obtain ⟨i0, hi0, hz0, hz1, hz2⟩ := info_parts i32_info
  have hlen := dec_len s
  obtain ⟨D, hD⟩ : ∃ D, D = dec s := ⟨_, rfl⟩
  rw [← hD] at hlen ⊢
  have HD := Lib.hid hD; clear hD
  go_enter Tryz.func27, Tryz.ntmps27
  go_wp2
  go_loopg [3, 4] (s.size + 1) (fun k v p wr => ∃ (pos f : Nat) (acc : List Int), p = .int .i64 pos ∧ wr.ownsRow w.heap.size 21 1 v acc.length (acc.map (.int .i32)) ∧ Below w.heap.size w wr ∧ s.size ≤ pos + f ∧ pos ≤ s.size ∧ f < k ∧ Hid (D = acc ++ decF s f pos) ∧ acc.length + (decF s f pos).length ≤ s.size)
  case atStart => exact ⟨0, s.size, [], rfl, World.ownsRow_nil _ _ _ _, Below.refl _ _, by omega, by omega, by omega, HD.out, by have := dec_len s; unfold dec at this; simpa using this⟩
  case round =>
    obtain ⟨pos, f, acc, rfl, hown, hb, h1, h1', h2, h3, h4⟩ := hrel
    by_cases hp : pos < s.size
    · have hwd := width_ge s pos
      have hwl := width_in s pos hp
      obtain ⟨f, rfl⟩ : ∃ f', f = f' + 1 := ⟨f - 1, by omega⟩
      rw [decF_step hp] at h3 h4
      simp only [List.length_cons] at h4
      have C := Lib.hid fun W => step_in s pos W hs hp
      generalize (Utf8.decode s pos).1 = r at *
      generalize (Utf8.decode s pos).2 = z at *
      go_wp2_with fail
      refine (C.out _).mono ?_
      rintro e w1 ⟨rfl, hb1⟩
      have a1 := hb.trans (hb1.mono hb.size)
      have hown1 := own_below hown hb1
      have hz1' := a1.size
      have a2 := a1.alloc a1.size (.cells #[.int .i32 (r : Int), .int .i64 (z : Int)] 126)
      have hown2 := hown1.alloc (.cells #[.int .i32 (r : Int), .int .i64 (z : Int)] 126)
      have hlt := hown1.lt
      clear hb hb1 hown
      go_wp2_with (at_builtin; refine wpList_append_own _ rfl (.tmp 13) (.tmp 16) _ rfl w.heap.size 21 i0 (.int .i32 0) 1 4 Tryz.underlying66 hi0 hz0 hz1 hz2 rfl (by omega) _ acc.length (acc.map (.int .i32)) rfl (hown2.alloc _) ⟨w1.heap.size + 1, 0, none⟩ 1 1 [.int .i32 (r : Int)] rfl rfl (fun j u hu => by have := one_new (w1.alloc (.cells #[.int .i32 (r : Int), .int .i64 (z : Int)] 126)) (.int .i32 (r : Int)) 21 j u hu; simpa using this) (fun u hu => by simp at hu; subst hu; rfl) (by simp only [maxLen]; omega) (by omega) (by simp; omega) ?_; intro v4 w4 hown4 hg4 hnil4; clear hnil4; have hcz := z_after _ _ _ _ _ (fun k hk => (hlt k hk).2) hg4)
      have hb4 : Below w.heap.size w w4 := (a2.alloc a2.size _).grown hg4 (by simp; omega) (fun k hk => (hlt k hk).1)
      go_roundg (gk - 1)
      case measure => omega
      case rel => exact ⟨pos + z, f, acc ++ [(r : Int)], by go_num, by simpa using hown4, hb4, by omega, by omega, by omega, by show D = _; rw [List.append_assoc]; exact h3, by simp; omega⟩
    · rw [decF_end hp, List.append_nil] at h3
      go_wp2
      go_ret
      obtain ⟨A, c, e, hI, hl, hcap⟩ := IntsAt.of_own hown
      have hD' : D = acc := h3
      rw [hD']
      exact ⟨A, c, by rw [← e]; rfl, hb, hI, hcap⟩
end
end Go.Proofs.YtjkmkobnfhepaaaGreat
