/- What the document's own answers of texts do (package bodkinref01): size, Size, one. The right encoding of a number, as the document's own answer writes it: the contract of bodkinref01.one. The number that so many bytes say, as the document's own answer reckons it: the contract of bodkinref01.number. -/
import Derived.Test.YtaemndioleofjaaGreatEncPure
import Derived.Laws.BytesArg
namespace Go.Proofs.YtaemndioleofjaaGreat
open Go.RowKit
/-- How many bytes a number that has a right encoding has; none: 0. -/
def rsz (r : Int) : Int := if hasR r then uSize r else 0
theorem rsz_no {r : Int} (h : ¬ (0 ≤ r ∧ r ≤ 1114111 ∧ (r < 55296 ∨ 57343 < r))) : rsz r = 0 := by
  unfold rsz hasR
  rw [decide_eq_false h]
  rfl
theorem rsz_yes {r : Int} (h : 0 ≤ r ∧ r ≤ 1114111 ∧ (r < 55296 ∨ 57343 < r)) : rsz r = if r < 128 then 1 else if r < 2048 then 2 else if r < 65536 then 3 else 4 := by
  unfold rsz hasR uSize Lib.encodeRuneZ
  rw [decide_eq_true h]
  simp only [if_true]
  repeat' split
  all_goals first
    | rfl
    | (exfalso; omega)
set_option maxHeartbeats 1000000 in
theorem rsize_any (r : Int) (w : World) : Calls Tryz.prog 52 #[.int .i32 r] w fun e w' => e = .returned (.int .i64 (rsz r)) ∧ w' = w := by
  by_cases hr : 0 ≤ r ∧ r ≤ 1114111 ∧ (r < 55296 ∨ 57343 < r)
  · have hz := rsz_yes hr
    obtain ⟨r1, r2, r3⟩ := hr
    by_cases s1 : r < 128
    · rw [if_pos s1] at hz
      have HZ := Lib.hid hz; clear hz
      have r5 : r < 55296 := by omega
      go_enter Tryz.func52, Tryz.ntmps52
      go_wp2
      go_ret
      exact ⟨ret_int HZ.out.symm, rfl⟩
    · rw [if_neg s1] at hz
      by_cases s2 : r < 2048
      · rw [if_pos s2] at hz
        have HZ := Lib.hid hz; clear hz
        have r5 : r < 55296 := by omega
        go_enter Tryz.func52, Tryz.ntmps52
        go_wp2
        go_ret
        exact ⟨ret_int HZ.out.symm, rfl⟩
      · rw [if_neg s2] at hz
        by_cases s4 : r < 55296
        · rw [if_pos (by omega)] at hz
          have HZ := Lib.hid hz; clear hz
          have s5 : r < 65536 := by omega
          go_enter Tryz.func52, Tryz.ntmps52
          go_wp2
          go_ret
          exact ⟨ret_int HZ.out.symm, rfl⟩
        · have s5 : 57343 < r := by omega
          by_cases s3 : r < 65536
          · rw [if_pos s3] at hz
            have HZ := Lib.hid hz; clear hz
            go_enter Tryz.func52, Tryz.ntmps52
            go_wp2
            go_ret
            exact ⟨ret_int HZ.out.symm, rfl⟩
          · rw [if_neg s3] at hz
            have HZ := Lib.hid hz; clear hz
            go_enter Tryz.func52, Tryz.ntmps52
            go_wp2
            go_ret
            exact ⟨ret_int HZ.out.symm, rfl⟩
  · have HZ := Lib.hid (rsz_no hr)
    by_cases r1 : r < 0
    · go_enter Tryz.func52, Tryz.ntmps52
      go_wp2
      go_ret
      exact ⟨ret_int HZ.out.symm, rfl⟩
    · by_cases r2 : 1114111 < r
      · go_enter Tryz.func52, Tryz.ntmps52
        go_wp2
        go_ret
        exact ⟨ret_int HZ.out.symm, rfl⟩
      · have r3 : 55296 ≤ r := by omega
        have r4 : r ≤ 57343 := by omega
        clear hr
        go_enter Tryz.func52, Tryz.ntmps52
        go_wp2
        go_ret
        exact ⟨ret_int HZ.out.symm, rfl⟩
theorem uSize_no {r : Int} (h : rsz r = 0) : uSize r = 3 := by
  by_cases hr : 0 ≤ r ∧ r ≤ 1114111 ∧ (r < 55296 ∨ 57343 < r)
  · have := rsz_yes hr
    rw [h] at this
    repeat' split at this
    all_goals omega
  · unfold uSize
    rw [Lib.encodeRuneZ_bad (by omega)]
    rfl
theorem uSize_has {r : Int} (h : rsz r ≠ 0) : uSize r = rsz r := by
  unfold rsz at h ⊢
  split at h
  · rename_i hh; rw [if_pos hh]
  · exact absurd rfl h
/-- Bytes just laid, turned into a text. -/
theorem conv_new (w : World) (xs : List Int) (n c : Nat) (hn : xs.length = n) :
    (convert 114 9 (.slice (some ⟨w.heap.size, 0, none⟩) n c)).run Tryz.prog (w.alloc (.cells (xs.map (Value.int .u8)).toArray 5)) = .ok (.string (strOfNums xs)) (w.alloc (.cells (xs.map (Value.int .u8)).toArray 5)) :=
  run_convert_bytes_arg _ 114 5 Tryz.underlying114 Tryz.underlying5 w.heap.size 0 n c xs hn (fun i hi => by
    rw [cell_of_row _ _ _ _ 5 _ (heap_alloc_new w _), ← Array.getElem?_toList, Nat.zero_add]
    have hi' : i < xs.length := by omega
    simp [List.getD, hi']) 9 Tryz.underlying9
theorem str_enc {r : Int} {xs : List Int} (h : Lib.encodeRuneZ r = xs) : Ending.returned (.string (strOfNums xs)) = .returned (.string ⟨(Lib.encodeRune r).toArray⟩) := by
  subst h
  rfl
set_option maxHeartbeats 1000000 in
theorem one_1 (r : Int) (w : World) (h0 : 0 ≤ r) (h1 : r < 128) :
    Calls Tryz.prog 53 #[.int .i32 r, .int .i64 1] w fun e w' => e = .returned (.string ⟨(Lib.encodeRune r).toArray⟩) ∧ Below w.heap.size w w' := by
  have e1 := conv_new w [r] 1 1 rfl
  simp only [List.map_cons, List.map_nil] at e1
  have HE := Lib.hid (Lib.encodeRuneZ_one (r := r) h0 (by omega))
  go_enter Tryz.func53, Tryz.ntmps53
  go_wp2
  go_ret
  exact ⟨str_enc HE.out, (Below.refl _ _).alloc (Nat.le_refl _) _⟩
set_option maxHeartbeats 1000000 in
theorem one_2 (r : Int) (w : World) (h0 : 128 ≤ r) (h1 : r < 2048) :
    Calls Tryz.prog 53 #[.int .i32 r, .int .i64 2] w fun e w' => e = .returned (.string ⟨(Lib.encodeRune r).toArray⟩) ∧ Below w.heap.size w w' := by
  have e1 := conv_new w [192 + r / 64, 128 + r % 64] 2 2 rfl
  simp only [List.map_cons, List.map_nil] at e1
  have HE := Lib.hid (Lib.encodeRuneZ_two (r := r) h0 (by omega))
  have h2 : 0 ≤ r := by omega
  go_enter Tryz.func53, Tryz.ntmps53
  go_wp2
  go_ret
  exact ⟨str_enc HE.out, (Below.refl _ _).alloc (Nat.le_refl _) _⟩
set_option maxHeartbeats 1000000 in
theorem one_3 (r : Int) (w : World) (h0 : 2048 ≤ r) (h1 : r < 65536) (hs : r < 55296 ∨ 57343 < r) :
    Calls Tryz.prog 53 #[.int .i32 r, .int .i64 3] w fun e w' => e = .returned (.string ⟨(Lib.encodeRune r).toArray⟩) ∧ Below w.heap.size w w' := by
  have e1 := conv_new w [224 + r / 4096, 128 + r / 64 % 64, 128 + r % 64] 3 3 rfl
  simp only [List.map_cons, List.map_nil] at e1
  have HE := Lib.hid (Lib.encodeRuneZ_three (r := r) (by omega))
  have h2 : 0 ≤ r := by omega
  clear hs
  go_enter Tryz.func53, Tryz.ntmps53
  go_wp2
  go_ret
  exact ⟨str_enc HE.out, (Below.refl _ _).alloc (Nat.le_refl _) _⟩
set_option maxHeartbeats 1000000 in
theorem one_4 (r : Int) (w : World) (h0 : 65536 ≤ r) (h1 : r ≤ 1114111) :
    Calls Tryz.prog 53 #[.int .i32 r, .int .i64 4] w fun e w' => e = .returned (.string ⟨(Lib.encodeRune r).toArray⟩) ∧ Below w.heap.size w w' := by
  have e1 := conv_new w [240 + r / 262144, 128 + r / 4096 % 64, 128 + r / 64 % 64, 128 + r % 64] 4 4 rfl
  simp only [List.map_cons, List.map_nil] at e1
  have HE := Lib.hid (Lib.encodeRuneZ_four (r := r) h0 h1)
  have h2 : 0 ≤ r := by omega
  go_enter Tryz.func53, Tryz.ntmps53
  go_wp2
  go_ret
  exact ⟨str_enc HE.out, (Below.refl _ _).alloc (Nat.le_refl _) _⟩
theorem one_any (r n : Int) (w : World) (h : rsz r = n) (hn : n ≠ 0) :
    Calls Tryz.prog 53 #[.int .i32 r, .int .i64 n] w fun e w' => e = .returned (.string ⟨(Lib.encodeRune r).toArray⟩) ∧ Below w.heap.size w w' := by
  by_cases hr : 0 ≤ r ∧ r ≤ 1114111 ∧ (r < 55296 ∨ 57343 < r)
  · have hz := rsz_yes hr
    rw [h] at hz
    subst hz
    split
    · exact one_1 r w hr.1 (by assumption)
    · split
      · exact one_2 r w (by omega) (by assumption)
      · split
        · exact one_3 r w (by omega) (by assumption) hr.2.2
        · exact one_4 r w (by omega) hr.2.1
  · exact absurd (h.symm.trans (rsz_no hr)) hn
/-- A text's byte, as a number. -/
def bt (t : ByteArray) (i : Nat) : Int := ((t.get! i).toNat : Int)
/-- What is taken off the first byte. -/
def offN (m : Nat) : Int := if m = 1 then 0 else if m = 2 then 192 else if m = 3 then 224 else 240
/-- The number of the first j bytes. -/
def numK (t : ByteArray) (m : Nat) : Nat → Int
  | 0 => 0
  | 1 => bt t 0 - offN m
  | j + 2 => 64 * numK t m (j + 1) + bt t (j + 1) - 128
theorem get_at (s : ByteArray) (k : Nat) (h : k < s.size) : s.get! k = s[k]'h := by
  cases s with
  | mk d => exact getElem!_pos d k h
theorem bt_at (t : ByteArray) (i : Nat) (h : i < t.size) : ((t[i]'h).toNat : Int) = bt t i := by
  unfold bt
  rw [get_at t i h]
theorem bt_bd (t : ByteArray) (i : Nat) : 0 ≤ bt t i ∧ bt t i ≤ 255 := by
  unfold bt
  have := (t.get! i).toNat_lt
  omega
theorem numK_succ (t : ByteArray) (m : Nat) {j : Nat} (h : 1 ≤ j) : numK t m (j + 1) = 64 * numK t m j + bt t j - 128 := by
  obtain ⟨k, rfl⟩ : ∃ k, j = k + 1 := ⟨j - 1, by omega⟩
  rfl
theorem numK_bd (t : ByteArray) (m : Nat) : ∀ j, 1 ≤ j → j ≤ 3 → -1100000 ≤ numK t m j ∧ numK t m j ≤ 1100000 := by
  have b0 := bt_bd t 0
  have b1 := bt_bd t 1
  have b2 := bt_bd t 2
  have ho : 0 ≤ offN m ∧ offN m ≤ 240 := by unfold offN; repeat' split
                                            all_goals omega
  intro j h1 h2
  have e1 : numK t m 1 = bt t 0 - offN m := rfl
  have e2 : numK t m 2 = 64 * numK t m 1 + bt t 1 - 128 := rfl
  have e3 : numK t m 3 = 64 * numK t m 2 + bt t 2 - 128 := rfl
  obtain rfl | rfl | rfl : j = 1 ∨ j = 2 ∨ j = 3 := by omega
  all_goals omega
set_option maxHeartbeats 1000000 in
theorem number_one (t : ByteArray) (w : World) (hm : t.size = 1) :
    Calls Tryz.prog 61 #[.string t] w fun e w' => e = .returned (.int .i32 (numK t 1 1)) ∧ w' = w := by
  have h0 : 0 < t.size := by omega
  have hz : (t.size : Int) = 1 := by omega
  have q := bt_at t 0 h0
  have hb := bt_bd t 0
  have hb1 : (0 : Int) ≤ ((t[0]'h0).toNat : Int) := by omega
  have hb2 : ((t[0]'h0).toNat : Int) ≤ 255 := by omega
  have HQ := Lib.hid q; clear q hb
  have e1 : numK t 1 1 = bt t 0 - 0 := rfl
  have HE := Lib.hid e1; clear e1
  go_enter Tryz.func61, Tryz.ntmps61
  go_wp2
  go_ret
  exact ⟨ret_int (by rw [HE.out, ← HQ.out]; omega), rfl⟩
set_option maxHeartbeats 1000000 in
theorem number_2 (t : ByteArray) (w : World) (hm : t.size = 2) :
    Calls Tryz.prog 61 #[.string t] w fun e w' => e = .returned (.int .i32 (numK t 2 2)) ∧ w' = w := by
  have h0 : 0 < t.size := by omega
  have q := bt_at t 0 h0
  have hb := bt_bd t 0
  have hb1 : (0 : Int) ≤ ((t[0]'h0).toNat : Int) := by omega
  have hb2 : ((t[0]'h0).toNat : Int) ≤ 255 := by omega
  have HQ := Lib.hid q; clear q hb
  have e1 : numK t 2 1 = bt t 0 - 192 := rfl
  have HE := Lib.hid e1; clear e1
  have HM := Lib.hid hm
  have hz : (t.size : Int) = 2 := by omega
  go_enter Tryz.func61, Tryz.ntmps61
  go_wp2
  go_loopg [3, 4] 2 (fun k v i wr => ∃ j : Nat, i = .int .i64 j ∧ v = .int .i32 (numK t 2 j) ∧ 1 ≤ j ∧ j ≤ 2 ∧ 2 - j ≤ k ∧ wr = w)
  case atStart => exact ⟨1, rfl, by rw [HE.out, ← HQ.out], by omega, by omega, by omega, rfl⟩
  case round =>
    obtain ⟨j, rfl, rfl, i0, i1, i2, rfl⟩ := hrel
    by_cases hlt : j < 2
    · have hj : j < t.size := by omega
      have hjz : (j : Int) < 2 := by omega
      have qb := bt_at t j hj
      have bb := bt_bd t j
      have k1 : (0 : Int) ≤ ((t[j]'hj).toNat : Int) := by omega
      have k2 : ((t[j]'hj).toNat : Int) ≤ 255 := by omega
      have hbd := numK_bd t 2 j i0 (by omega)
      have hns := numK_succ t 2 i0
      have HN := Lib.hid hns; clear hns
      have HB := Lib.hid qb; clear qb bb
      obtain ⟨d1, d2⟩ := hbd
      generalize numK t 2 j = v at *
      go_wp2
      go_roundg (gk - 1)
      case measure => omega
      case rel => exact ⟨j + 1, by go_num, by rw [HN.out, ← HB.out], by omega, by omega, by omega, rfl⟩
    · have hj : j = 2 := by omega
      subst hj
      go_wp2
      go_ret
      exact ⟨rfl, rfl⟩
set_option maxHeartbeats 1000000 in
theorem number_3 (t : ByteArray) (w : World) (hm : t.size = 3) :
    Calls Tryz.prog 61 #[.string t] w fun e w' => e = .returned (.int .i32 (numK t 3 3)) ∧ w' = w := by
  have h0 : 0 < t.size := by omega
  have q := bt_at t 0 h0
  have hb := bt_bd t 0
  have hb1 : (0 : Int) ≤ ((t[0]'h0).toNat : Int) := by omega
  have hb2 : ((t[0]'h0).toNat : Int) ≤ 255 := by omega
  have HQ := Lib.hid q; clear q hb
  have e1 : numK t 3 1 = bt t 0 - 224 := rfl
  have HE := Lib.hid e1; clear e1
  have HM := Lib.hid hm
  have hz : (t.size : Int) = 3 := by omega
  go_enter Tryz.func61, Tryz.ntmps61
  go_wp2
  go_loopg [3, 4] 3 (fun k v i wr => ∃ j : Nat, i = .int .i64 j ∧ v = .int .i32 (numK t 3 j) ∧ 1 ≤ j ∧ j ≤ 3 ∧ 3 - j ≤ k ∧ wr = w)
  case atStart => exact ⟨1, rfl, by rw [HE.out, ← HQ.out], by omega, by omega, by omega, rfl⟩
  case round =>
    obtain ⟨j, rfl, rfl, i0, i1, i2, rfl⟩ := hrel
    by_cases hlt : j < 3
    · have hj : j < t.size := by omega
      have hjz : (j : Int) < 3 := by omega
      have qb := bt_at t j hj
      have bb := bt_bd t j
      have k1 : (0 : Int) ≤ ((t[j]'hj).toNat : Int) := by omega
      have k2 : ((t[j]'hj).toNat : Int) ≤ 255 := by omega
      have hbd := numK_bd t 3 j i0 (by omega)
      have hns := numK_succ t 3 i0
      have HN := Lib.hid hns; clear hns
      have HB := Lib.hid qb; clear qb bb
      obtain ⟨d1, d2⟩ := hbd
      generalize numK t 3 j = v at *
      go_wp2
      go_roundg (gk - 1)
      case measure => omega
      case rel => exact ⟨j + 1, by go_num, by rw [HN.out, ← HB.out], by omega, by omega, by omega, rfl⟩
    · have hj : j = 3 := by omega
      subst hj
      go_wp2
      go_ret
      exact ⟨rfl, rfl⟩
set_option maxHeartbeats 1000000 in
theorem number_4 (t : ByteArray) (w : World) (hm : t.size = 4) :
    Calls Tryz.prog 61 #[.string t] w fun e w' => e = .returned (.int .i32 (numK t 4 4)) ∧ w' = w := by
  have h0 : 0 < t.size := by omega
  have q := bt_at t 0 h0
  have hb := bt_bd t 0
  have hb1 : (0 : Int) ≤ ((t[0]'h0).toNat : Int) := by omega
  have hb2 : ((t[0]'h0).toNat : Int) ≤ 255 := by omega
  have HQ := Lib.hid q; clear q hb
  have e1 : numK t 4 1 = bt t 0 - 240 := rfl
  have HE := Lib.hid e1; clear e1
  have HM := Lib.hid hm
  have hz : (t.size : Int) = 4 := by omega
  go_enter Tryz.func61, Tryz.ntmps61
  go_wp2
  go_loopg [3, 4] 4 (fun k v i wr => ∃ j : Nat, i = .int .i64 j ∧ v = .int .i32 (numK t 4 j) ∧ 1 ≤ j ∧ j ≤ 4 ∧ 4 - j ≤ k ∧ wr = w)
  case atStart => exact ⟨1, rfl, by rw [HE.out, ← HQ.out], by omega, by omega, by omega, rfl⟩
  case round =>
    obtain ⟨j, rfl, rfl, i0, i1, i2, rfl⟩ := hrel
    by_cases hlt : j < 4
    · have hj : j < t.size := by omega
      have hjz : (j : Int) < 4 := by omega
      have qb := bt_at t j hj
      have bb := bt_bd t j
      have k1 : (0 : Int) ≤ ((t[j]'hj).toNat : Int) := by omega
      have k2 : ((t[j]'hj).toNat : Int) ≤ 255 := by omega
      have hbd := numK_bd t 4 j i0 (by omega)
      have hns := numK_succ t 4 i0
      have HN := Lib.hid hns; clear hns
      have HB := Lib.hid qb; clear qb bb
      obtain ⟨d1, d2⟩ := hbd
      generalize numK t 4 j = v at *
      go_wp2
      go_roundg (gk - 1)
      case measure => omega
      case rel => exact ⟨j + 1, by go_num, by rw [HN.out, ← HB.out], by omega, by omega, by omega, rfl⟩
    · have hj : j = 4 := by omega
      subst hj
      go_wp2
      go_ret
      exact ⟨rfl, rfl⟩
end Go.Proofs.YtaemndioleofjaaGreat
