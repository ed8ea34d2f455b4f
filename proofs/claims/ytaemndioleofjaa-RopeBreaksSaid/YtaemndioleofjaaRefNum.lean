/- The number that so many bytes say, as the document's own answer reckons it: the contract of bodkinref01.number. -/
import Derived.Test.YtaemndioleofjaaRefOne
import Derived.Test.YtaemndioleofjaaRefS
namespace Go.Proofs.Ytaemndioleofjaa
open Go.RowKit
/-- A text's byte, as a number. -/
def bt (t : ByteArray) (i : Nat) : Int := ((t.get! i).toNat : Int)
/-- What is taken off the first byte. -/
def offN (m : Nat) : Int := if m = 1 then 0 else if m = 2 then 192 else if m = 3 then 224 else 240
/-- The number of the first j bytes. -/
def numK (t : ByteArray) (m : Nat) : Nat → Int
  | 0 => 0
  | 1 => bt t 0 - offN m
  | j + 2 => 64 * numK t m (j + 1) + bt t (j + 1) - 128
theorem get_at (s : ByteArray) (k : Nat) (h : k < s.size) : s.get! k = s[k]'h := by
  cases s with
  | mk d => exact getElem!_pos d k h
theorem bt_at (t : ByteArray) (i : Nat) (h : i < t.size) : ((t[i]'h).toNat : Int) = bt t i := by
  unfold bt
  rw [get_at t i h]
theorem bt_bd (t : ByteArray) (i : Nat) : 0 ≤ bt t i ∧ bt t i ≤ 255 := by
  unfold bt
  have := (t.get! i).toNat_lt
  omega
theorem numK_succ (t : ByteArray) (m : Nat) {j : Nat} (h : 1 ≤ j) : numK t m (j + 1) = 64 * numK t m j + bt t j - 128 := by
  obtain ⟨k, rfl⟩ : ∃ k, j = k + 1 := ⟨j - 1, by omega⟩
  rfl
theorem numK_bd (t : ByteArray) (m : Nat) : ∀ j, 1 ≤ j → j ≤ 3 → -1100000 ≤ numK t m j ∧ numK t m j ≤ 1100000 := by
  have b0 := bt_bd t 0
  have b1 := bt_bd t 1
  have b2 := bt_bd t 2
  have ho : 0 ≤ offN m ∧ offN m ≤ 240 := by unfold offN; repeat' split
                                            all_goals omega
  intro j h1 h2
  have e1 : numK t m 1 = bt t 0 - offN m := rfl
  have e2 : numK t m 2 = 64 * numK t m 1 + bt t 1 - 128 := rfl
  have e3 : numK t m 3 = 64 * numK t m 2 + bt t 2 - 128 := rfl
  obtain rfl | rfl | rfl : j = 1 ∨ j = 2 ∨ j = 3 := by omega
  all_goals omega
set_option maxHeartbeats 1000000 in
theorem number_one (t : ByteArray) (w : World) (hm : t.size = 1) :
    Calls Try.prog 51 #[.string t] w fun e w' => e = .returned (.int .i32 (numK t 1 1)) ∧ w' = w := by
  have h0 : 0 < t.size := by omega
  have hz : (t.size : Int) = 1 := by omega
  have q := bt_at t 0 h0
  have hb := bt_bd t 0
  have hb1 : (0 : Int) ≤ ((t[0]'h0).toNat : Int) := by omega
  have hb2 : ((t[0]'h0).toNat : Int) ≤ 255 := by omega
  have HQ := Lib.hid q; clear q hb
  have e1 : numK t 1 1 = bt t 0 - 0 := rfl
  have HE := Lib.hid e1; clear e1
  go_enter Try.func51, Try.ntmps51
  go_wp2
  go_ret
  exact ⟨ret_int (by rw [HE.out, ← HQ.out]; omega), rfl⟩
set_option maxHeartbeats 1000000 in
theorem number_2 (t : ByteArray) (w : World) (hm : t.size = 2) :
    Calls Try.prog 51 #[.string t] w fun e w' => e = .returned (.int .i32 (numK t 2 2)) ∧ w' = w := by
  have h0 : 0 < t.size := by omega
  have q := bt_at t 0 h0
  have hb := bt_bd t 0
  have hb1 : (0 : Int) ≤ ((t[0]'h0).toNat : Int) := by omega
  have hb2 : ((t[0]'h0).toNat : Int) ≤ 255 := by omega
  have HQ := Lib.hid q; clear q hb
  have e1 : numK t 2 1 = bt t 0 - 192 := rfl
  have HE := Lib.hid e1; clear e1
  have HM := Lib.hid hm
  have hz : (t.size : Int) = 2 := by omega
  go_enter Try.func51, Try.ntmps51
  go_wp2
  go_loopg [3, 4] 2 (fun k v i wr => ∃ j : Nat, i = .int .i64 j ∧ v = .int .i32 (numK t 2 j) ∧ 1 ≤ j ∧ j ≤ 2 ∧ 2 - j ≤ k ∧ wr = w)
  case atStart => exact ⟨1, rfl, by rw [HE.out, ← HQ.out], by omega, by omega, by omega, rfl⟩
  case round =>
    obtain ⟨j, rfl, rfl, i0, i1, i2, rfl⟩ := hrel
    by_cases hlt : j < 2
    · have hj : j < t.size := by omega
      have hjz : (j : Int) < 2 := by omega
      have qb := bt_at t j hj
      have bb := bt_bd t j
      have k1 : (0 : Int) ≤ ((t[j]'hj).toNat : Int) := by omega
      have k2 : ((t[j]'hj).toNat : Int) ≤ 255 := by omega
      have hbd := numK_bd t 2 j i0 (by omega)
      have hns := numK_succ t 2 i0
      have HN := Lib.hid hns; clear hns
      have HB := Lib.hid qb; clear qb bb
      obtain ⟨d1, d2⟩ := hbd
      generalize numK t 2 j = v at *
      go_wp2
      go_roundg (gk - 1)
      case measure => omega
      case rel => exact ⟨j + 1, by go_num, by rw [HN.out, ← HB.out], by omega, by omega, by omega, rfl⟩
    · have hj : j = 2 := by omega
      subst hj
      go_wp2
      go_ret
      exact ⟨rfl, rfl⟩
set_option maxHeartbeats 1000000 in
theorem number_3 (t : ByteArray) (w : World) (hm : t.size = 3) :
    Calls Try.prog 51 #[.string t] w fun e w' => e = .returned (.int .i32 (numK t 3 3)) ∧ w' = w := by
  have h0 : 0 < t.size := by omega
  have q := bt_at t 0 h0
  have hb := bt_bd t 0
  have hb1 : (0 : Int) ≤ ((t[0]'h0).toNat : Int) := by omega
  have hb2 : ((t[0]'h0).toNat : Int) ≤ 255 := by omega
  have HQ := Lib.hid q; clear q hb
  have e1 : numK t 3 1 = bt t 0 - 224 := rfl
  have HE := Lib.hid e1; clear e1
  have HM := Lib.hid hm
  have hz : (t.size : Int) = 3 := by omega
  go_enter Try.func51, Try.ntmps51
  go_wp2
  go_loopg [3, 4] 3 (fun k v i wr => ∃ j : Nat, i = .int .i64 j ∧ v = .int .i32 (numK t 3 j) ∧ 1 ≤ j ∧ j ≤ 3 ∧ 3 - j ≤ k ∧ wr = w)
  case atStart => exact ⟨1, rfl, by rw [HE.out, ← HQ.out], by omega, by omega, by omega, rfl⟩
  case round =>
    obtain ⟨j, rfl, rfl, i0, i1, i2, rfl⟩ := hrel
    by_cases hlt : j < 3
    · have hj : j < t.size := by omega
      have hjz : (j : Int) < 3 := by omega
      have qb := bt_at t j hj
      have bb := bt_bd t j
      have k1 : (0 : Int) ≤ ((t[j]'hj).toNat : Int) := by omega
      have k2 : ((t[j]'hj).toNat : Int) ≤ 255 := by omega
      have hbd := numK_bd t 3 j i0 (by omega)
      have hns := numK_succ t 3 i0
      have HN := Lib.hid hns; clear hns
      have HB := Lib.hid qb; clear qb bb
      obtain ⟨d1, d2⟩ := hbd
      generalize numK t 3 j = v at *
      go_wp2
      go_roundg (gk - 1)
      case measure => omega
      case rel => exact ⟨j + 1, by go_num, by rw [HN.out, ← HB.out], by omega, by omega, by omega, rfl⟩
    · have hj : j = 3 := by omega
      subst hj
      go_wp2
      go_ret
      exact ⟨rfl, rfl⟩
set_option maxHeartbeats 1000000 in
theorem number_4 (t : ByteArray) (w : World) (hm : t.size = 4) :
    Calls Try.prog 51 #[.string t] w fun e w' => e = .returned (.int .i32 (numK t 4 4)) ∧ w' = w := by
  have h0 : 0 < t.size := by omega
  have q := bt_at t 0 h0
  have hb := bt_bd t 0
  have hb1 : (0 : Int) ≤ ((t[0]'h0).toNat : Int) := by omega
  have hb2 : ((t[0]'h0).toNat : Int) ≤ 255 := by omega
  have HQ := Lib.hid q; clear q hb
  have e1 : numK t 4 1 = bt t 0 - 240 := rfl
  have HE := Lib.hid e1; clear e1
  have HM := Lib.hid hm
  have hz : (t.size : Int) = 4 := by omega
  go_enter Try.func51, Try.ntmps51
  go_wp2
  go_loopg [3, 4] 4 (fun k v i wr => ∃ j : Nat, i = .int .i64 j ∧ v = .int .i32 (numK t 4 j) ∧ 1 ≤ j ∧ j ≤ 4 ∧ 4 - j ≤ k ∧ wr = w)
  case atStart => exact ⟨1, rfl, by rw [HE.out, ← HQ.out], by omega, by omega, by omega, rfl⟩
  case round =>
    obtain ⟨j, rfl, rfl, i0, i1, i2, rfl⟩ := hrel
    by_cases hlt : j < 4
    · have hj : j < t.size := by omega
      have hjz : (j : Int) < 4 := by omega
      have qb := bt_at t j hj
      have bb := bt_bd t j
      have k1 : (0 : Int) ≤ ((t[j]'hj).toNat : Int) := by omega
      have k2 : ((t[j]'hj).toNat : Int) ≤ 255 := by omega
      have hbd := numK_bd t 4 j i0 (by omega)
      have hns := numK_succ t 4 i0
      have HN := Lib.hid hns; clear hns
      have HB := Lib.hid qb; clear qb bb
      obtain ⟨d1, d2⟩ := hbd
      generalize numK t 4 j = v at *
      go_wp2
      go_roundg (gk - 1)
      case measure => omega
      case rel => exact ⟨j + 1, by go_num, by rw [HN.out, ← HB.out], by omega, by omega, by omega, rfl⟩
    · have hj : j = 4 := by omega
      subst hj
      go_wp2
      go_ret
      exact ⟨rfl, rfl⟩
end Go.Proofs.Ytaemndioleofjaa
