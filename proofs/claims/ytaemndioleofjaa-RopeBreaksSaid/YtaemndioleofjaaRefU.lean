/- What the document's own answers of texts do (package bodkinref01): size, Size, one. -/
import Derived.Test.YtaemndioleofjaaEncPure
namespace Go.Proofs.Ytaemndioleofjaa
open Go.RowKit
/-- How many bytes a number that has a right encoding has; none: 0. -/
def rsz (r : Int) : Int := if hasR r then uSize r else 0
theorem rsz_no {r : Int} (h : ¬ (0 ≤ r ∧ r ≤ 1114111 ∧ (r < 55296 ∨ 57343 < r))) : rsz r = 0 := by
  unfold rsz hasR
  rw [decide_eq_false h]
  rfl
theorem rsz_yes {r : Int} (h : 0 ≤ r ∧ r ≤ 1114111 ∧ (r < 55296 ∨ 57343 < r)) : rsz r = if r < 128 then 1 else if r < 2048 then 2 else if r < 65536 then 3 else 4 := by
  unfold rsz hasR uSize Lib.encodeRuneZ
  rw [decide_eq_true h]
  simp only [if_true]
  repeat' split
  all_goals first
    | rfl
    | (exfalso; omega)
set_option maxHeartbeats 1000000 in
theorem rsize_any (r : Int) (w : World) : Calls Try.prog 52 #[.int .i32 r] w fun e w' => e = .returned (.int .i64 (rsz r)) ∧ w' = w := by
  by_cases hr : 0 ≤ r ∧ r ≤ 1114111 ∧ (r < 55296 ∨ 57343 < r)
  · have hz := rsz_yes hr
    obtain ⟨r1, r2, r3⟩ := hr
    by_cases s1 : r < 128
    · rw [if_pos s1] at hz
      have HZ := Lib.hid hz; clear hz
      have r5 : r < 55296 := by omega
      go_enter Try.func52, Try.ntmps52
      go_wp2
      go_ret
      exact ⟨ret_int HZ.out.symm, rfl⟩
    · rw [if_neg s1] at hz
      by_cases s2 : r < 2048
      · rw [if_pos s2] at hz
        have HZ := Lib.hid hz; clear hz
        have r5 : r < 55296 := by omega
        go_enter Try.func52, Try.ntmps52
        go_wp2
        go_ret
        exact ⟨ret_int HZ.out.symm, rfl⟩
      · rw [if_neg s2] at hz
        by_cases s4 : r < 55296
        · rw [if_pos (by omega)] at hz
          have HZ := Lib.hid hz; clear hz
          have s5 : r < 65536 := by omega
          go_enter Try.func52, Try.ntmps52
          go_wp2
          go_ret
          exact ⟨ret_int HZ.out.symm, rfl⟩
        · have s5 : 57343 < r := by omega
          by_cases s3 : r < 65536
          · rw [if_pos s3] at hz
            have HZ := Lib.hid hz; clear hz
            go_enter Try.func52, Try.ntmps52
            go_wp2
            go_ret
            exact ⟨ret_int HZ.out.symm, rfl⟩
          · rw [if_neg s3] at hz
            have HZ := Lib.hid hz; clear hz
            go_enter Try.func52, Try.ntmps52
            go_wp2
            go_ret
            exact ⟨ret_int HZ.out.symm, rfl⟩
  · have HZ := Lib.hid (rsz_no hr)
    by_cases r1 : r < 0
    · go_enter Try.func52, Try.ntmps52
      go_wp2
      go_ret
      exact ⟨ret_int HZ.out.symm, rfl⟩
    · by_cases r2 : 1114111 < r
      · go_enter Try.func52, Try.ntmps52
        go_wp2
        go_ret
        exact ⟨ret_int HZ.out.symm, rfl⟩
      · have r3 : 55296 ≤ r := by omega
        have r4 : r ≤ 57343 := by omega
        clear hr
        go_enter Try.func52, Try.ntmps52
        go_wp2
        go_ret
        exact ⟨ret_int HZ.out.symm, rfl⟩
theorem uSize_no {r : Int} (h : rsz r = 0) : uSize r = 3 := by
  by_cases hr : 0 ≤ r ∧ r ≤ 1114111 ∧ (r < 55296 ∨ 57343 < r)
  · have := rsz_yes hr
    rw [h] at this
    repeat' split at this
    all_goals omega
  · unfold uSize
    rw [Lib.encodeRuneZ_bad (by omega)]
    rfl
theorem uSize_has {r : Int} (h : rsz r ≠ 0) : uSize r = rsz r := by
  unfold rsz at h ⊢
  split at h
  · rename_i hh; rw [if_pos hh]
  · exact absurd rfl h
end Go.Proofs.Ytaemndioleofjaa
