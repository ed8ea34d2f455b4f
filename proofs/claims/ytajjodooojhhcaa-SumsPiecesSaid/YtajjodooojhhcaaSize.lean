/- How many bytes a rune has: the contracts of the library's RuneLen and of utf.Size. -/
import Derived.Test.YtajjodooojhhcaaEncPure
namespace Go.Proofs.Ytajjodooojhhcaa
open Go.RowKit
set_option maxHeartbeats 1000000 in
theorem runeLen_any (r : Int) (w : World) : Calls Try.prog 34 #[.int .i32 r] w fun e w' => e = .returned (.int .i64 (Lib.runeLen r)) ∧ w' = w := by
  by_cases s0 : r < 0
  · have HZ := Lib.hid (show Lib.runeLen r = -1 from by unfold Lib.runeLen; (repeat' split) <;> first | rfl | omega)
    go_enter Try.func34, Try.ntmps34
    go_wp2
    go_ret
    exact ⟨ret_int HZ.out.symm, rfl⟩
  · have n0 := s0
    by_cases s1 : r ≤ 127
    · have HZ := Lib.hid (show Lib.runeLen r = 1 from by unfold Lib.runeLen; (repeat' split) <;> first | rfl | omega)
      go_enter Try.func34, Try.ntmps34
      go_wp2
      go_ret
      exact ⟨ret_int HZ.out.symm, rfl⟩
    · have n1 := s1
      by_cases s2 : r ≤ 2047
      · have HZ := Lib.hid (show Lib.runeLen r = 2 from by unfold Lib.runeLen; (repeat' split) <;> first | rfl | omega)
        go_enter Try.func34, Try.ntmps34
        go_wp2
        go_ret
        exact ⟨ret_int HZ.out.symm, rfl⟩
      · have n2 := s2
        by_cases s3 : r < 55296
        · have HZ := Lib.hid (show Lib.runeLen r = 3 from by unfold Lib.runeLen; (repeat' split) <;> first | rfl | omega)
          go_enter Try.func34, Try.ntmps34
          go_wp2
          go_ret
          exact ⟨ret_int HZ.out.symm, rfl⟩
        · have n3 := s3
          by_cases s4 : r ≤ 57343
          · have HZ := Lib.hid (show Lib.runeLen r = -1 from by unfold Lib.runeLen; (repeat' split) <;> first | rfl | omega)
            go_enter Try.func34, Try.ntmps34
            go_wp2
            go_ret
            exact ⟨ret_int HZ.out.symm, rfl⟩
          · have n4 := s4
            by_cases s5 : r ≤ 65535
            · have HZ := Lib.hid (show Lib.runeLen r = 3 from by unfold Lib.runeLen; (repeat' split) <;> first | rfl | omega)
              go_enter Try.func34, Try.ntmps34
              go_wp2
              go_ret
              exact ⟨ret_int HZ.out.symm, rfl⟩
            · have n5 := s5
              by_cases s6 : r ≤ 1114111
              · have HZ := Lib.hid (show Lib.runeLen r = 4 from by unfold Lib.runeLen; (repeat' split) <;> first | rfl | omega)
                go_enter Try.func34, Try.ntmps34
                go_wp2
                go_ret
                exact ⟨ret_int HZ.out.symm, rfl⟩
              · have n6 := s6
                have HZ := Lib.hid (show Lib.runeLen r = -1 from by unfold Lib.runeLen; (repeat' split) <;> first | rfl | omega)
                go_enter Try.func34, Try.ntmps34
                go_wp2
                go_ret
                exact ⟨ret_int HZ.out.symm, rfl⟩
set_option maxHeartbeats 400000 in
theorem size_same (r : Int) (w : World) : Calls Try.prog 28 #[.int .i32 r] w fun e w' => e = .returned (.int .i64 (uSize r)) ∧ w' = w := by
  have h1 := uSize_len r
  have h2 := uSize_bad r
  generalize hx : Lib.runeLen r = x at *
  have HX := Lib.hid hx; clear hx
  have H1 := Lib.hid h1; clear h1
  have H2 := Lib.hid h2; clear h2
  by_cases hp : 0 < x
  · go_enter Try.func28, Try.ntmps28
    go_wp2_with fail
    refine (runeLen_any r _).mono ?_
    rintro e w1 ⟨rfl, rfl⟩
    rw [HX.out]
    go_wp2_with fail
    go_ret
    exact ⟨ret_int (H1.out hp).symm, rfl⟩
  · go_enter Try.func28, Try.ntmps28
    go_wp2_with fail
    refine (runeLen_any r _).mono ?_
    rintro e w1 ⟨rfl, rfl⟩
    rw [HX.out]
    go_wp2_with fail
    refine (runeLen_any 65533 _).mono ?_
    rintro e w1 ⟨rfl, rfl⟩
    rw [show Lib.runeLen 65533 = 3 from by decide]
    go_wp2_with fail
    go_ret
    exact ⟨ret_int (H2.out hp).symm, rfl⟩
theorem size_any (r : Int) (w : World) : Calls Try.prog 28 #[.int .i32 r] w fun e w' => e = .returned (.int .i64 (uSize r)) ∧ Below w.heap.size w w' := by
  refine (size_same r w).mono ?_
  rintro e w' ⟨rfl, rfl⟩
  exact ⟨rfl, Below.refl _ _⟩
end Go.Proofs.Ytajjodooojhhcaa
