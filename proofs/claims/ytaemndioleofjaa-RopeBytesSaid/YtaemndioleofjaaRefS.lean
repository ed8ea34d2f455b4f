/- The contract of bodkinref01.Size. -/
import Derived.Test.YtaemndioleofjaaRefU
namespace Go.Proofs.Ytaemndioleofjaa
open Go.RowKit
set_option maxHeartbeats 400000 in
theorem rSize_any (r : Int) (w : World) : Calls Try.prog 30 #[.int .i32 r] w fun e w' => e = .returned (.int .i64 (uSize r)) ∧ w' = w := by
  have h1 := uSize_no (r := r)
  have h2 := uSize_has (r := r)
  have C := Lib.hid (rsize_any r w)
  generalize rsz r = x at *
  by_cases hx : x = 0
  · have H1 := Lib.hid (h1 hx); clear h1 h2
    subst hx
    go_enter Try.func30, Try.ntmps30
    go_wp2_with fail
    refine C.out.mono ?_
    rintro e w1 ⟨rfl, rfl⟩
    go_wp2_with fail
    go_ret
    exact ⟨ret_int H1.out.symm, rfl⟩
  · have H2 := Lib.hid (h2 hx); clear h1 h2
    have hb : (x == 0) = false := by simpa using hx
    go_enter Try.func30, Try.ntmps30
    go_wp2_with fail
    refine C.out.mono ?_
    rintro e w1 ⟨rfl, rfl⟩
    go_wp2_with fail
    go_ret
    exact ⟨ret_int H2.out.symm, rfl⟩
end Go.Proofs.Ytaemndioleofjaa
