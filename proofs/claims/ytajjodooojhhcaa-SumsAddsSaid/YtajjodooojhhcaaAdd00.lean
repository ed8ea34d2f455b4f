/- The sum of two sums, where the first one has a break and the second one one: a part of the contract of sums.Add. -/
import Derived.Test.YtajjodooojhhcaaOf
import Derived.RegionTactic
import Derived.ChangeAlike
namespace Go.Proofs.Ytajjodooojhhcaa
open Go.RowKit
set_option linter.unusedVariables false
set_option maxHeartbeats 4000000 in
set_option maxRecDepth 100000 in
theorem add00_11 (aby aru abr afi ala alo arw bby bru bbr bfi bla blo brw : Int) (w : World) (a1 : 0 ≤ aby) (a2 : aby ≤ 1000000000) (a3 : 0 ≤ aru) (a4 : aru ≤ 1000000000) (a5 : 0 ≤ ala) (a6 : ala ≤ 1000000000)
    (b1 : 0 ≤ bby) (b2 : bby ≤ 1000000000) (b3 : 0 ≤ bru) (b4 : bru ≤ 1000000000) (b5 : 0 ≤ bfi) (b6 : bfi ≤ 1000000000) (b7 : 0 ≤ brw) (b8 : brw ≤ 1000000000) (h2 : 0 ≤ abr) (h2u : abr ≤ 1000000000) (k1 : (abr == 0) = false) (h3 : 0 ≤ bbr) (h3u : bbr ≤ 1000000000) (k2 : (bbr == 0) = false) (k3 : alo < ala + bfi) (k4 : ala + bfi < blo) :
    Calls Try.prog 16 #[.agg (qcs ⟨aby, aru, abr, afi, ala, alo, arw⟩), .agg (qcs ⟨bby, bru, bbr, bfi, bla, blo, brw⟩)] w fun e w' => e = .returned (qv (qadd ⟨aby, aru, abr, afi, ala, alo, arw⟩ ⟨bby, bru, bbr, bfi, bla, blo, brw⟩)) ∧ Below w.heap.size w w' := by
  have HV := Lib.hid (show qadd ⟨aby, aru, abr, afi, ala, alo, arw⟩ ⟨bby, bru, bbr, bfi, bla, blo, brw⟩ = ⟨aby + bby, aru + bru, abr + bbr, afi, bla, blo, abr + brw⟩ from by have n1 : abr ≠ 0 := (by simpa using k1); have n2 : bbr ≠ 0 := (by simpa using k2); have n3 : alo < ala + bfi := k3; have n4 : ala + bfi < blo := k4; simp [qadd, qlo, n1, n2, n3, n4])
  simp only [qcs]
  go_enter Try.func16, Try.ntmps16
  go_wp2
  go_region
  all_goals go_wp2
  all_goals go_region
  all_goals go_wp2
  all_goals refine bodyPost_ret (v := qv ⟨aby + bby, aru + bru, abr + bbr, afi, bla, blo, abr + brw⟩) (by simp [results, Try.results16, go_sem, qv, qcs]) rfl ⟨by rw [HV.out], ?_⟩
  all_goals ((repeat' (first | (with_reducible exact Below.refl _ _) | (with_reducible refine Below.setCell ?_ ?_ _) | (with_reducible refine Below.drew ?_) | (with_reducible refine Below.alloc ?_ ?_ _))) <;> first | exact Nat.le_refl _ | (simp; done) | (simp; omega))
set_option maxHeartbeats 4000000 in
set_option maxRecDepth 100000 in
theorem add00_10 (aby aru abr afi ala alo arw bby bru bbr bfi bla blo brw : Int) (w : World) (a1 : 0 ≤ aby) (a2 : aby ≤ 1000000000) (a3 : 0 ≤ aru) (a4 : aru ≤ 1000000000) (a5 : 0 ≤ ala) (a6 : ala ≤ 1000000000)
    (b1 : 0 ≤ bby) (b2 : bby ≤ 1000000000) (b3 : 0 ≤ bru) (b4 : bru ≤ 1000000000) (b5 : 0 ≤ bfi) (b6 : bfi ≤ 1000000000) (b7 : 0 ≤ brw) (b8 : brw ≤ 1000000000) (h2 : 0 ≤ abr) (h2u : abr ≤ 1000000000) (k1 : (abr == 0) = false) (h3 : 0 ≤ bbr) (h3u : bbr ≤ 1000000000) (k2 : (bbr == 0) = false) (k3 : alo < ala + bfi) (k4 : blo ≤ ala + bfi) :
    Calls Try.prog 16 #[.agg (qcs ⟨aby, aru, abr, afi, ala, alo, arw⟩), .agg (qcs ⟨bby, bru, bbr, bfi, bla, blo, brw⟩)] w fun e w' => e = .returned (qv (qadd ⟨aby, aru, abr, afi, ala, alo, arw⟩ ⟨bby, bru, bbr, bfi, bla, blo, brw⟩)) ∧ Below w.heap.size w w' := by
  have HV := Lib.hid (show qadd ⟨aby, aru, abr, afi, ala, alo, arw⟩ ⟨bby, bru, bbr, bfi, bla, blo, brw⟩ = ⟨aby + bby, aru + bru, abr + bbr, afi, bla, ala + bfi, abr⟩ from by have n1 : abr ≠ 0 := (by simpa using k1); have n2 : bbr ≠ 0 := (by simpa using k2); have n3 : alo < ala + bfi := k3; have n4 : ¬ ala + bfi < blo := (by omega); simp [qadd, qlo, qrw, n1, n2, n3, n4])
  simp only [qcs]
  go_enter Try.func16, Try.ntmps16
  go_wp2
  go_region
  all_goals go_wp2
  all_goals refine bodyPost_ret (v := qv ⟨aby + bby, aru + bru, abr + bbr, afi, bla, ala + bfi, abr⟩) (by simp [results, Try.results16, go_sem, qv, qcs]) rfl ⟨by rw [HV.out], ?_⟩
  all_goals ((repeat' (first | (with_reducible exact Below.refl _ _) | (with_reducible refine Below.setCell ?_ ?_ _) | (with_reducible refine Below.drew ?_) | (with_reducible refine Below.alloc ?_ ?_ _))) <;> first | exact Nat.le_refl _ | (simp; done) | (simp; omega))
set_option maxHeartbeats 4000000 in
set_option maxRecDepth 100000 in
theorem add00_01 (aby aru abr afi ala alo arw bby bru bbr bfi bla blo brw : Int) (w : World) (a1 : 0 ≤ aby) (a2 : aby ≤ 1000000000) (a3 : 0 ≤ aru) (a4 : aru ≤ 1000000000) (a5 : 0 ≤ ala) (a6 : ala ≤ 1000000000)
    (b1 : 0 ≤ bby) (b2 : bby ≤ 1000000000) (b3 : 0 ≤ bru) (b4 : bru ≤ 1000000000) (b5 : 0 ≤ bfi) (b6 : bfi ≤ 1000000000) (b7 : 0 ≤ brw) (b8 : brw ≤ 1000000000) (h2 : 0 ≤ abr) (h2u : abr ≤ 1000000000) (k1 : (abr == 0) = false) (h3 : 0 ≤ bbr) (h3u : bbr ≤ 1000000000) (k2 : (bbr == 0) = false) (k3 : ala + bfi ≤ alo) (k4 : alo < blo) :
    Calls Try.prog 16 #[.agg (qcs ⟨aby, aru, abr, afi, ala, alo, arw⟩), .agg (qcs ⟨bby, bru, bbr, bfi, bla, blo, brw⟩)] w fun e w' => e = .returned (qv (qadd ⟨aby, aru, abr, afi, ala, alo, arw⟩ ⟨bby, bru, bbr, bfi, bla, blo, brw⟩)) ∧ Below w.heap.size w w' := by
  have HV := Lib.hid (show qadd ⟨aby, aru, abr, afi, ala, alo, arw⟩ ⟨bby, bru, bbr, bfi, bla, blo, brw⟩ = ⟨aby + bby, aru + bru, abr + bbr, afi, bla, blo, abr + brw⟩ from by have n1 : abr ≠ 0 := (by simpa using k1); have n2 : bbr ≠ 0 := (by simpa using k2); have n3 : ¬ alo < ala + bfi := (by omega); have n4 : alo < blo := k4; simp [qadd, qlo, n1, n2, n3, n4])
  simp only [qcs]
  go_enter Try.func16, Try.ntmps16
  go_wp2
  go_region
  all_goals go_wp2
  all_goals refine bodyPost_ret (v := qv ⟨aby + bby, aru + bru, abr + bbr, afi, bla, blo, abr + brw⟩) (by simp [results, Try.results16, go_sem, qv, qcs]) rfl ⟨by rw [HV.out], ?_⟩
  all_goals ((repeat' (first | (with_reducible exact Below.refl _ _) | (with_reducible refine Below.setCell ?_ ?_ _) | (with_reducible refine Below.drew ?_) | (with_reducible refine Below.alloc ?_ ?_ _))) <;> first | exact Nat.le_refl _ | (simp; done) | (simp; omega))
set_option maxHeartbeats 4000000 in
set_option maxRecDepth 100000 in
theorem add00_00 (aby aru abr afi ala alo arw bby bru bbr bfi bla blo brw : Int) (w : World) (a1 : 0 ≤ aby) (a2 : aby ≤ 1000000000) (a3 : 0 ≤ aru) (a4 : aru ≤ 1000000000) (a5 : 0 ≤ ala) (a6 : ala ≤ 1000000000)
    (b1 : 0 ≤ bby) (b2 : bby ≤ 1000000000) (b3 : 0 ≤ bru) (b4 : bru ≤ 1000000000) (b5 : 0 ≤ bfi) (b6 : bfi ≤ 1000000000) (b7 : 0 ≤ brw) (b8 : brw ≤ 1000000000) (h2 : 0 ≤ abr) (h2u : abr ≤ 1000000000) (k1 : (abr == 0) = false) (h3 : 0 ≤ bbr) (h3u : bbr ≤ 1000000000) (k2 : (bbr == 0) = false) (k3 : ala + bfi ≤ alo) (k4 : blo ≤ alo) :
    Calls Try.prog 16 #[.agg (qcs ⟨aby, aru, abr, afi, ala, alo, arw⟩), .agg (qcs ⟨bby, bru, bbr, bfi, bla, blo, brw⟩)] w fun e w' => e = .returned (qv (qadd ⟨aby, aru, abr, afi, ala, alo, arw⟩ ⟨bby, bru, bbr, bfi, bla, blo, brw⟩)) ∧ Below w.heap.size w w' := by
  have HV := Lib.hid (show qadd ⟨aby, aru, abr, afi, ala, alo, arw⟩ ⟨bby, bru, bbr, bfi, bla, blo, brw⟩ = ⟨aby + bby, aru + bru, abr + bbr, afi, bla, alo, arw⟩ from by have n1 : abr ≠ 0 := (by simpa using k1); have n2 : bbr ≠ 0 := (by simpa using k2); have n3 : ¬ alo < ala + bfi := (by omega); have n4 : ¬ alo < blo := (by omega); simp [qadd, qlo, qrw, n1, n2, n3, n4])
  simp only [qcs]
  go_enter Try.func16, Try.ntmps16
  go_wp2
  all_goals refine bodyPost_ret (v := qv ⟨aby + bby, aru + bru, abr + bbr, afi, bla, alo, arw⟩) (by simp [results, Try.results16, go_sem, qv, qcs]) rfl ⟨by rw [HV.out], ?_⟩
  all_goals ((repeat' (first | (with_reducible exact Below.refl _ _) | (with_reducible refine Below.setCell ?_ ?_ _) | (with_reducible refine Below.drew ?_) | (with_reducible refine Below.alloc ?_ ?_ _))) <;> first | exact Nat.le_refl _ | (simp; done) | (simp; omega))
theorem add00 (aby aru abr afi ala alo arw bby bru bbr bfi bla blo brw : Int) (w : World) (a1 : 0 ≤ aby) (a2 : aby ≤ 1000000000) (a3 : 0 ≤ aru) (a4 : aru ≤ 1000000000) (a5 : 0 ≤ ala) (a6 : ala ≤ 1000000000)
    (b1 : 0 ≤ bby) (b2 : bby ≤ 1000000000) (b3 : 0 ≤ bru) (b4 : bru ≤ 1000000000) (b5 : 0 ≤ bfi) (b6 : bfi ≤ 1000000000) (b7 : 0 ≤ brw) (b8 : brw ≤ 1000000000) (h2 : 0 ≤ abr) (h2u : abr ≤ 1000000000) (k1 : (abr == 0) = false) (h3 : 0 ≤ bbr) (h3u : bbr ≤ 1000000000) (k2 : (bbr == 0) = false) :
    Calls Try.prog 16 #[.agg (qcs ⟨aby, aru, abr, afi, ala, alo, arw⟩), .agg (qcs ⟨bby, bru, bbr, bfi, bla, blo, brw⟩)] w fun e w' => e = .returned (qv (qadd ⟨aby, aru, abr, afi, ala, alo, arw⟩ ⟨bby, bru, bbr, bfi, bla, blo, brw⟩)) ∧ Below w.heap.size w w' := by
  by_cases k3 : alo < ala + bfi
  · by_cases k4 : ala + bfi < blo
    · exact add00_11 aby aru abr afi ala alo arw bby bru bbr bfi bla blo brw w a1 a2 a3 a4 a5 a6 b1 b2 b3 b4 b5 b6 b7 b8 h2 h2u k1 h3 h3u k2 k3 k4
    · exact add00_10 aby aru abr afi ala alo arw bby bru bbr bfi bla blo brw w a1 a2 a3 a4 a5 a6 b1 b2 b3 b4 b5 b6 b7 b8 h2 h2u k1 h3 h3u k2 k3 (by omega)
  · by_cases k4 : alo < blo
    · exact add00_01 aby aru abr afi ala alo arw bby bru bbr bfi bla blo brw w a1 a2 a3 a4 a5 a6 b1 b2 b3 b4 b5 b6 b7 b8 h2 h2u k1 h3 h3u k2 (by omega) k4
    · exact add00_00 aby aru abr afi ala alo arw bby bru bbr bfi bla blo brw w a1 a2 a3 a4 a5 a6 b1 b2 b3 b4 b5 b6 b7 b8 h2 h2u k1 h3 h3u k2 (by omega) (by omega)
end Go.Proofs.Ytajjodooojhhcaa
