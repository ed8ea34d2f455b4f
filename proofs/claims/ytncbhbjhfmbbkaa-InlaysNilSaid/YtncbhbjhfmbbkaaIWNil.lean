/- Inlays: Shift of no set; the walk of the law on none. -/
import Derived.Test.YtncbhbjhfmbbkaaInG
import Derived.Test.YtncbhbjhfmbbkaaPtA
import Derived.Test.YtncbhbjhfmbbkaaPtE
namespace Go.Proofs.Ytncbhbjhfmbbkaa
open Go.RowKit Go.Sort
set_option linter.unusedVariables false
set_option maxHeartbeats 8000000 in
set_option maxRecDepth 100000 in
theorem iBehind0 (w : World) : Calls Try.prog 79 #[.slice none 0 0, .int .i64 0] w fun e w' => e = .returned (.bool false) ∧ Below w.heap.size w w' := by
  go_enter Try.func79, Try.ntmps79
  go_wp2
  go_ret
  exact ⟨rfl, Below.refl _ _⟩
set_option maxHeartbeats 8000000 in
set_option maxRecDepth 100000 in
theorem iShift_nil (w : World) :
    Calls Try.prog 48 #[.pointer none, .slice none 0 0] w fun e w' => ∃ sb, e = .returned (.tuple #[.pointer (some ⟨sb, 0, none⟩), .int .i64 0]) ∧ Below w.heap.size w w' := by
  have CNM := Lib.hid fun (W : World) => pNormal_any none 0 0 [] W true (fun h => absurd h (by simp)) rfl (by omega) ⟨fun _ => trivial, fun _ => rfl⟩
  have CLN := Lib.hid fun (W : World) => iLen_nil W
  have CBH := Lib.hid fun (W : World) => iBehind0 W
  have CAL := Lib.hid fun (W : World) => iAll_nil W
  have CDT := Lib.hid fun (W : World) => pDelta_any none 0 0 [] W (fun h => absurd h (by simp)) rfl (by omega) (fun c h => absurd h (by simp))
  go_enter Try.func48, Try.ntmps48
  go_wp2_with fail
  with_reducible refine (CNM.out _).mono ?_
  rintro e1 w1 ⟨rfl, b1⟩
  have Q1 := Lib.hid b1
  clear b1
  go_wp2_with fail
  with_reducible refine (CLN.out _).mono ?_
  rintro e2 w2 ⟨rfl, b2⟩
  have Q2 := Lib.hid (Q1.out.trans (b2.mono Q1.out.size))
  clear b2
  go_wp2_with fail
  with_reducible refine (CBH.out _).mono ?_
  rintro e3 w3 ⟨rfl, b3⟩
  have Q3 := Lib.hid (Q2.out.trans (b3.mono Q2.out.size))
  clear b3
  go_wp2_with fail
  with_reducible refine (CAL.out _).mono ?_
  rintro e4 w4 ⟨v4, rfl, o4, b4⟩
  have Q4 := Lib.hid (Q3.out.trans (b4.mono Q3.out.size))
  obtain ⟨A4, c4, rfl, hR4, _, hC4⟩ := rows_of_own (o := ([] : List In)) encI_len (by omega) o4
  have HR4 := Lib.hid hR4
  have HC4 := Lib.hid hC4
  clear o4 b4 hR4 hC4
  go_wp2_with fail
  go_loopg [20] 0 (fun g i wr => i = .int .i64 0 ∧ wr = w4)
  case atStart => exact ⟨rfl, rfl⟩
  case round =>
    obtain ⟨rfl, hwr⟩ := hrel
    have CNW := Lib.hid fun (W : World) (hW : Below w4.heap.size w4 W) => iNew_any 0 A4 0 c4 [] W (HR4.out.below hW) HC4.out rfl (fun a h => absurd h (by simp)) (fun a h => absurd h (by simp)) 0 (by rfl)
    have HWR := Lib.hid hwr
    clear hwr
    go_wp2_with fail
    with_reducible refine (CLN.out _).mono ?_
    rintro e5 w5 ⟨rfl, b5⟩
    have Q5 := Lib.hid (show Below w4.heap.size w4 w5 by rw [← HWR.out]; exact b5)
    clear b5
    go_wp2_with fail
    with_reducible refine (CDT.out _).mono ?_
    rintro e6 w6 ⟨rfl, b6⟩
    have Q6 := Lib.hid (Q5.out.trans (b6.mono Q5.out.size))
    clear b6
    have hd : dlt [] = 0 := rfl
    rw [hd]
    clear hd
    go_wp2_with fail
    with_reducible refine (CNW.out _ Q6.out).mono ?_
    rintro e7 w7 ⟨p7, rfl, _, hp7, b7⟩
    obtain ⟨s7, rfl, _⟩ := hp7 trivial
    have Q7 := Lib.hid (Q4.out.trans ((Q6.out.trans (b7.mono Q6.out.size)).mono Q4.out.size))
    clear hp7 b7
    go_wp2
    go_ret2
    exact ⟨s7, rfl, Q7.out⟩
set_option maxHeartbeats 8000000 in
set_option maxRecDepth 100000 in
theorem inlaysNil_walk (RA : Option Addr) (m c : Nat) (l : List Int) (w : World) (hI : IntsAt .i64 w RA l) (hl : l.length = m) (_hn : m ≤ maxLen) (_hc : Caps RA m c) (hwf : ∀ x ∈ l, (Lit.int .i64 x).wf = true) :
    Calls Try.prog 15 #[.slice RA m c] w fun e w' => e = .returned (.bool true) ∧ Below w.heap.size w w' := by
  have CT := Lib.hid fun W => iThree_any W
  have CSH := Lib.hid fun W => iShift_nil W
  have CLN := Lib.hid fun W => iLen_nil W
  have CAL := Lib.hid fun W => iAll_nil W
  have CWI := Lib.hid fun W => iWithin_nil (w := W) 0 9
  have HI := Lib.hid hI
  have HL := Lib.hid hl
  have HW := Lib.hid hwf
  clear hI hl hwf _hn _hc
  by_cases g1 : 100 < m
  · have k1 : decide (100 < m) = true := decide_eq_true g1
    have k2 : decide ((100 : Int) < (m : Int)) = true := decide_eq_true (by omega)
    go_enter Try.func15, Try.ntmps15
    go_wp2_with fail
    with_reducible refine (CT.out _).mono ?_
    rintro e6 w6 ⟨rfl, b6⟩
    have Q6 := Lib.hid b6
    clear b6
    go_wp2
    go_ret
    exact ⟨by simp, Q6.out⟩
  · have k1 : decide (100 < m) = false := decide_eq_false g1
    have k2 : decide ((100 : Int) < (m : Int)) = false := decide_eq_false (by omega)
    rcases Nat.eq_zero_or_pos m with h0 | h0
    · subst h0
      have CSP := Lib.hid (iSplice_nil_yes RA c w)
      go_enter Try.func15, Try.ntmps15
      go_wp2_with fail
      with_reducible refine (CSP.out).mono ?_
      rintro e1 w1 ⟨s1, rfl, b1⟩
      have Q1 := Lib.hid b1
      clear b1
      go_wp2_with fail
      with_reducible refine (CSH.out _).mono ?_
      rintro e2 w2 ⟨s2, rfl, b2⟩
      have Q2 := Lib.hid (Q1.out.trans (b2.mono Q1.out.size))
      clear b2
      go_wp2_with fail
      with_reducible refine (CLN.out _).mono ?_
      rintro e3 w3 ⟨rfl, b3⟩
      have Q3 := Lib.hid (Q2.out.trans (b3.mono Q2.out.size))
      clear b3
      go_wp2_with fail
      with_reducible refine (CAL.out _).mono ?_
      rintro e4 w4 ⟨v4, rfl, o4, b4⟩
      have Q4 := Lib.hid (Q3.out.trans (b4.mono Q3.out.size))
      obtain ⟨A4, c4, rfl⟩ := own_formI o4
      clear o4 b4
      go_wp2_with fail
      with_reducible refine (CWI.out _).mono ?_
      rintro e5 w5 ⟨v5, rfl, o5, b5⟩
      have Q5 := Lib.hid (Q4.out.trans (b5.mono Q4.out.size))
      obtain ⟨A5, c5, rfl⟩ := own_formI o5
      clear o5 b5
      go_wp2_with fail
      with_reducible refine (CT.out _).mono ?_
      rintro e6 w6 ⟨rfl, b6⟩
      have Q6 := Lib.hid (Q5.out.trans (b6.mono Q5.out.size))
      clear b6
      go_wp2
      go_ret
      exact ⟨by simp, Q6.out⟩
    · have CSP := Lib.hid (iSplice_nil_no RA m c l w HI.out HL.out h0 HW.out)
      have k3 : decide (0 < m) = true := decide_eq_true h0
      have k4 : decide ((0 : Int) < (m : Int)) = true := decide_eq_true (by omega)
      go_enter Try.func15, Try.ntmps15
      go_wp2_with fail
      with_reducible refine (CSP.out).mono ?_
      rintro e1 w1 ⟨rfl, b1⟩
      have Q1 := Lib.hid b1
      clear b1
      go_wp2_with fail
      with_reducible refine (CSH.out _).mono ?_
      rintro e2 w2 ⟨s2, rfl, b2⟩
      have Q2 := Lib.hid (Q1.out.trans (b2.mono Q1.out.size))
      clear b2
      go_wp2_with fail
      with_reducible refine (CLN.out _).mono ?_
      rintro e3 w3 ⟨rfl, b3⟩
      have Q3 := Lib.hid (Q2.out.trans (b3.mono Q2.out.size))
      clear b3
      go_wp2_with fail
      with_reducible refine (CAL.out _).mono ?_
      rintro e4 w4 ⟨v4, rfl, o4, b4⟩
      have Q4 := Lib.hid (Q3.out.trans (b4.mono Q3.out.size))
      obtain ⟨A4, c4, rfl⟩ := own_formI o4
      clear o4 b4
      go_wp2_with fail
      with_reducible refine (CWI.out _).mono ?_
      rintro e5 w5 ⟨v5, rfl, o5, b5⟩
      have Q5 := Lib.hid (Q4.out.trans (b5.mono Q4.out.size))
      obtain ⟨A5, c5, rfl⟩ := own_formI o5
      clear o5 b5
      go_wp2_with fail
      with_reducible refine (CT.out _).mono ?_
      rintro e6 w6 ⟨rfl, b6⟩
      have Q6 := Lib.hid (Q5.out.trans (b6.mono Q5.out.size))
      clear b6
      go_wp2
      go_ret
      exact ⟨by simp, Q6.out⟩
end Go.Proofs.Ytncbhbjhfmbbkaa
