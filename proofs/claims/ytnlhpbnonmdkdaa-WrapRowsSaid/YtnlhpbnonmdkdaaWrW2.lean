/- The walk of the law WrapRows. -/
import Derived.Test.YtnlhpbnonmdkdaaWrI
namespace Go.Proofs.Ytnlhpbnonmdkdaa
open Go.RowKit
set_option linter.unusedVariables false
set_option maxHeartbeats 8000000 in
set_option maxRecDepth 100000 in
theorem wrapRows_walk (A : Option Addr) (n c : Nat) (l : List Cl) (w : Int) (W : World) (hA : RowsAt encC 4 W A l) (hl : l.length = n) (hn : n ≤ maxLen) (hc : Caps A n c) (hO : ∀ s ∈ l, ClOk s) (wf : Lit.wf (.int .i64 w)) :
    Calls Try.prog 10 #[.slice A n c, .int .i64 w] W fun e W' => e = .returned (.bool true) ∧ Below W.heap.size W W' := by
  by_cases hr : n ≤ 200 ∧ W02 l
  · have CR := Lib.hid (right20_any A n c l W hA hl true (by simp [hr]))
    have CH1 := Lib.hid fun (V : World) (hV : Below W.heap.size W V) => wHang_any A n c l w V (hA.below hV) hl hc (by omega) hr.2
    have CH2 := Lib.hid fun (V : World) (hV : Below W.heap.size W V) => rHang20_any A n c l w V (hA.below hV) hl hc (by omega) hr.2
    generalize hangN l w = hg at *
    by_cases g1 : 0 ≤ w ∧ w ≤ 200
    · have CG := Lib.hid fun (V : World) => rright_any w true (by simp [g1]) V
      have CRW := Lib.hid fun (V : World) (hV : Below W.heap.size W V) => wRowsR A n c w l V (hA.below hV) hl hc (by omega) hr.2 g1.1 g1.2
      have CCN := Lib.hid fun (V : World) (hV : Below W.heap.size W V) => wCount_yes A n c w l V (hA.below hV) hl hc (by omega) hr.2 g1.1 g1.2
      have CRF := Lib.hid fun (V : World) (hV : Below W.heap.size W V) => rRowsR A n c l w V (hA.below hV) hl hc (by omega) hr.2 g1.1 g1.2
      have HWW := Lib.hid (wrapN_w hr.2 w)
      have HWL := Lib.hid (wrapN_len hr.2 w)
      have hn2 := hr.1
      have HL := Lib.hid hl
      have hzl := wrapN_length l w
      rw [hl] at hzl
      clear hA hl hn hc hO wf hr g1
      generalize wrapN l w = rs at *
      obtain ⟨z, hz⟩ : ∃ z, rs.length = z := ⟨_, rfl⟩
      obtain ⟨mx, hmx⟩ : ∃ mx, wmax rs = mx := ⟨_, rfl⟩
      rw [hz] at CRW CRF CCN hzl
      rw [hmx] at CCN
      have HZ := Lib.hid hz
      have HMX := Lib.hid hmx
      clear hz hmx
      go_enter Try.func10, Try.ntmps10
      go_wp2_with (first | (go_at_call 26; refine (CR.out).mono ?_; rintro e w1 ⟨rfl, hb1⟩; have HB1 := Lib.hid hb1; clear hb1) | (go_at_call 28; refine (CRW.out _ HB1.out).mono ?_; rintro e w2 ⟨A2, c2, rfl, hR2, hb2⟩; have HB2 := Lib.hid (HB1.out.trans (hb2.mono HB1.out.size)); have HR2 := Lib.hid hR2; clear hb2 hR2) | (go_at_call 29; refine (CCN.out _ HB2.out).mono ?_; rintro e w3 ⟨rfl, hb3⟩; have HB3 := Lib.hid (HB2.out.trans (hb3.mono HB2.out.size)); have HR3 := Lib.hid (HR2.out.below hb3); clear hb3) | (go_at_call 30; refine (CH1.out _ HB3.out).mono ?_; rintro e w4 ⟨rfl, hb4⟩; have HB4 := Lib.hid (HB3.out.trans (hb4.mono HB3.out.size)); have HR4 := Lib.hid (HR3.out.below hb4); clear hb4) | (go_at_call 31; refine (CH2.out _ HB4.out).mono ?_; rintro e w5 ⟨rfl, hb5⟩; have HB5 := Lib.hid (HB4.out.trans (hb5.mono HB4.out.size)); have HR5 := Lib.hid (HR4.out.below hb5); clear hb5) | (go_at_call 32; refine (CG.out _).mono ?_; rintro e w6 ⟨rfl, hb6⟩; have HB6 := Lib.hid (HB5.out.trans (hb6.mono HB5.out.size)); have HR6 := Lib.hid (HR5.out.below hb6); clear hb6) | (go_at_call 33; refine (CRF.out _ HB6.out).mono ?_; rintro e w7 ⟨A7, c7, rfl, hR7, hb7⟩; have HB7 := Lib.hid (HB6.out.trans (hb7.mono HB6.out.size)); have HR7 := Lib.hid (HR6.out.below hb7); have HS7 := Lib.hid hR7; clear hb7 hR7))
      go_loopg [11, 87] z (fun g p11 i wr => ∃ (j : Nat) (m : Int), i = .int .i64 (j : Int) ∧ p11 = .int .i64 m ∧ j ≤ z ∧ z - j ≤ g ∧ Hid (m = wmax (rs.take j)) ∧ Hid (Below w7.heap.size w7 wr))
      case atStart => exact ⟨0, 0, rfl, rfl, by omega, by omega, Lib.hid rfl, Lib.hid (Below.refl _ _)⟩
      case round =>
        obtain ⟨j, m, rfl, rfl, h1, h2, hm, hb⟩ := hrel
        have HBW := Lib.hid (HB7.out.trans (hb.out.mono HB7.out.size))
        by_cases hlt : j < z
        · have hjr : j < rs.length := by rw [HZ.out]; exact hlt
          obtain ⟨bA, off, Aj, cj, rfl, hbA, d0, hRj, hCj⟩ := (HR7.out.below hb.out).at1 hjr
          obtain ⟨bB, off2, Bj, dj, rfl, hbB, e0, hSj, hDj⟩ := (HS7.out.below hb.out).at1 hjr
          have hmem := List.getElem_mem hjr
          have hle := HWL.out _ hmem
          rw [HL.out] at hle
          have hst : wmax (rs.take (j + 1)) = if m < wsum rs[j] then wsum rs[j] else m := by rw [List.take_succ_eq_append_getElem hjr, wmax_snoc, ← hm.out]
          have CPL := Lib.hid (plcells_any Aj Bj rs[j].length cj dj rs[j] wr hRj hSj rfl (by omega))
          have CWD := Lib.hid fun (V : World) (hV : Below wr.heap.size wr V) => r9Width_any Aj rs[j].length cj rs[j] V (hRj.below hV) rfl (by omega) (HWW.out _ hmem).wide
          have HST := Lib.hid hst
          clear hst
          generalize rs[j] = row at *
          generalize wsum row = s at *
          have i1 : (0 : Int) ≤ j := by omega
          have i2 : (j : Int) < z := by omega
          clear hRj hCj hSj hDj hmem hle hm
          by_cases hms : m < s
          · have HST2 := Lib.hid (HST.out.trans (if_pos hms))
            clear HST
            go_wp2_with (first | (go_at_call 34; refine (CPL.out).mono ?_; rintro e w8 ⟨rfl, hb8⟩; have HB8 := Lib.hid hb8; clear hb8) | (go_at_call 24; refine (CWD.out _ HB8.out).mono ?_; rintro e w9 ⟨rfl, hb9⟩; have HB9 := Lib.hid (hb.out.trans ((HB8.out.trans (hb9.mono HB8.out.size)).mono hb.out.size)); clear hb9))
            go_roundg (gk - 1)
            case measure => omega
            case rel => exact ⟨j + 1, s, by go_num, rfl, by omega, by omega, Lib.hid HST2.out.symm, HB9⟩
          · have HST2 := Lib.hid (HST.out.trans (if_neg hms))
            have hms2 : decide (m < s) = false := decide_eq_false hms
            clear HST
            go_wp2_with (first | (go_at_call 34; refine (CPL.out).mono ?_; rintro e w8 ⟨rfl, hb8⟩; have HB8 := Lib.hid hb8; clear hb8) | (go_at_call 24; refine (CWD.out _ HB8.out).mono ?_; rintro e w9 ⟨rfl, hb9⟩; have HB9 := Lib.hid (hb.out.trans ((HB8.out.trans (hb9.mono HB8.out.size)).mono hb.out.size)); clear hb9))
            go_roundg (gk - 1)
            case measure => omega
            case rel => exact ⟨j + 1, m, by go_num, rfl, by omega, by omega, Lib.hid HST2.out.symm, HB9⟩
        · obtain rfl : j = z := by omega
          have hmm : m = mx := by
            have := hm.out
            rw [List.take_of_length_le (by rw [HZ.out]; omega), HMX.out] at this
            exact this
          have k9 : (mx == m) = true := by simp [hmm]
          clear hmm
          go_wp2_with (go_at_call 27; refine (hangs20_any _).mono ?_; rintro e w9 ⟨rfl, hb9⟩; have HB9 := Lib.hid (HBW.out.trans (hb9.mono HBW.out.size)); clear hb9)
          go_ret
          exact ⟨rfl, HB9.out⟩
    · have CG := Lib.hid fun (V : World) => rright_any w false (by simp; omega) V
      have CRW := Lib.hid fun (V : World) => wRows_no A n c w V g1
      have CCN := Lib.hid fun (V : World) => wCount_no A n c w V g1
      clear hA hl hn hc hO wf hr g1
      go_enter Try.func10, Try.ntmps10
      go_wp2_with (first | (go_at_call 26; refine (CR.out).mono ?_; rintro e w1 ⟨rfl, hb1⟩; have HB1 := Lib.hid hb1; clear hb1) | (go_at_call 28; refine (CRW.out _).mono ?_; rintro e w2 ⟨rfl, hb2⟩; have HB2 := Lib.hid (HB1.out.trans (hb2.mono HB1.out.size)); clear hb2) | (go_at_call 29; refine (CCN.out _).mono ?_; rintro e w3 ⟨rfl, hb3⟩; have HB3 := Lib.hid (HB2.out.trans (hb3.mono HB2.out.size)); clear hb3) | (go_at_call 30; refine (CH1.out _ HB3.out).mono ?_; rintro e w4 ⟨rfl, hb4⟩; have HB4 := Lib.hid (HB3.out.trans (hb4.mono HB3.out.size)); clear hb4) | (go_at_call 31; refine (CH2.out _ HB4.out).mono ?_; rintro e w5 ⟨rfl, hb5⟩; have HB5 := Lib.hid (HB4.out.trans (hb5.mono HB4.out.size)); clear hb5) | (go_at_call 32; refine (CG.out _).mono ?_; rintro e w6 ⟨rfl, hb6⟩; have HB6 := Lib.hid (HB5.out.trans (hb6.mono HB5.out.size)); clear hb6) | (go_at_call 27; refine (hangs20_any _).mono ?_; rintro e w9 ⟨rfl, hb9⟩; have HB9 := Lib.hid (HB6.out.trans (hb9.mono HB6.out.size)); clear hb9))
      go_ret
      exact ⟨rfl, HB9.out⟩
  · have CR := Lib.hid (right20_any A n c l W hA hl false (by simp; intro h; exact fun g => hr ⟨h, g⟩))
    clear hA hl hn hc hO wf hr
    go_enter Try.func10, Try.ntmps10
    go_wp2_with (first | (go_at_call 26; refine (CR.out).mono ?_; rintro e w1 ⟨rfl, hb1⟩; have HB1 := Lib.hid hb1; clear hb1) | (go_at_call 27; refine (hangs20_any _).mono ?_; rintro e w9 ⟨rfl, hb9⟩; have HB9 := Lib.hid (HB1.out.trans (hb9.mono HB1.out.size)); clear hb9))
    go_ret
    exact ⟨rfl, HB9.out⟩
end Go.Proofs.Ytnlhpbnonmdkdaa
