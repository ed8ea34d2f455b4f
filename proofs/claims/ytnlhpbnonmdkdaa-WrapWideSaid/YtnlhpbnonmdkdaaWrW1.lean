/- The walks of the laws WrapWide, WrapOne. -/
import Derived.Test.YtnlhpbnonmdkdaaWrI
namespace Go.Proofs.Ytnlhpbnonmdkdaa
open Go.RowKit
set_option linter.unusedVariables false
set_option maxHeartbeats 8000000 in
set_option maxRecDepth 100000 in
theorem wrapWide_walk (A : Option Addr) (n c : Nat) (l : List Cl) (w : Int) (W : World) (hA : RowsAt encC 4 W A l) (hl : l.length = n) (hn : n ≤ maxLen) (hc : Caps A n c) (hO : ∀ s ∈ l, ClOk s) (wf : Lit.wf (.int .i64 w)) :
    Calls Try.prog 11 #[.slice A n c, .int .i64 w] W fun e W' => e = .returned (.bool true) ∧ Below W.heap.size W W' := by
  by_cases hr : n ≤ 200 ∧ W02 l
  · have CR := Lib.hid (right20_any A n c l W hA hl true (by simp [hr]))
    by_cases g1 : w < 2
    · have k1 : decide (w < 2) = true := decide_eq_true g1
      clear hA hl hn hc hO wf hr
      go_enter Try.func11, Try.ntmps11
      go_wp2_with (first | (go_at_call 26; refine (CR.out).mono ?_; rintro e w1 ⟨rfl, hb1⟩; have HB1 := Lib.hid hb1; clear hb1) | (go_at_call 27; refine (hangs20_any _).mono ?_; rintro e w9 ⟨rfl, hb9⟩; have HB9 := Lib.hid (HB1.out.trans (hb9.mono HB1.out.size)); clear hb9))
      go_ret
      exact ⟨rfl, HB9.out⟩
    have k1 : decide (w < 2) = false := decide_eq_false g1
    by_cases g2 : 200 < w
    · have k2 : decide (200 < w) = true := decide_eq_true g2
      clear hA hl hn hc hO wf hr
      go_enter Try.func11, Try.ntmps11
      go_wp2_with (first | (go_at_call 26; refine (CR.out).mono ?_; rintro e w1 ⟨rfl, hb1⟩; have HB1 := Lib.hid hb1; clear hb1) | (go_at_call 27; refine (hangs20_any _).mono ?_; rintro e w9 ⟨rfl, hb9⟩; have HB9 := Lib.hid (HB1.out.trans (hb9.mono HB1.out.size)); clear hb9))
      go_ret
      exact ⟨rfl, HB9.out⟩
    have k2 : decide (200 < w) = false := decide_eq_false g2
    have CRW := Lib.hid fun (V : World) (hV : Below W.heap.size W V) => wRowsR A n c w l V (hA.below hV) hl hc (by omega) hr.2 (by omega) (by omega)
    have HWD := Lib.hid (wrapN_wide (w := w) hr.2 (by omega))
    have HWW := Lib.hid (wrapN_w hr.2 w)
    have HWL := Lib.hid (wrapN_len hr.2 w)
    have hn2 := hr.1
    have HL := Lib.hid hl
    have hzl := wrapN_length l w
    rw [hl] at hzl
    clear hA hl hn hc hO wf hr g1 g2
    generalize wrapN l w = rs at *
    obtain ⟨z, hz⟩ : ∃ z, rs.length = z := ⟨_, rfl⟩
    rw [hz] at CRW hzl
    have HZ := Lib.hid hz
    clear hz
    go_enter Try.func11, Try.ntmps11
    go_wp2_with (first | (go_at_call 26; refine (CR.out).mono ?_; rintro e w1 ⟨rfl, hb1⟩; have HB1 := Lib.hid hb1; clear hb1) | (go_at_call 28; refine (CRW.out _ HB1.out).mono ?_; rintro e w2 ⟨A2, c2, rfl, hR2, hb2⟩; have HB2 := Lib.hid (HB1.out.trans (hb2.mono HB1.out.size)); have HR2 := Lib.hid hR2; clear hb2 hR2))
    go_loopg [31] z (fun g i wr => ∃ (j : Nat), i = .int .i64 (j : Int) ∧ j ≤ z ∧ z - j ≤ g ∧ Hid (Below w2.heap.size w2 wr))
    case atStart => exact ⟨0, rfl, by omega, by omega, Lib.hid (Below.refl _ _)⟩
    case round =>
      obtain ⟨j, rfl, h1, h2, hb⟩ := hrel
      have HBW := Lib.hid (HB2.out.trans (hb.out.mono HB2.out.size))
      by_cases hlt : j < z
      · have hjr : j < rs.length := by rw [HZ.out]; exact hlt
        obtain ⟨bA, off, Aj, cj, rfl, hbA, d0, hRj, hCj⟩ := (HR2.out.below hb.out).at1 hjr
        have hmem := List.getElem_mem hjr
        have hwide := HWD.out _ hmem
        have hle := HWL.out _ hmem
        have CWD := Lib.hid (r9Width_any Aj rs[j].length cj rs[j] wr hRj rfl (by rw [HL.out] at hle; omega) (HWW.out _ hmem).wide)
        generalize rs[j] = row at *
        generalize wsum row = s at *
        have k3 : decide (w < s) = false := decide_eq_false (by omega)
        have i1 : (0 : Int) ≤ j := by omega
        have i2 : (j : Int) < z := by omega
        clear hRj hCj hmem hle
        go_wp2_with (go_at_call 24; refine (CWD.out).mono ?_; rintro e w4 ⟨rfl, hb4⟩; have HB4 := Lib.hid (hb.out.trans (hb4.mono hb.out.size)); clear hb4)
        go_roundg (gk - 1)
        case measure => omega
        case rel => exact ⟨j + 1, by go_num, by omega, by omega, HB4⟩
      · obtain rfl : j = z := by omega
        go_wp2_with (go_at_call 27; refine (hangs20_any _).mono ?_; rintro e w9 ⟨rfl, hb9⟩; have HB9 := Lib.hid (HBW.out.trans (hb9.mono HBW.out.size)); clear hb9)
        go_ret
        exact ⟨rfl, HB9.out⟩
  · have CR := Lib.hid (right20_any A n c l W hA hl false (by simp; intro h; exact fun g => hr ⟨h, g⟩))
    clear hA hl hn hc hO wf hr
    go_enter Try.func11, Try.ntmps11
    go_wp2_with (first | (go_at_call 26; refine (CR.out).mono ?_; rintro e w1 ⟨rfl, hb1⟩; have HB1 := Lib.hid hb1; clear hb1) | (go_at_call 27; refine (hangs20_any _).mono ?_; rintro e w9 ⟨rfl, hb9⟩; have HB9 := Lib.hid (HB1.out.trans (hb9.mono HB1.out.size)); clear hb9))
    go_ret
    exact ⟨rfl, HB9.out⟩
set_option maxHeartbeats 8000000 in
set_option maxRecDepth 100000 in
theorem wrapOne_walk (A : Option Addr) (n c : Nat) (l : List Cl) (W : World) (hA : RowsAt encC 4 W A l) (hl : l.length = n) (hn : n ≤ maxLen) (hc : Caps A n c) (hO : ∀ s ∈ l, ClOk s) :
    Calls Try.prog 14 #[.slice A n c] W fun e W' => e = .returned (.bool true) ∧ Below W.heap.size W W' := by
  by_cases hr : n ≤ 200 ∧ W02 l
  · have CR := Lib.hid (right20_any A n c l W hA hl true (by simp [hr]))
    have C0 := Lib.hid fun (V : World) (hV : Below W.heap.size W V) => wRowsR A n c 0 l V (hA.below hV) hl hc (by omega) hr.2 (by omega) (by omega)
    rw [wrapN_zero] at C0
    have CWD := Lib.hid fun (V : World) (hV : Below W.heap.size W V) => r9Width_any A n c l V (hA.below hV) hl (by omega) hr.2.wide
    have CN := Lib.hid fun (hs1 : 1 ≤ wsum l) (hs2 : wsum l ≤ 200) (V : World) (hV : Below W.heap.size W V) => wRowsR A n c (wsum l) l V (hA.below hV) hl hc (by omega) hr.2 (by omega) hs2
    have HNN := Lib.hid fun (hs1 : 1 ≤ wsum l) => wrapN_one hr.2 hs1
    have HA := Lib.hid hA
    have HL := Lib.hid hl
    have hn2 := hr.1
    clear hA hl hn hc hO hr
    obtain ⟨s, hs⟩ : ∃ s, wsum l = s := ⟨_, rfl⟩
    rw [hs] at CWD CN HNN
    clear hs
    by_cases g1 : s < 1
    · have k1 : decide (s < 1) = true := decide_eq_true g1
      go_enter Try.func14, Try.ntmps14
      go_wp2_with (first | (go_at_call 26; refine (CR.out).mono ?_; rintro e w1 ⟨rfl, hb1⟩; have HB1 := Lib.hid hb1; clear hb1) | (go_at_call 28; with_reducible refine (C0.out _ HB1.out).mono ?_; rintro e w2 ⟨A2, c2, rfl, hR, hb⟩; have HB2 := Lib.hid (HB1.out.trans (hb.mono HB1.out.size)); obtain ⟨bX, offX, AX, cX, hAe, hbX, t0, hRj, hCj⟩ := hR.at1 (j := 0) (by simp); simp only [List.getElem_cons_zero, Nat.add_zero] at hRj t0; rw [HL.out] at t0; subst hAe; have HRJ := Lib.hid hRj; clear hb hR hRj hCj hbX) | (go_at_call 34; refine (plcells_any _ _ n _ _ l _ HRJ.out (HA.out.below HB2.out) HL.out (by omega)).mono ?_; rintro e w3 ⟨rfl, hb3⟩; have HB3 := Lib.hid (HB2.out.trans (hb3.mono HB2.out.size)); clear hb3) | (go_at_call 24; refine (CWD.out _ HB3.out).mono ?_; rintro e w4 ⟨rfl, hb4⟩; have HB4 := Lib.hid (HB3.out.trans (hb4.mono HB3.out.size)); clear hb4) | (go_at_call 27; refine (hangs20_any _).mono ?_; rintro e w9 ⟨rfl, hb9⟩; have HB9 := Lib.hid (HB4.out.trans (hb9.mono HB4.out.size)); clear hb9))
      go_ret
      exact ⟨rfl, HB9.out⟩
    have k1 : decide (s < 1) = false := decide_eq_false g1
    by_cases g2 : 200 < s
    · have k2 : decide (200 < s) = true := decide_eq_true g2
      go_enter Try.func14, Try.ntmps14
      go_wp2_with (first | (go_at_call 26; refine (CR.out).mono ?_; rintro e w1 ⟨rfl, hb1⟩; have HB1 := Lib.hid hb1; clear hb1) | (go_at_call 28; with_reducible refine (C0.out _ HB1.out).mono ?_; rintro e w2 ⟨A2, c2, rfl, hR, hb⟩; have HB2 := Lib.hid (HB1.out.trans (hb.mono HB1.out.size)); obtain ⟨bX, offX, AX, cX, hAe, hbX, t0, hRj, hCj⟩ := hR.at1 (j := 0) (by simp); simp only [List.getElem_cons_zero, Nat.add_zero] at hRj t0; rw [HL.out] at t0; subst hAe; have HRJ := Lib.hid hRj; clear hb hR hRj hCj hbX) | (go_at_call 34; refine (plcells_any _ _ n _ _ l _ HRJ.out (HA.out.below HB2.out) HL.out (by omega)).mono ?_; rintro e w3 ⟨rfl, hb3⟩; have HB3 := Lib.hid (HB2.out.trans (hb3.mono HB2.out.size)); clear hb3) | (go_at_call 24; refine (CWD.out _ HB3.out).mono ?_; rintro e w4 ⟨rfl, hb4⟩; have HB4 := Lib.hid (HB3.out.trans (hb4.mono HB3.out.size)); clear hb4) | (go_at_call 27; refine (hangs20_any _).mono ?_; rintro e w9 ⟨rfl, hb9⟩; have HB9 := Lib.hid (HB4.out.trans (hb9.mono HB4.out.size)); clear hb9))
      go_ret
      exact ⟨rfl, HB9.out⟩
    have k2 : decide (200 < s) = false := decide_eq_false g2
    have CN2 := Lib.hid fun (V : World) (hV : Below W.heap.size W V) => CN.out (by omega) (by omega) V hV
    rw [HNN.out (by omega)] at CN2
    go_enter Try.func14, Try.ntmps14
    go_wp2_with (first | (go_at_call 26; refine (CR.out).mono ?_; rintro e w1 ⟨rfl, hb1⟩; have HB1 := Lib.hid hb1; clear hb1) | (go_at_call 28; with_reducible refine (C0.out _ HB1.out).mono ?_; rintro e w2 ⟨A2, c2, rfl, hR, hb⟩; have HB2 := Lib.hid (HB1.out.trans (hb.mono HB1.out.size)); obtain ⟨bX, offX, AX, cX, hAe, hbX, t0, hRj, hCj⟩ := hR.at1 (j := 0) (by simp); simp only [List.getElem_cons_zero, Nat.add_zero] at hRj t0; rw [HL.out] at t0; subst hAe; have HRJ := Lib.hid hRj; clear hb hR hRj hCj hbX) | (go_at_call 34; with_reducible refine (plcells_any _ _ n _ _ l _ HRJ.out (HA.out.below HB2.out) HL.out (by omega)).mono ?_; rintro e w3 ⟨rfl, hb3⟩; have HB3 := Lib.hid (HB2.out.trans (hb3.mono HB2.out.size)); clear hb3) | (go_at_call 24; refine (CWD.out _ HB3.out).mono ?_; rintro e w4 ⟨rfl, hb4⟩; have HB4 := Lib.hid (HB3.out.trans (hb4.mono HB3.out.size)); clear hb4) | (go_at_call 28; with_reducible refine (CN2.out _ HB4.out).mono ?_; rintro e w5 ⟨A5, c5, rfl, hR, hb⟩; have HB5 := Lib.hid (HB4.out.trans (hb.mono HB4.out.size)); obtain ⟨bX, offX, AX, cX, hAe, hbX, t1, hRj, hCj⟩ := hR.at1 (j := 0) (by simp); simp only [List.getElem_cons_zero, Nat.add_zero] at hRj t1; rw [HL.out] at t1; subst hAe; have HRK := Lib.hid hRj; clear hb hR hRj hCj hbX) | (go_at_call 34; refine (plcells_any _ _ n _ _ l _ HRK.out (HA.out.below HB5.out) HL.out (by omega)).mono ?_; rintro e w6 ⟨rfl, hb6⟩; have HB6 := Lib.hid (HB5.out.trans (hb6.mono HB5.out.size)); clear hb6) | (go_at_call 27; refine (hangs20_any _).mono ?_; rintro e w9 ⟨rfl, hb9⟩; have HB9 := Lib.hid (HB6.out.trans (hb9.mono HB6.out.size)); clear hb9))
    go_ret
    exact ⟨rfl, HB9.out⟩
  · have CR := Lib.hid (right20_any A n c l W hA hl false (by simp; intro h; exact fun g => hr ⟨h, g⟩))
    clear hA hl hn hc hO hr
    go_enter Try.func14, Try.ntmps14
    go_wp2_with (first | (go_at_call 26; refine (CR.out).mono ?_; rintro e w1 ⟨rfl, hb1⟩; have HB1 := Lib.hid hb1; clear hb1) | (go_at_call 27; refine (hangs20_any _).mono ?_; rintro e w9 ⟨rfl, hb9⟩; have HB9 := Lib.hid (HB1.out.trans (hb9.mono HB1.out.size)); clear hb9))
    go_ret
    exact ⟨rfl, HB9.out⟩
end Go.Proofs.Ytnlhpbnonmdkdaa
