/- The law RopeSlices. -/
import Derived.Test.YtglalmhpgdgeeaaGreatDoorRWide
import Derived.Test.YtglalmhpgdgeeaaGreatDoorRAtY
import Derived.Test.YtglalmhpgdgeeaaGreatDoorRPut
import Derived.Test.YtglalmhpgdgeeaaGreatDoorRDec
namespace Go.Proofs.YtglalmhpgdgeeaaGreatDoor
open Go.RowKit
set_option maxHeartbeats 8000000 in
set_option maxRecDepth 100000 in
theorem ropeSlices_walk (s : ByteArray) (x y : Int) (w : World) (hu : UTabs w) (_hs : s.size ≤ maxLen) (_hx : Lit.wf (.int .i64 x)) (_hy : Lit.wf (.int .i64 y)) : Calls Tryz.prog 3 #[.string s, .int .i64 x, .int .i64 y] w fun e w' => e = .returned (.bool true) ∧ Below w.heap.size w w' := by
  have CW := Lib.hid fun W => wide_any W
  clear _hx _hy
  by_cases hl : 2000 < s.size
  · go_enter Tryz.func3, Tryz.ntmps3
    go_wp2_with fail
    refine (CW.out _).mono ?_
    rintro e w1 ⟨rfl, hb1⟩
    go_wp2_with fail
    go_ret
    exact ⟨rfl, hb1⟩
  have hsl : s.size ≤ 2000 := by omega
  have hdl := dec_len s
  have CN := Lib.hid (rnew_any s w (by omega) (by omega))
  have CD := Lib.hid fun W => rdecode_any s W (by omega)
  obtain ⟨D, hD⟩ : ∃ D, D = dec s := ⟨_, rfl⟩
  have HD := Lib.hid hD
  rw [← hD] at CD CN hdl
  clear hl hD
  have hDl : D.length ≤ 2000 := by omega
  have HU := Lib.hid hu
  clear hu
  go_enter Tryz.func3, Tryz.ntmps3
  go_wp2_with fail
  refine CN.out.mono ?_
  rintro e w1 ⟨b, ps, h, rfl, hR, hf, hb1⟩
  have HR := Lib.hid hR
  have HFl := Lib.hid hf
  clear hR hf
  go_wp2_with fail
  refine (CD.out _).mono ?_
  rintro e w2 ⟨A, c, rfl, hb2, hI, hC⟩
  have HI := Lib.hid hI
  have HC := Lib.hid hC
  have a2 := hb1.trans (hb2.mono hb1.size)
  clear hI hC CN CD
  have CIn := Lib.hid fun (W : World) (sb : Bool) (hsb : sb = true ↔ 0 ≤ x ∧ x ≤ y ∧ y ≤ (D.length : Int)) => inside_any (D.length : Int) x y W sb hsb
  by_cases hin : 0 ≤ x ∧ x ≤ y ∧ y ≤ (D.length : Int)
  · obtain ⟨a, rfl⟩ : ∃ a : Nat, x = a := ⟨x.toNat, by omega⟩
    obtain ⟨q, rfl⟩ : ∃ q : Nat, y = (a : Int) + (q : Int) := ⟨(y - a).toNat, by omega⟩
    have haq : a + q ≤ D.length := by omega
    have CI := Lib.hid fun (W : World) => CIn.out W true ⟨fun _ => hin, fun _ => rfl⟩
    have CS := Lib.hid (by
      have := rslice_any (HR.out.below hb2) a (a + q) (by omega) (by rw [HFl.out]; exact haq)
      rwa [HFl.out, show ((a + q : Nat) : Int) = (a : Int) + (q : Int) from by omega, show (D.take (a + q)).drop a = (D.drop a).take q from by rw [List.drop_take, Nat.add_sub_cancel_left]] at this : Calls Tryz.prog 7 #[.pointer (some ⟨b, 0, none⟩), .int .i64 (a : Int), .int .i64 ((a : Int) + (q : Int))] w2 fun e w' => e = .returned (.tuple #[.string (txt ((D.drop a).take q)), .int .i64 0]) ∧ Below w2.heap.size w2 w')
    obtain ⟨i0_, hi0, hz0, hz1, hz2⟩ := info_parts i32_info
    have hcc := HC.out.1
    have hs := fun W => cut_both (P := Tryz.prog) Tryz.underlying27 hi0 (by kernel_rfl) A D.length c a q (by omega) W
    have CE := Lib.hid fun (W : World) (hW : Below w2.heap.size w2 W) => (by
      have := rencode_any (cutA A c a) q (c - a) ((D.drop a).take q) W ((HI.out.below hW).cut rfl hcc a q haq) (by rw [List.length_take, List.length_drop]; omega) (by omega)
      exact this : Calls Tryz.prog 10 #[.slice (cutA A c a) q (c - a)] W fun e w' => e = .returned (.string (txt ((D.drop a).take q))) ∧ Below W.heap.size W w')
    generalize txt ((D.drop a).take q) = tl at *
    generalize cutA A c a = cA at *
    clear CIn hin
    go_wp2_with fail
    refine CS.out.mono ?_
    rintro e w3 ⟨rfl, hb3⟩
    have q3 := hb3
    by_cases hat : a < D.length
    · have CA := Lib.hid (by
        have := rat_yes ((HR.out.below hb2).below hb3) a (by rw [HFl.out]; exact hat) (HU.out.below (a2.trans (hb3.mono a2.size)))
        rwa [HFl.out] at this : Calls Tryz.prog 8 #[.pointer (some ⟨b, 0, none⟩), .int .i64 (a : Int)] w3 fun e w' => e = .returned (.tuple #[.int .i32 (nth D a), .int .i64 0]) ∧ Below w3.heap.size w3 w')
      obtain ⟨bA, off, hBA, hbA, hcell⟩ := HI.out (by omega)
      have d0 := hcell a hat
      clear hcell
      generalize nth D a = rr at *
      have i0 : (0 : Int) ≤ (a : Int) := by omega
      have i1 : (a : Int) < (D.length : Int) := by omega
      have k1 : decide ((a : Int) < 0) = false := decide_eq_false (by omega)
      have k2 : decide ((D.length : Int) ≤ (a : Int)) = false := decide_eq_false (by omega)
      generalize D.length = n at *
      go_wp2_with fail
      refine CA.out.mono ?_
      rintro e w4 ⟨rfl, hb4⟩
      have q4 := q3.trans (hb4.mono q3.size)
      have e0 := ((old_cells q4).1 _ _ hbA).trans d0
      clear d0 CA
      subst hBA
      go_wp2_with fail
      refine (CI.out _).mono ?_
      rintro e w5 ⟨rfl, hw5⟩
      have hw5 := hw5.symm
      subst hw5
      go_wp2_with fail
      refine (CE.out _ q4).mono ?_
      rintro e w6 ⟨rfl, hb6⟩
      have q6 := q4.trans (hb6.mono q4.size)
      go_wp2_with fail
      refine (CW.out _).mono ?_
      rintro e w7 ⟨rfl, hb7⟩
      have q7 := q6.trans (hb7.mono q6.size)
      go_wp2_with fail
      go_ret
      exact ⟨rfl, a2.trans (q7.mono a2.size)⟩
    · have hxe : a = D.length := by omega
      have CA := Lib.hid (rat_no ((HR.out.below hb2).below hb3) (a : Int) (by rw [HFl.out]; omega))
      have i1 : ¬ ((a : Int) < (D.length : Int)) := by omega
      have k1 : decide ((a : Int) < 0) = false := decide_eq_false (by omega)
      have k2 : decide ((D.length : Int) ≤ (a : Int)) = true := decide_eq_true (by omega)
      clear hxe hat
      generalize D.length = n at *
      go_wp2_with fail
      refine CA.out.mono ?_
      rintro e w4 ⟨rfl, hb4⟩
      have q4 := q3.trans (hb4.mono q3.size)
      go_wp2_with fail
      refine (CI.out _).mono ?_
      rintro e w5 ⟨rfl, hw5⟩
      have hw5 := hw5.symm
      subst hw5
      go_wp2_with fail
      refine (CE.out _ q4).mono ?_
      rintro e w6 ⟨rfl, hb6⟩
      have q6 := q4.trans (hb6.mono q4.size)
      go_wp2_with fail
      refine (CW.out _).mono ?_
      rintro e w7 ⟨rfl, hb7⟩
      have q7 := q6.trans (hb7.mono q6.size)
      go_wp2_with fail
      go_ret
      exact ⟨rfl, a2.trans (q7.mono a2.size)⟩
  · have CI := Lib.hid fun (W : World) => CIn.out W false ⟨fun h => absurd h (by decide), fun h => absurd h hin⟩
    have CS := Lib.hid (rslice_no (HR.out.below hb2) x y (by rw [HFl.out]; exact hin))
    clear CIn hin
    go_wp2_with fail
    refine CS.out.mono ?_
    rintro e w3 ⟨rfl, hb3⟩
    have q3 := hb3
    by_cases hat : 0 ≤ x ∧ x < (D.length : Int)
    · obtain ⟨a, rfl⟩ : ∃ a : Nat, x = a := ⟨x.toNat, by omega⟩
      have hat : a < D.length := by omega
      have CA := Lib.hid (by
        have := rat_yes ((HR.out.below hb2).below hb3) a (by rw [HFl.out]; exact hat) (HU.out.below (a2.trans (hb3.mono a2.size)))
        rwa [HFl.out] at this : Calls Tryz.prog 8 #[.pointer (some ⟨b, 0, none⟩), .int .i64 (a : Int)] w3 fun e w' => e = .returned (.tuple #[.int .i32 (nth D a), .int .i64 0]) ∧ Below w3.heap.size w3 w')
      obtain ⟨bA, off, hBA, hbA, hcell⟩ := HI.out (by omega)
      have d0 := hcell a hat
      clear hcell
      generalize nth D a = rr at *
      have i0 : (0 : Int) ≤ (a : Int) := by omega
      have i1 : (a : Int) < (D.length : Int) := by omega
      have k1 : decide ((a : Int) < 0) = false := decide_eq_false (by omega)
      have k2 : decide ((D.length : Int) ≤ (a : Int)) = false := decide_eq_false (by omega)
      generalize D.length = n at *
      go_wp2_with fail
      refine CA.out.mono ?_
      rintro e w4 ⟨rfl, hb4⟩
      have q4 := q3.trans (hb4.mono q3.size)
      have e0 := ((old_cells q4).1 _ _ hbA).trans d0
      clear d0 CA
      subst hBA
      go_wp2_with fail
      refine (CI.out _).mono ?_
      rintro e w5 ⟨rfl, hw5⟩
      have hw5 := hw5.symm
      subst hw5
      go_wp2_with fail
      refine (CW.out _).mono ?_
      rintro e w7 ⟨rfl, hb7⟩
      have q7 := q4.trans (hb7.mono q4.size)
      go_wp2_with fail
      go_ret
      exact ⟨rfl, a2.trans (q7.mono a2.size)⟩
    · have CA := Lib.hid (rat_no ((HR.out.below hb2).below hb3) x (by rw [HFl.out]; exact hat))
      have hor : decide (x < 0) = true ∨ (decide (x < 0) = false ∧ decide ((D.length : Int) ≤ x) = true) := by
        simp only [decide_eq_true_eq, decide_eq_false_iff_not]; omega
      clear hat
      generalize D.length = n at *
      rcases hor with k1 | ⟨k1, k2⟩
      all_goals
        go_wp2_with fail
        refine CA.out.mono ?_
        rintro e w4 ⟨rfl, hb4⟩
        have q4 := q3.trans (hb4.mono q3.size)
        go_wp2_with fail
        refine (CI.out _).mono ?_
        rintro e w5 ⟨rfl, hw5⟩
        have hw5 := hw5.symm
        subst hw5
        go_wp2_with fail
        refine (CW.out _).mono ?_
        rintro e w7 ⟨rfl, hb7⟩
        have q7 := q4.trans (hb7.mono q4.size)
        go_wp2_with fail
        go_ret
        exact ⟨rfl, a2.trans (q7.mono a2.size)⟩
end Go.Proofs.YtglalmhpgdgeeaaGreatDoor
