/- Breaks: blanks, boundary, alone, fit. -/
import Derived.Test.YtnlhpbnonmdkdaaClA
import Derived.Test.YtnlhpbnonmdkdaaBrP
namespace Go.Proofs.Ytnlhpbnonmdkdaa
open Go.RowKit
set_option linter.unusedVariables false
theorem isB_iff (o : Cl) : isB o = true ↔ o.r = 32 ∨ o.r = 9 := by simp [isB]
theorem cBlank_is (o : Cl) (b : Bool) (hb : isB o = b) (w : World) :
    Calls Try.prog 46 #[.agg #[.int .i32 o.r, .int .i64 o.k, .int .i64 o.wd, .int .i64 o.p]] w fun e w' => e = .returned (.bool b) ∧ Below w.heap.size w w' :=
  cBlank_any o b (by rw [← hb]; exact isB_iff o) w
set_option maxHeartbeats 4000000 in
set_option maxRecDepth 100000 in
theorem bBlanks_any (A : Option Addr) (n c : Nat) (l : List Cl) (w : World) (hA : RowsAt encC 4 w A l) (hl : l.length = n) (hn : n ≤ 1000000) :
    Calls Try.prog 38 #[.slice A n c] w fun e w' => e = .returned (.int .i64 (nbl l)) ∧ Below w.heap.size w w' := by
  have HA := Lib.hid hA
  have HL := Lib.hid hl
  clear hA hl
  go_enter Try.func38, Try.ntmps38
  go_wp2_with fail
  go_loopg [3] n (fun g i wr => ∃ (j : Nat), i = .int .i64 j ∧ j ≤ n ∧ n - j ≤ g ∧ Hid (∀ i (h : i < l.length), i < j → isB l[i] = true) ∧ Hid (Below w.heap.size w wr))
  case atStart => exact ⟨0, rfl, by omega, by omega, Lib.hid (fun i h hi => by omega), Lib.hid (Below.refl _ _)⟩
  case round =>
    obtain ⟨j, rfl, h1, h2, hs, hb⟩ := hrel
    by_cases hlt : j < n
    · have hjl : j < l.length := by rw [HL.out]; exact hlt
      obtain ⟨bA, off, rfl, hbA, d0, d1, d2, d3⟩ := (HA.out.below hb.out).cell4 hjl
      have i1 : (0 : Int) ≤ j := by omega
      have i2 : (j : Int) < n := by omega
      obtain ⟨bv, hbv⟩ : ∃ bv, isB l[j] = bv := ⟨_, rfl⟩
      have HBV := Lib.hid hbv
      cases bv
      · have he : nbl l = j := nbl_eq hs.out (fun _ => hbv) (by omega)
        have HE := Lib.hid he
        clear he hbv
        generalize l[j] = o at *
        go_wp2_with (refine (cBlank_is o false HBV.out _).mono ?_; rintro e w1 ⟨rfl, hb1⟩)
        have HB1 := Lib.hid hb1
        clear hb1
        go_wp2
        go_ret
        exact ⟨by rw [HE.out]; rfl, hb.out.trans (HB1.out.mono hb.out.size)⟩
      · have HS : Hid (∀ i (h : i < l.length), i < j + 1 → isB l[i] = true) := Lib.hid (fun i h hi => by
          rcases Nat.lt_or_ge i j with g | g
          · exact hs.out i h g
          · obtain rfl : i = j := by omega
            exact hbv)
        clear hbv
        generalize l[j] = o at *
        go_wp2_with (refine (cBlank_is o true HBV.out _).mono ?_; rintro e w1 ⟨rfl, hb1⟩)
        have HB1 := Lib.hid hb1
        clear hb1
        go_wp2_with fail
        go_roundg (gk - 1)
        case measure => omega
        case rel => exact ⟨j + 1, by go_num, by omega, by omega, HS, Lib.hid (hb.out.trans (HB1.out.mono hb.out.size))⟩
    · obtain rfl : j = n := by omega
      have he : nbl l = j := nbl_eq hs.out (fun h => by rw [HL.out] at h; omega) (by rw [HL.out]; omega)
      have HE := Lib.hid he
      clear he
      go_wp2
      go_ret
      exact ⟨by rw [HE.out]; rfl, hb.out⟩
set_option maxHeartbeats 4000000 in
set_option maxRecDepth 100000 in
theorem bAlone_any (A : Option Addr) (n c : Nat) (l : List Cl) (w : World) (hA : RowsAt encC 4 w A l) (hl : l.length = n) (hn : n ≤ 1000000) (h0 : 0 < n) :
    Calls Try.prog 52 #[.slice A n c] w fun e w' => e = .returned (.int .i64 (alo l)) ∧ Below w.heap.size w w' := by
  have HA := Lib.hid hA
  have HL := Lib.hid hl
  clear hA hl
  go_enter Try.func52, Try.ntmps52
  go_wp2_with fail
  go_loopg [3] n (fun g i wr => ∃ (j : Nat), i = .int .i64 j ∧ 0 < j ∧ j ≤ n ∧ n - j ≤ g ∧ Hid (∀ i (h : i < l.length), 0 < i → i < j → l[i].wd = 0) ∧ Hid (Below w.heap.size w wr))
  case atStart => exact ⟨1, rfl, by omega, by omega, by omega, Lib.hid (fun i h hi hj => by omega), Lib.hid (Below.refl _ _)⟩
  case round =>
    obtain ⟨j, rfl, h0j, h1, h2, hs, hb⟩ := hrel
    by_cases hlt : j < n
    · have hjl : j < l.length := by rw [HL.out]; exact hlt
      obtain ⟨bA, off, rfl, hbA, d0, d1, d2, d3⟩ := (HA.out.below hb.out).cell4 hjl
      have i1 : (0 : Int) ≤ j := by omega
      have i2 : (j : Int) < n := by omega
      by_cases hz : l[j].wd = 0
      · have HS : Hid (∀ i (h : i < l.length), 0 < i → i < j + 1 → l[i].wd = 0) := Lib.hid (fun i h h0 hi => by
          rcases Nat.lt_or_ge i j with g | g
          · exact hs.out i h h0 g
          · obtain rfl : i = j := by omega
            exact hz)
        rw [hz] at d2
        clear hz d0 d1 d3
        go_wp2_with fail
        go_roundg (gk - 1)
        case measure => omega
        case rel => exact ⟨j + 1, by go_num, by omega, by omega, by omega, HS, hb⟩
      · have he : alo l = j := alo_eq h0j hs.out (fun _ => hz) (by omega)
        have HE := Lib.hid he
        have k1 : (l[j].wd == 0) = false := by simpa using hz
        generalize l[j] = o at *
        clear d0 d1 d3 he
        go_wp2
        go_ret
        exact ⟨by rw [HE.out]; rfl, hb.out⟩
    · obtain rfl : j = n := by omega
      have he : alo l = j := alo_eq h0j hs.out (fun h => by rw [HL.out] at h; omega) (by rw [HL.out]; omega)
      have HE := Lib.hid he
      clear he
      go_wp2
      go_ret
      exact ⟨by rw [HE.out]; rfl, hb.out⟩
end Go.Proofs.Ytnlhpbnonmdkdaa
