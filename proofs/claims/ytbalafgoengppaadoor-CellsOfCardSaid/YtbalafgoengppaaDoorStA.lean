/- Stops: which sizes tabs may have; how many cells a tab takes; each rune's cells, handed on one by one. -/
import Derived.Test.YtbalafgoengppaaDoorStP
namespace Go.Proofs.YtbalafgoengppaaDoor
open Go.RowKit
set_option linter.unusedVariables false
theorem stRight_yes (tab : Int) (w : World) (h1 : 1 ≤ tab) (h2 : tab ≤ 16) : Calls Tryd.prog 34 #[.int .i64 tab] w fun e w' => e = .returned (.bool true) ∧ w' = w := by
  have k1 : decide (1 ≤ tab) = true := decide_eq_true h1
  have k2 : decide (tab ≤ 16) = true := decide_eq_true h2
  go_enter Tryd.func34, Tryd.ntmps34
  go_wp2
  go_ret
  exact ⟨rfl, rfl⟩
theorem stRight_no (tab : Int) (w : World) (h : ¬ (1 ≤ tab ∧ tab ≤ 16)) : Calls Tryd.prog 34 #[.int .i64 tab] w fun e w' => e = .returned (.bool false) ∧ w' = w := by
  by_cases h1 : 1 ≤ tab
  · have h2 : ¬ tab ≤ 16 := fun h2 => h ⟨h1, h2⟩
    have k1 : decide (1 ≤ tab) = true := decide_eq_true h1
    have k2 : decide (tab ≤ 16) = false := decide_eq_false h2
    go_enter Tryd.func34, Tryd.ntmps34
    go_wp2
    go_ret
    exact ⟨rfl, rfl⟩
  · have k1 : decide (1 ≤ tab) = false := decide_eq_false h1
    go_enter Tryd.func34, Tryd.ntmps34
    go_wp2
    go_ret
    exact ⟨rfl, rfl⟩
theorem stLeft_any (cell tab : Int) (w : World) (h1 : 1 ≤ tab) (h2 : tab ≤ 16) (h3 : 0 ≤ cell) (h4 : cell ≤ 1000000000) : Calls Tryd.prog 45 #[.int .i64 cell, .int .i64 tab] w fun e w' => e = .returned (.int .i64 (tleft tab cell)) ∧ w' = w := by
  have m1 := Int.emod_nonneg cell (show tab ≠ 0 by omega)
  have m2 := Int.emod_lt_of_pos cell (show 0 < tab by omega)
  by_cases hc : cell < 64
  · have HT := Lib.hid (show tleft tab cell = tab - cell % tab by unfold tleft; rw [if_pos hc])
    go_enter Tryd.func45, Tryd.ntmps45
    go_wp2
    go_ret
    exact ⟨ret_int HT.out.symm, rfl⟩
  · have HT := Lib.hid (show tleft tab cell = 1 by unfold tleft; rw [if_neg hc])
    go_enter Tryd.func45, Tryd.ntmps45
    go_wp2
    go_ret
    exact ⟨ret_int HT.out.symm, rfl⟩
set_option maxHeartbeats 1000000 in
/-- How many cells each rune takes is handed on: what holds of those so far holds of all at the end. -/
theorem stEach_any (K : Nat) (caps : Array Value) (tv : Value) (f : Int → Int) (A : Option Addr) (n c : Nat) (l : List Int) (tab : Int) (I : List Int → World → Prop) (w : World)
    (hf : ∀ r, 0 ≤ f r ∧ f r ≤ 2) (h1 : 1 ≤ tab) (h2 : tab ≤ 16)
    (hK : ∀ (args : Array Value) (w : World), (callFunc K args).run Tryd.prog w = .ok (.enter K args) w)
    (hl : l.length = n) (hn : n ≤ 1000000)
    (hA : ∀ d W, I d W → IntsAt .i32 W A l) (hI : ∀ d W W', I d W → Below W.heap.size W W' → I d W')
    (CO : ∀ d W r, I d W → Calls Tryd.prog 44 #[tv, .int .i32 r] W fun e w' => e = .returned (.int .i64 (f r)) ∧ Below W.heap.size W w')
    (CK : ∀ d x r W, d ++ x :: r = szs f tab 0 l → I d W → Calls Tryd.prog K (#[.int .i64 x] ++ caps) W fun e w' => e = .returned (.tuple #[]) ∧ I (d ++ [x]) w')
    (h0 : I [] w) :
    Calls Tryd.prog 35 #[tv, .slice A n c, .int .i64 tab, .func (.func K) #[] caps] w fun e w' => e = .returned (.tuple #[]) ∧ I (szs f tab 0 l) w' := by
  have HL := Lib.hid hl
  have HA := Lib.hid hA
  have HI := Lib.hid hI
  have HO := Lib.hid CO
  have HK := Lib.hid CK
  have HF := Lib.hid hf
  have H0 := Lib.hid h0
  clear hl hA hI CO CK hf h0
  go_enter Tryd.func35, Tryd.ntmps35
  go_wp2_with fail
  go_loopg [8, 10, 11, 14] n (fun g a r x i wr => ∃ (j : Nat) (p : Int) (d : List Int), i = .int .i64 j ∧ j ≤ n ∧ n - j ≤ g ∧ a = .int .i64 p ∧ 0 ≤ p ∧ p ≤ 16 * j ∧ Hid (I d wr) ∧ Hid (d ++ szs f tab p (l.drop j) = szs f tab 0 l))
  case atStart => exact ⟨0, 0, [], rfl, by omega, by omega, rfl, by omega, by omega, H0, Lib.hid rfl⟩
  case round =>
    obtain ⟨j, p, d, rfl, g1, g2, rfl, p1, p2, hId, hst⟩ := hrel
    by_cases hlt : j < n
    · have hjl : j < l.length := by rw [HL.out]; exact hlt
      obtain ⟨bA, off, rfl, hbA, hce⟩ := HA.out d wr hId.out (by omega)
      have d0 := hce j hjl
      have hs := hst.out
      rw [List.drop_eq_getElem_cons hjl, szs] at hs
      have e : l[j] = nth l j := by simp [nth, List.getD, hjl]
      rw [e] at hs
      clear hce e hst
      generalize nth l j = r at *
      have i1 : (0 : Int) ≤ j := by omega
      have i2 : (j : Int) < n := by omega
      have bx := csz_bd HF.out h1 h2 p1 r
      by_cases hr : r = 9
      · subst hr
        have CL := Lib.hid fun W => stLeft_any p tab W h1 h2 p1 (by omega)
        have HX : Hid (csz f tab p 9 = tleft tab p) := Lib.hid (by unfold csz; rw [if_pos rfl])
        rw [HX.out] at hs bx
        have HS := Lib.hid hs
        clear hs
        generalize tleft tab p = x at *
        obtain ⟨b1, b2⟩ := bx
        go_wp2_with fail
        with_reducible refine (HO.out d _ 9 hId.out).mono ?_
        rintro e w4 ⟨rfl, hb4⟩
        have I4 := Lib.hid (HI.out d wr _ hId.out hb4)
        go_wp2_with fail
        with_reducible refine (CL.out _).mono ?_
        rintro e w5 ⟨rfl, rfl⟩
        have CK1 := Lib.hid (HK.out d x _ _ HS.out I4.out)
        have HS2 := Lib.hid (show (d ++ [x]) ++ szs f tab (p + x) (l.drop (j + 1)) = szs f tab 0 l from by rw [List.append_assoc]; exact HS.out)
        clear HS HX
        go_wp2_with fail
        refine CK1.out.mono ?_
        rintro e w6 ⟨rfl, hI6⟩
        have HI6 := Lib.hid hI6
        clear hI6 CK1 I4
        go_wp2
        go_roundg (gk - 1)
        case measure => omega
        case rel => exact ⟨j + 1, p + x, d ++ [x], by go_num, by omega, by omega, rfl, by omega, by omega, HI6, HS2⟩
      · have k1 : (r == 9) = false := by simpa using hr
        have HX : Hid (csz f tab p r = f r) := Lib.hid (by unfold csz; rw [if_neg hr])
        rw [HX.out] at hs bx
        have HS := Lib.hid hs
        have CO1 := Lib.hid (HO.out d _ r hId.out)
        clear hs hr
        generalize f r = x at *
        obtain ⟨b1, b2⟩ := bx
        go_wp2_with fail
        with_reducible refine (CO1.out).mono ?_
        rintro e w4 ⟨rfl, hb4⟩
        have I4 := Lib.hid (HI.out d wr _ hId.out hb4)
        have CK1 := Lib.hid (HK.out d x _ _ HS.out I4.out)
        have HS2 := Lib.hid (show (d ++ [x]) ++ szs f tab (p + x) (l.drop (j + 1)) = szs f tab 0 l from by rw [List.append_assoc]; exact HS.out)
        clear HS HX
        go_wp2_with fail
        refine CK1.out.mono ?_
        rintro e w6 ⟨rfl, hI6⟩
        have HI6 := Lib.hid hI6
        clear hI6 CK1 I4
        go_wp2
        go_roundg (gk - 1)
        case measure => omega
        case rel => exact ⟨j + 1, p + x, d ++ [x], by go_num, by omega, by omega, rfl, by omega, by omega, HI6, HS2⟩
    · obtain rfl : j = n := by omega
      have hs := hst.out
      rw [List.drop_of_length_le (by rw [HL.out]; omega), szs, List.append_nil] at hs
      subst hs
      go_wp2
      exact bodyPost_end (v := .tuple #[]) (by simp [results, Tryd.results35, go_sem]) rfl ⟨rfl, hId.out⟩
end Go.Proofs.YtbalafgoengppaaDoor
