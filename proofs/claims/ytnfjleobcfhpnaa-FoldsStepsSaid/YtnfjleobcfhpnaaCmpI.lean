/- The library's cmp at int: isNaN, Compare, Or. -/
import Derived.Test.YtnfjleobcfhpnaaBase
import Derived.Deep.RegionHeld3
namespace Go.Proofs.Ytnfjleobcfhpnaa
open Go.RowKit
set_option linter.unusedVariables false
/-- Which of two numbers is ahead. -/
def cmpI (x y : Int) : Int := if x < y then -1 else if y < x then 1 else 0
/-- The first that is not 0. -/
def orr : List Int → Int
  | [] => 0
  | x :: l => if x = 0 then orr l else x
theorem orr_drop {l : List Int} {j : Nat} (h : j < l.length) : orr (l.drop j) = if nth l j = 0 then orr (l.drop (j + 1)) else nth l j := by
  have e : nth l j = l[j] := by simp [nth, List.getD, h]
  rw [List.drop_eq_getElem_cons h, e]
  rfl
set_option maxHeartbeats 4000000 in
set_option maxRecDepth 100000 in
theorem isNaN_any (x : Int) (w : World) : Calls Try.prog 91 #[.int .i64 x] w fun e w' => e = .returned (.bool false) ∧ w' = w := by
  have k1 : (x != x) = false := by simp
  go_enter Try.func91, Try.ntmps91
  go_wp2
  go_ret
  exact ⟨rfl, rfl⟩
set_option maxHeartbeats 4000000 in
set_option maxRecDepth 100000 in
theorem cmpInt_any (x y : Int) (w : World) : Calls Try.prog 64 #[.int .i64 x, .int .i64 y] w fun e w' => e = .returned (.int .i64 (cmpI x y)) ∧ w' = w := by
  have C := Lib.hid fun z => isNaN_any z w
  have CX : Hid (cmpI x y = if x < y then -1 else if y < x then 1 else 0) := Lib.hid rfl
  generalize cmpI x y = r at *
  by_cases h1 : x < y
  · have k1 : decide (x < y) = true := decide_eq_true h1
    have e : r = -1 := by rw [CX.out, if_pos h1]
    subst e
    clear h1
    go_enter Try.func64, Try.ntmps64
    go_wp2_with (go_at_call 91; (with_reducible refine (C.out _).mono ?_); rintro e w1 ⟨rfl, rfl⟩)
    go_ret
    exact ⟨rfl, rfl⟩
  · have k1 : decide (x < y) = false := decide_eq_false h1
    by_cases h2 : y < x
    · have k2 : decide (y < x) = true := decide_eq_true h2
      have e : r = 1 := by rw [CX.out, if_neg h1, if_pos h2]
      subst e
      clear h1 h2
      go_enter Try.func64, Try.ntmps64
      go_wp2_with (go_at_call 91; (with_reducible refine (C.out _).mono ?_); rintro e w1 ⟨rfl, rfl⟩)
      go_ret
      exact ⟨rfl, rfl⟩
    · have k2 : decide (y < x) = false := decide_eq_false h2
      have e : r = 0 := by rw [CX.out, if_neg h1, if_neg h2]
      subst e
      clear h1 h2
      go_enter Try.func64, Try.ntmps64
      go_wp2_with (go_at_call 91; (with_reducible refine (C.out _).mono ?_); rintro e w1 ⟨rfl, rfl⟩)
      go_ret
      exact ⟨rfl, rfl⟩
set_option maxHeartbeats 4000000 in
set_option maxRecDepth 100000 in
theorem orInt_any (A : Option Addr) (n c : Nat) (l : List Int) (w : World) (hA : IntsAt .i64 w A l) (hl : l.length = n) (hn : n ≤ 1000) : Calls Try.prog 63 #[.slice A n c] w fun e w' => e = .returned (.int .i64 (orr l)) ∧ w' = w := by
  have HA := Lib.hid hA
  have HL := Lib.hid hl
  clear hA hl
  go_enter Try.func63, Try.ntmps63
  go_wp2_with fail
  go_loopg [8] n (fun g i wr => ∃ j : Nat, i = .int .i64 j ∧ j ≤ n ∧ n - j ≤ g ∧ wr = w ∧ Hid (orr l = orr (l.drop j)))
  case atStart => exact ⟨0, rfl, by omega, by omega, rfl, Lib.hid rfl⟩
  case round =>
    obtain ⟨j, rfl, h1, h2, rfl, ho⟩ := hrel
    by_cases hlt : j < n
    · have hjl : j < l.length := by rw [HL.out]; exact hlt
      obtain ⟨b, off, rfl, _, hc⟩ := HA.out (by omega)
      have e0 := hc j hjl
      have ho2 := ho.out
      rw [orr_drop hjl] at ho2
      have HO2 := Lib.hid ho2
      clear hc ho ho2
      generalize nth l j = x at *
      have i1 : (0 : Int) ≤ j := by omega
      have i2 : (j : Int) < n := by omega
      by_cases hx : x = 0
      · have k1 : (x != 0) = false := by simp [hx]
        have HN : Hid (orr l = orr (l.drop (j + 1))) := Lib.hid (by rw [HO2.out, if_pos hx])
        clear hx
        go_wp2
        go_roundg (gk - 1)
        case measure => omega
        case rel => exact ⟨j + 1, by go_num, by omega, by omega, rfl, HN⟩
      · have k1 : (x != 0) = true := by simp [hx]
        have k2 : (x == 0) = false := by simp [hx]
        have k3 : decide (x = 0) = false := decide_eq_false hx
        have HN : Hid (orr l = x) := Lib.hid (by rw [HO2.out, if_neg hx])
        clear hx
        go_wp2
        go_ret
        exact ⟨by rw [HN.out]; rfl, rfl⟩
    · have hj : j = n := by omega
      have e : orr l = 0 := by rw [ho.out, List.drop_of_length_le (by rw [HL.out]; omega)]; rfl
      have HE := Lib.hid e
      clear e
      subst hj
      go_wp2
      go_ret
      exact ⟨by rw [HE.out]; rfl, rfl⟩
end Go.Proofs.Ytnfjleobcfhpnaa
