/- The document's own answers of trees: Same, where all is the same; High, where it is so. -/
import Derived.Test.YtbbplppcabeojaaItOwn
import Derived.Test.YtbbplppcabeojaaEq3
import Derived.Deep.QuietTactic
import Derived.BigQuiet
namespace Go.Proofs.Ytbbplppcabeojaa
open Go.RowKit
set_option maxHeartbeats 4000000 in
set_option maxRecDepth 100000 in
theorem same_yes (A B : Option Addr) (n c d : Nat) (l : List I7) (w : World) (hA : ItsAt w A l) (hB : ItsAt w B l) (hl : l.length = n) (hn : n ≤ 100000) :
    Calls Try.prog 56 #[.slice A n c, .slice B n d] w fun e w' => e = .returned (.bool true) ∧ Below w.heap.size w w' := by
  have HEQ := eq3
  have HA := Lib.hid hA; clear hA
  have HB := Lib.hid hB; clear hB
  have HL := Lib.hid hl; clear hl
  go_enter Try.func56, Try.ntmps56
  go_wp2
  go_loopg [8] n (fun k i wr => ∃ j : Nat, i = .int .i64 j ∧ j ≤ n ∧ n - j ≤ k ∧ Below w.heap.size w wr)
  case atStart => exact ⟨0, rfl, by omega, by omega, Below.refl _ _⟩
  case round =>
    obtain ⟨j, rfl, h1, h2, hb⟩ := hrel
    by_cases hlt : j < n
    · have hm : j < l.length := by rw [HL.out]; exact hlt
      obtain ⟨b, off, rfl, hbs, hc⟩ := HA.out (by omega)
      obtain ⟨e0, e1, e2, e3, e4, e5, e6⟩ := hc j hm
      clear hc
      obtain ⟨b', off', rfl, hbs', hc⟩ := HB.out (by omega)
      obtain ⟨g0, g1, g2, g3, g4, g5, g6⟩ := hc j hm
      clear hc
      obtain ⟨H1, H2⟩ := old_cells hb
      rw [← H1 _ _ hbs] at e0 e1 e2 e3 e4 e5 e6
      rw [← H1 _ _ hbs'] at g0 g1 g2 g3 g4 g5 g6
      clear H1 H2
      generalize ith l j = x at *
      have hi1 : (j : Int) < (n : Int) := by omega
      have hi2 : (0 : Int) ≤ (j : Int) := by omega
      have hd : decide ((n : Int) ≤ (j : Int)) = false := by simpa using hlt
      go_wp2_with fail
      go_quiet (fail)
      go_wp2
      go_roundg (gk - 1)
      case measure => omega
      case rel => exact ⟨j + 1, by go_num, by omega, by omega, drewN_below hb _⟩
    · have hj : n ≤ j := by omega
      have HJ := Lib.hid hj; clear hj
      go_wp2
      go_ret
      exact ⟨rfl, hb⟩
/-- Powers of four. -/
def four (k : Nat) : Int := 4 ^ k
theorem four_succ (k : Nat) : four (k + 1) = 4 * four k := by unfold four; rw [Int.pow_succ, Int.mul_comm]
theorem four_pos (k : Nat) : 1 ≤ four k := by
  induction k with
  | zero => decide
  | succ k ih => rw [four_succ]; omega
theorem four_le {j k : Nat} (h : j ≤ k) : four j ≤ four k := by
  induction k with
  | zero => obtain rfl : j = 0 := by omega
            exact Int.le_refl _
  | succ k ih =>
    by_cases e : j = k + 1
    · subst e; exact Int.le_refl _
    · have := ih (by omega)
      have := four_pos k
      rw [four_succ]
      omega
set_option maxHeartbeats 2000000 in
theorem high_yes (h n : Nat) (hn : n ≤ 1000000) (h0 : h = 0 ↔ n = 0) (hh : 2 ≤ h → four (h - 2) ≤ (n : Int) + 1) (hs : h ≤ 1000000) (w : World) :
    Calls Try.prog 60 #[.int .i64 h, .int .i64 n] w fun e w' => e = .returned (.bool true) ∧ w' = w := by
  have H0 := Lib.hid h0; clear h0
  have HH := Lib.hid hh; clear hh
  go_enter Try.func60, Try.ntmps60
  go_wp2
  go_loopg [5, 6] h (fun k p i wr => ∃ j : Nat, i = .int .i64 ((j : Int) + 2) ∧ p = .int .i64 (four j) ∧ (j = 0 ∨ j + 2 ≤ h) ∧ h - j ≤ k ∧ wr = w)
  case atStart => exact ⟨0, rfl, rfl, .inl rfl, by omega, rfl⟩
  case round =>
    obtain ⟨j, rfl, rfl, i1, i2, rfl⟩ := hrel
    by_cases hlt : j + 2 < h
    · have hp := HH.out (by omega)
      have hle := four_le (show j + 1 ≤ h - 2 from by omega)
      have hps := four_pos j
      have HS := Lib.hid (four_succ j)
      have hb1 : 4 * four j ≤ (n : Int) + 1 := by rw [← HS.out]; omega
      have hz : (j : Int) + 2 < (h : Int) := by omega
      clear hp hle
      generalize four j = p at *
      go_wp2
      go_roundg (gk - 1)
      case measure => omega
      case rel => exact ⟨j + 1, by go_num, by rw [HS.out], .inr (by omega), by omega, rfl⟩
    · have hz : ¬ (j : Int) + 2 < (h : Int) := by omega
      by_cases e : n = 0
      · have e2 := H0.out.2 e
        subst e e2
        go_wp2
        go_ret
        exact ⟨rfl, rfl⟩
      · have e2 : h ≠ 0 := fun e2 => e (H0.out.1 e2)
        have f1 : ((n : Int) == 0) = false := by simpa using e
        have f2 : ((h : Int) == 0) = false := by simpa using e2
        clear e e2
        go_wp2
        go_ret
        exact ⟨rfl, rfl⟩
end Go.Proofs.Ytbbplppcabeojaa
