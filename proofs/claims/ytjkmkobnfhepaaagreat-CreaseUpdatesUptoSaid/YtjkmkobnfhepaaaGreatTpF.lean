/- Powers of four. The document's own answer of trees: High, where it is so. What a tree's height is held to, by its items. -/
import Derived.Test.YtjkmkobnfhepaaaGreatItBase
import Derived.WalkMore
import Derived.Deep.QuietTactic
import Derived.BigQuiet
import Derived.Test.YtjkmkobnfhepaaaGreatTreeKQ
namespace Go.Proofs.YtjkmkobnfhepaaaGreat
open Go.RowKit
/-- Powers of four. -/
def four (k : Nat) : Int := 4 ^ k
theorem four_succ (k : Nat) : four (k + 1) = 4 * four k := by unfold four; rw [Int.pow_succ, Int.mul_comm]
theorem four_pos (k : Nat) : 1 ≤ four k := by
  induction k with
  | zero => decide
  | succ k ih => rw [four_succ]; omega
theorem four_le {j k : Nat} (h : j ≤ k) : four j ≤ four k := by
  induction k with
  | zero => obtain rfl : j = 0 := by omega
            exact Int.le_refl _
  | succ k ih =>
    by_cases e : j = k + 1
    · subst e; exact Int.le_refl _
    · have := ih (by omega)
      have := four_pos k
      rw [four_succ]
      omega
set_option maxHeartbeats 2000000 in
theorem high_yes (h n : Nat) (hn : n ≤ 1000000) (h0 : h = 0 ↔ n = 0) (hh : 2 ≤ h → four (h - 2) ≤ (n : Int) + 1) (hs : h ≤ 1000000) (w : World) :
    Calls Tryz.prog 49 #[.int .i64 h, .int .i64 n] w fun e w' => e = .returned (.bool true) ∧ w' = w := by
  have H0 := Lib.hid h0; clear h0
  have HH := Lib.hid hh; clear hh
  go_enter Tryz.func49, Tryz.ntmps49
  go_wp2
  go_loopg [5, 6] h (fun k p i wr => ∃ j : Nat, i = .int .i64 ((j : Int) + 2) ∧ p = .int .i64 (four j) ∧ (j = 0 ∨ j + 2 ≤ h) ∧ h - j ≤ k ∧ wr = w)
  case atStart => exact ⟨0, rfl, rfl, .inl rfl, by omega, rfl⟩
  case round =>
    obtain ⟨j, rfl, rfl, i1, i2, rfl⟩ := hrel
    by_cases hlt : j + 2 < h
    · have hp := HH.out (by omega)
      have hle := four_le (show j + 1 ≤ h - 2 from by omega)
      have hps := four_pos j
      have HS := Lib.hid (four_succ j)
      have hb1 : 4 * four j ≤ (n : Int) + 1 := by rw [← HS.out]; omega
      have hz : (j : Int) + 2 < (h : Int) := by omega
      clear hp hle
      generalize four j = p at *
      go_wp2
      go_roundg (gk - 1)
      case measure => omega
      case rel => exact ⟨j + 1, by go_num, by rw [HS.out], .inr (by omega), by omega, rfl⟩
    · have hz : ¬ (j : Int) + 2 < (h : Int) := by omega
      by_cases e : n = 0
      · have e2 := H0.out.2 e
        subst e e2
        go_wp2
        go_ret
        exact ⟨rfl, rfl⟩
      · have e2 : h ≠ 0 := fun e2 => e (H0.out.1 e2)
        have f1 : ((n : Int) == 0) = false := by simpa using e
        have f2 : ((h : Int) == 0) = false := by simpa using e2
        clear e e2
        go_wp2
        go_ret
        exact ⟨rfl, rfl⟩
theorem p4_four : ∀ n : Nat, ((p4 n : Nat) : Int) = four n
  | 0 => rfl
  | n + 1 => by rw [four_succ, ← p4_four n]; show ((4 * p4 n : Nat) : Int) = _; omega
theorem TT.facts {w : World} {a : Addr} {l : List I7} {h : Nat} (ht : TT w a l h) : Okl l ∧ l.length ≤ 30000 ∧ (h = 0 ↔ l.length = 0) ∧ (2 ≤ h → 2 * four (h - 1) ≤ (l.length : Int)) ∧ h ≤ 30000 := by
  rcases ht with ⟨h1, _⟩ | ⟨b, v, h1, h2, h3, h4, h5⟩
  · cases h1
  · rcases h3 with ⟨rfl, rfl, rfl⟩ | ⟨c, hk, hc⟩
    · exact ⟨h4, h5, ⟨fun _ => rfl, fun _ => rfl⟩, fun h => absurd h (by omega), by omega⟩
    · obtain ⟨x, hx⟩ := hk.pos
      have g1 : c * p4 (h - 1) ≤ l.length := hk.size
      have g2 : 1 ≤ c ∧ c ≤ 8 := hk.cnt
      have g3 := lt_p4 (h - 1)
      have g4 := Nat.mul_le_mul_right (p4 (h - 1)) g2.1
      refine ⟨h4, h5, ⟨fun e => by omega, fun e => by omega⟩, fun h2' => ?_, by omega⟩
      have g5 := Nat.mul_le_mul_right (p4 (h - 1)) (hc h2')
      have g6 := p4_four (h - 1)
      omega
theorem tp_facts {w : World} {p : Option Addr} {l : List I7} {h : Nat} (ht : TP w p l h) : (h = 0 ↔ l.length = 0) ∧ (2 ≤ h → 2 * four (h - 1) ≤ (l.length : Int)) ∧ h ≤ 30000 ∧ l.length ≤ 30000 := by
  cases p with
  | none =>
    rcases ht with ⟨_, rfl, rfl⟩ | ⟨b, v, h1, _⟩
    · exact ⟨by simp, fun h => absurd h (by omega), by omega, by simp⟩
    · cases h1
  | some a =>
    obtain ⟨_, a1, a2, a3, a4⟩ := TT.facts (w := w) (a := a) ht
    exact ⟨a2, a3, a4, a1⟩
end Go.Proofs.YtjkmkobnfhepaaaGreat
