/- Batches: equal edits; how long a text and a batch are for the laws. -/
import Derived.Test.YtglalmhpgdgeeaaEdq
namespace Go.Proofs.Ytglalmhpgdgeeaa
open Go.RowKit
/-- Are a text and a batch more than are gone through? -/
def LongP (n : Nat) (l : List E3) : Prop := 1000 < n ∨ 100 < l.length ∨ (∃ j, j < l.length ∧ 1000 < (eth l j).x.size) ∨ 3000 < tsum l
set_option maxHeartbeats 4000000 in
set_option maxRecDepth 100000 in
theorem blong_any (s : ByteArray) (A : Option Addr) (m c : Nat) (l : List E3) (w : World) (hA : EdsAt w A l) (hl : l.length = m) (lb : Bool) (hlb : lb = true ↔ LongP s.size l) :
    Calls Try.prog 15 #[.string s, .slice A m c] w fun e w' => e = .returned (.bool lb) ∧ Below w.heap.size w w' := by
  have HA := Lib.hid hA; clear hA
  have HY := Lib.hid hlb.2
  have HN := Lib.hid (fun (h : ¬ LongP s.size l) => (by cases lb; rfl; exact absurd (hlb.1 rfl) h : lb = false))
  clear hlb
  by_cases g1 : 1000 < s.size
  · obtain rfl := HY.out (.inl g1)
    have k1 : decide (1000 < s.size) = true := decide_eq_true g1
    go_enter Try.func15, Try.ntmps15
    go_wp2
    go_ret
    exact ⟨rfl, Below.refl _ _⟩
  by_cases g2 : 100 < m
  · obtain rfl := HY.out (.inr (.inl (by omega)))
    have k1 : decide (1000 < s.size) = false := decide_eq_false g1
    have k2 : decide (100 < m) = true := decide_eq_true g2
    go_enter Try.func15, Try.ntmps15
    go_wp2
    go_ret
    exact ⟨rfl, Below.refl _ _⟩
  have HL := Lib.hid hl; clear hl
  have k1 : decide (1000 < s.size) = false := decide_eq_false g1
  have k2 : decide (100 < m) = false := decide_eq_false g2
  have hm : m ≤ 100 := by omega
  have HG1 := Lib.hid g1
  have hs9 : s.size ≤ 1000 := by omega
  go_enter Try.func15, Try.ntmps15
  go_wp2_with fail
  go_loopg [5, 18] m (fun g z i wr => ∃ (j t : Nat), i = .int .i64 j ∧ j ≤ m ∧ m - j ≤ g ∧ Below w.heap.size w wr ∧ z = .int .i64 (t : Int) ∧ t ≤ 1000 * j ∧ Hid (t = tsum (l.take j)) ∧ Hid (∀ k, k < j → ¬ 1000 < (eth l k).x.size))
  case atStart => exact ⟨0, 0, rfl, by omega, by omega, Below.refl _ _, rfl, by omega, Lib.hid rfl, Lib.hid (fun k hk => absurd hk (Nat.not_lt_zero _))⟩
  case round =>
    obtain ⟨j, t, rfl, h1, h2, hb, rfl, h3, ht, hk⟩ := hrel
    by_cases hlt : j < m
    · have hjl : j < l.length := by rw [HL.out]; exact hlt
      obtain ⟨bA, off, rfl, hbA, d0, d1, d2⟩ := (HA.out.below hb).drop1 hjl
      have hst := Lib.hid (tsum_take hjl)
      have i1 : (0 : Int) ≤ j := by omega
      have i2 : (j : Int) < m := by omega
      have x6 : Below wr.heap.size wr (wr.alloc (.cells #[.int .i64 (eth l j).f, .int .i64 (eth l j).t, .string (eth l j).x] 43)) := (Below.refl _ _).alloc (Nat.le_refl _) _
      have a6 := hb.trans (x6.mono hb.size)
      by_cases g3 : 1000 < (eth l j).x.size
      · have hlt2 := HY.out (.inr (.inr (.inl ⟨j, hjl, g3⟩)))
        subst hlt2
        go_wp2
        go_ret
        exact ⟨rfl, a6⟩
      · have HK2 := Lib.hid (show ∀ k, k < j + 1 → ¬ 1000 < (eth l k).x.size from fun k hk2 => by
          rcases Nat.lt_succ_iff_lt_or_eq.1 hk2 with h9 | h9
          · exact hk.out k h9
          · subst h9; exact g3)
        have hw : IntKind.i64.wrap ((t : Int) + ((eth l j).x.size : Int)) = (t : Int) + ((eth l j).x.size : Int) := IntWalk.i64_in _ (by omega)
        clear hk
        generalize eth l j = x at *
        go_wp2
        go_roundg (gk - 1)
        case measure => omega
        case rel => exact ⟨j + 1, t + x.x.size, by go_num, by omega, by omega, a6, by go_num, by omega, Lib.hid (by rw [hst.out, ← ht.out]), HK2⟩
    · have hj : j = m := by omega
      have htt : t = tsum l := by rw [ht.out, List.take_of_length_le (by rw [HL.out]; omega)]
      by_cases g4 : 3000 < tsum l
      · obtain rfl := HY.out (.inr (.inr (.inr g4)))
        rw [← htt] at g4
        have k3 : decide (3000 < t) = true := decide_eq_true g4
        have k4 : decide ((3000 : Int) < (t : Int)) = true := decide_eq_true (by omega)
        clear htt ht hk HY HN
        go_wp2
        go_ret
        exact ⟨ret_bool (by first | rfl | exact k3 | exact k4), hb⟩
      · have hnl : ¬ LongP s.size l := by
          rintro (h9 | h9 | ⟨k, h8, h9⟩ | h9)
          · exact HG1.out h9
          · rw [HL.out] at h9; omega
          · exact hk.out k (by rw [HL.out] at h8; omega) h9
          · exact g4 h9
        obtain rfl := HN.out hnl
        rw [← htt] at g4
        have k3 : decide (3000 < t) = false := decide_eq_false g4
        have k4 : decide ((3000 : Int) < (t : Int)) = false := decide_eq_false (by omega)
        clear htt ht hk HY HN hnl
        go_wp2
        go_ret
        exact ⟨ret_bool (by first | rfl | exact k3 | exact k4), hb⟩
theorem not_long {n : Nat} {l : List E3} (h : ¬ LongP n l) : n ≤ 1000 ∧ l.length ≤ 100 ∧ tsum l ≤ 3000 ∧ ∀ e ∈ l, e.x.size ≤ 3000 := by
  have h1 : ¬ 1000 < n := fun h2 => h (.inl h2)
  have h2 : ¬ 100 < l.length := fun h3 => h (.inr (.inl h3))
  have h4 : ¬ 3000 < tsum l := fun h3 => h (.inr (.inr (.inr h3)))
  exact ⟨by omega, by omega, by omega, fun e he => by have := tsum_mem he; omega⟩
end Go.Proofs.Ytglalmhpgdgeeaa
