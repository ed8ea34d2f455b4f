/- Patches: the contracts of the document's Normal and Map. -/
import Derived.Test.YtjkkngldiimkjaaGreatPtA
namespace Go.Proofs.YtjkkngldiimkjaaGreat
open Go.RowKit
set_option maxHeartbeats 2000000 in
theorem rspan_any (a b : Int) (w : World) (r : Bool) (hr : r = true ↔ spOk a b) : Calls Tryz.prog 139 #[.agg #[.int .i64 a, .int .i64 b]] w fun e w' => e = .returned (.bool r) ∧ Below w.heap.size w w' := by
  have HF := Lib.hid hr; clear hr
  by_cases g1 : 0 ≤ a
  · by_cases g2 : a ≤ b
    · by_cases g3 : b ≤ 1099511627776
      · have HX := Lib.hid (bt HF.out ⟨g1, g2, g3⟩)
        go_enter Tryz.func139, Tryz.ntmps139
        go_wp2
        go_ret
        exact ⟨ret_bool (by first | exact HX.out | simpa using HX.out), (Below.refl _ _).alloc (Nat.le_refl _) _⟩
      · have HX := Lib.hid (bf HF.out (fun h => g3 h.2.2))
        go_enter Tryz.func139, Tryz.ntmps139
        go_wp2
        go_ret
        exact ⟨ret_bool (by first | exact HX.out | exact (decide_eq_false (by omega)).trans HX.out), (Below.refl _ _).alloc (Nat.le_refl _) _⟩
    · have HX := Lib.hid (bf HF.out (fun h => g2 h.2.1))
      go_enter Tryz.func139, Tryz.ntmps139
      go_wp2
      go_ret
      exact ⟨ret_bool (by first | exact HX.out | exact (decide_eq_false (by omega)).trans HX.out), (Below.refl _ _).alloc (Nat.le_refl _) _⟩
  · have HX := Lib.hid (bf HF.out (fun h => g1 h.1))
    go_enter Tryz.func139, Tryz.ntmps139
    go_wp2
    go_ret
    exact ⟨ret_bool (by first | exact HX.out | exact (decide_eq_false (by omega)).trans HX.out), (Below.refl _ _).alloc (Nat.le_refl _) _⟩
theorem rchange_info : (Tryz.prog.info? 68).map (fun i => (i.zero, i.size, i.bytes)) = some (some (.agg #[.int .i64 0, .int .i64 0, .int .i64 0, .int .i64 0]), 4, 32) := by kernel_rfl
set_option maxHeartbeats 4000000 in
set_option maxRecDepth 100000 in
theorem rMap_any (A : Option Addr) (m cp : Nat) (l : List Ch) (at_ bi : Int) (w : World) (hA : ChsAt w A l) (hl : l.length = m) (hm : m ≤ 1000000) (hr : ∀ c ∈ l, (0 ≤ c.oa ∧ c.oa ≤ c.ob ∧ c.ob ≤ M40) ∧ 0 ≤ c.na ∧ c.na ≤ c.nb ∧ c.nb ≤ M40) (h0 : 0 ≤ at_) (h1 : at_ ≤ 1099511627776) :
    Calls Tryz.prog 92 #[.slice A m cp, .int .i64 at_, .int .i64 bi] w fun e w' => e = .returned (.int .i64 (mpR 0 l at_ bi)) ∧ Below w.heap.size w w' := by
  have HA := Lib.hid hA
  have HL := Lib.hid hl
  have HN := Lib.hid hr
  clear hA hl hr
  obtain ⟨R, hR⟩ : ∃ R, R = mpR 0 l at_ bi := ⟨_, rfl⟩
  rw [← hR]
  have HR := Lib.hid hR
  clear hR
  go_enter Tryz.func92, Tryz.ntmps92
  go_wp2_with fail
  go_loopg [7, 12] m (fun g z i wr => ∃ (j : Nat) (s : Int), i = .int .i64 j ∧ j ≤ m ∧ m - j ≤ g ∧ Below w.heap.size w wr ∧ z = .int .i64 s ∧ -1099511627776 ≤ s ∧ s ≤ 1099511627776 ∧ Hid (R = mpR s (l.drop j) at_ bi))
  case atStart => exact ⟨0, 0, rfl, by omega, by omega, Below.refl _ _, rfl, by omega, by omega, Lib.hid HR.out⟩
  case round =>
    obtain ⟨j, s, rfl, j1, j2, hb, rfl, s1, s2, hmp⟩ := hrel
    have w1 : IntKind.i64.wrap (at_ + s) = at_ + s := IntWalk.i64_in _ (by omega)
    by_cases hlt : j < m
    · have hjl : j < l.length := by rw [HL.out]; exact hlt
      obtain ⟨bA, off, rfl, hbA, d0, d1, d2, d3⟩ := (HA.out.below hb).at1 hjl
      have hmp2 := hmp.out
      rw [cth_drop hjl, mpR] at hmp2
      obtain ⟨⟨n1, n2, n3⟩, n4, n5, n6⟩ := HN.out _ (cth_mem hjl)
      clear hmp
      generalize cth l j = c at *
      unfold M40 at n3 n6
      have i1 : (0 : Int) ≤ j := by omega
      have i2 : (j : Int) < m := by omega
      have x3 : Below wr.heap.size wr (wr.alloc (.cells #[.int .i64 c.oa, .int .i64 c.ob, .int .i64 c.na, .int .i64 c.nb] 68)) := (Below.refl _ _).alloc (Nat.le_refl _) _
      have a3 := hb.trans (x3.mono hb.size)
      have w2 : IntKind.i64.wrap (c.nb - c.ob) = c.nb - c.ob := IntWalk.i64_in _ (by omega)
      by_cases b1 : c.oa ≤ at_ ∧ at_ ≤ c.ob
      · rw [if_pos b1] at hmp2
        obtain ⟨b1, b2⟩ := b1
        have k3 : decide (c.oa ≤ at_) = true := decide_eq_true b1
        have k4 : decide (at_ ≤ c.ob) = true := decide_eq_true b2
        by_cases b3 : bi = 0
        · rw [if_pos b3] at hmp2
          have HM := Lib.hid hmp2; clear hmp2
          subst b3
          go_wp2
          go_ret
          exact ⟨by rw [HM.out]; try rfl, a3⟩
        · rw [if_neg b3] at hmp2
          have HM := Lib.hid hmp2; clear hmp2
          go_wp2
          go_ret
          exact ⟨by rw [HM.out]; try rfl, a3⟩
      · rw [if_neg b1] at hmp2
        by_cases b2 : at_ ≤ c.ob
        · have b4 : ¬ c.oa ≤ at_ := fun h => b1 ⟨h, b2⟩
          have k3 : decide (c.oa ≤ at_) = false := decide_eq_false b4
          have k4 : decide (c.ob < at_) = false := decide_eq_false (by omega)
          rw [if_neg (by omega)] at hmp2
          have HM := Lib.hid hmp2; clear hmp2 b1
          go_wp2
          go_roundg (gk - 1)
          case measure => omega
          case rel => exact ⟨j + 1, s, by go_num, by omega, by omega, a3, rfl, s1, s2, HM⟩
        · have k3 : decide (c.oa ≤ at_) = true := decide_eq_true (by omega)
          have k4 : decide (at_ ≤ c.ob) = false := decide_eq_false b2
          have k5 : decide (c.ob < at_) = true := decide_eq_true (by omega)
          rw [if_pos (by omega)] at hmp2
          have HM := Lib.hid hmp2; clear hmp2 b1
          go_wp2
          go_roundg (gk - 1)
          case measure => omega
          case rel => exact ⟨j + 1, c.nb - c.ob, by go_num, by omega, by omega, a3, by go_num, by omega, by omega, HM⟩
    · have hj : j = m := by omega
      have hmp2 := hmp.out
      rw [List.drop_of_length_le (by rw [HL.out]; omega), mpR] at hmp2
      have HM := Lib.hid hmp2; clear hmp2
      go_wp2
      go_ret
      exact ⟨by rw [HM.out]; try rfl, hb⟩
end Go.Proofs.YtjkkngldiimkjaaGreat
