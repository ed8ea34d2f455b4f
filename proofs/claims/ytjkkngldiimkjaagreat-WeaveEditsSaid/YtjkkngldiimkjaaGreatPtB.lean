/- Patches: the contracts of Map and of the document's Normal and Map. -/
import Derived.Test.YtjkkngldiimkjaaGreatPtA
namespace Go.Proofs.YtjkkngldiimkjaaGreat
open Go.RowKit
theorem nrm_mem {M : Int} : ∀ {p q : Int} {fi : Bool} {l : List Ch}, nrm M p q fi l → ∀ c ∈ l, (0 ≤ c.oa ∧ c.oa ≤ c.ob ∧ c.ob ≤ M) ∧ 0 ≤ c.na ∧ c.na ≤ c.nb ∧ c.nb ≤ M
  | _, _, _, [], _, _, h => absurd h List.not_mem_nil
  | _, _, _, x :: l, hn, c, h => by
    rcases List.mem_cons.1 h with rfl | h
    · obtain ⟨⟨h1, h2, h3, h4, h5, h6, _⟩, _⟩ := hn; exact ⟨⟨h1, h2, h3⟩, h4, h5, h6⟩
    · exact nrm_mem hn.2 c h
set_option maxHeartbeats 4000000 in
set_option maxRecDepth 100000 in
theorem pMap_form (A : Option Addr) (m cp : Nat) (l : List Ch) (at_ bi : Int) (w : World) (hA : ChsAt w A l) (hl : l.length = m) (hm : m ≤ 1000000) (hr : ¬ nrm M40 0 0 true l) :
    Calls Tryz.prog 89 #[.slice A m cp, .int .i64 at_, .int .i64 bi] w fun e w' => e = .returned (.tuple #[.int .i64 0, .int .i64 4]) ∧ Below w.heap.size w w' := by
  have C := Lib.hid (pNormal_any A m cp l w false hA hl hm ⟨fun h => absurd h (by decide), fun h => absurd h hr⟩)
  clear hA hl hr
  go_enter Tryz.func89, Tryz.ntmps89
  go_wp2_with fail
  refine C.out.mono ?_
  rintro e w1 ⟨rfl, hb1⟩
  go_wp2
  go_ret2
  exact ⟨rfl, hb1⟩
set_option maxHeartbeats 4000000 in
set_option maxRecDepth 100000 in
theorem pMap_arg (A : Option Addr) (m cp : Nat) (l : List Ch) (at_ bi : Int) (w : World) (hA : ChsAt w A l) (hl : l.length = m) (hm : m ≤ 1000000) (hr : nrm M40 0 0 true l) (hx : at_ < 0 ∨ 1099511627776 < at_ ∨ (bi ≠ 0 ∧ bi ≠ 1)) :
    Calls Tryz.prog 89 #[.slice A m cp, .int .i64 at_, .int .i64 bi] w fun e w' => e = .returned (.tuple #[.int .i64 0, .int .i64 1]) ∧ Below w.heap.size w w' := by
  have C := Lib.hid (pNormal_any A m cp l w true hA hl hm ⟨fun _ => hr, fun _ => rfl⟩)
  clear hA hl hr
  have HX := Lib.hid hx
  clear hx
  go_enter Tryz.func89, Tryz.ntmps89
  go_wp2_with fail
  refine C.out.mono ?_
  rintro e w1 ⟨rfl, hb1⟩
  have hx := HX.out
  by_cases g1 : at_ < 0
  · have k1 : decide (at_ < 0) = true := decide_eq_true g1
    go_wp2
    go_ret2
    exact ⟨rfl, hb1⟩
  · have k1 : decide (at_ < 0) = false := decide_eq_false g1
    by_cases g2 : 1099511627776 < at_
    · have k2 : decide (1099511627776 < at_) = true := decide_eq_true g2
      go_wp2
      go_ret2
      exact ⟨rfl, hb1⟩
    · have k2 : decide (1099511627776 < at_) = false := decide_eq_false g2
      have g3 : ¬ bi = 0 := by omega
      have g4 : ¬ bi = 1 := by omega
      have g5 : (bi != 0) = true := by simp [g3]
      have g6 : (bi != 1) = true := by simp [g4]
      go_wp2
      all_goals first
        | (go_ret2; exact ⟨rfl, hb1⟩)
        | (exfalso; simp_all; done)
set_option maxHeartbeats 4000000 in
set_option maxRecDepth 100000 in
theorem pMap_yes (A : Option Addr) (m cp : Nat) (l : List Ch) (at_ bi : Int) (w : World) (hA : ChsAt w A l) (hl : l.length = m) (hm : m ≤ 1000000) (hr : nrm M40 0 0 true l) (h0 : 0 ≤ at_) (h1 : at_ ≤ 1099511627776) (hbi : bi = 0 ∨ bi = 1) :
    Calls Tryz.prog 89 #[.slice A m cp, .int .i64 at_, .int .i64 bi] w fun e w' => e = .returned (.tuple #[.int .i64 (mp 0 0 l at_ bi), .int .i64 0]) ∧ Below w.heap.size w w' := by
  have C := Lib.hid (pNormal_any A m cp l w true hA hl hm ⟨fun _ => hr, fun _ => rfl⟩)
  have HA := Lib.hid hA
  have HL := Lib.hid hl
  have HN := Lib.hid hr
  clear hA hl hr
  obtain ⟨R, hR⟩ : ∃ R, R = mp 0 0 l at_ bi := ⟨_, rfl⟩
  rw [← hR]
  have HR := Lib.hid hR
  clear hR
  have k1 : decide (at_ < 0) = false := decide_eq_false (by omega)
  have k2 : decide (1099511627776 < at_) = false := decide_eq_false (by omega)
  rcases hbi with rfl | rfl
  all_goals
    go_enter Tryz.func89, Tryz.ntmps89
    go_wp2_with fail
    refine C.out.mono ?_
    rintro e w1 ⟨rfl, hb1⟩
    go_wp2_with fail
  · go_loopg [8, 30] m (fun g z i wr => ∃ (j : Nat) (p q : Int), i = .int .i64 j ∧ j ≤ m ∧ m - j ≤ g ∧ Below w.heap.size w wr ∧ z = .int .i64 (q - p) ∧ 0 ≤ p ∧ p ≤ 1099511627776 ∧ 0 ≤ q ∧ q ≤ 1099511627776 ∧ Hid (nrm M40 p q (decide (j = 0)) (l.drop j)) ∧ Hid (R = mp p q (l.drop j) at_ 0))
    case atStart => exact ⟨0, 0, 0, rfl, by omega, by omega, hb1, rfl, by omega, by omega, by omega, by omega, Lib.hid HN.out, Lib.hid HR.out⟩
    case round =>
      obtain ⟨j, p, q, rfl, j1, j2, hb, rfl, p1, p2, q1, q2, hn, hmp⟩ := hrel
      have w1 : IntKind.i64.wrap (at_ + (q - p)) = at_ + (q - p) := IntWalk.i64_in _ (by omega)
      by_cases hlt : j < m
      · have hjl : j < l.length := by rw [HL.out]; exact hlt
        obtain ⟨bA, off, rfl, hbA, d0, d1, d2, d3⟩ := (HA.out.below hb).at1 hjl
        have hmp2 := hmp.out
        have hn2 := hn.out
        rw [cth_drop hjl] at hmp2 hn2
        rw [nrm] at hn2
        rw [mp] at hmp2
        obtain ⟨⟨s1, s2, s3, s4, s5, s6, _, s8, s9, _⟩, hn3⟩ := hn2
        have HN3 := Lib.hid hn3
        clear hn hmp hn3
        generalize cth l j = c at *
        unfold M40 at s3 s6
        have i1 : (0 : Int) ≤ j := by omega
        have i2 : (j : Int) < m := by omega
        have x3 : Below wr.heap.size wr (wr.alloc (.cells #[.int .i64 c.oa, .int .i64 c.ob, .int .i64 c.na, .int .i64 c.nb] 64)) := (Below.refl _ _).alloc (Nat.le_refl _) _
        have a3 := hb.trans (x3.mono hb.size)
        by_cases b1 : at_ < c.oa
        · rw [if_pos b1] at hmp2
          have HM := Lib.hid hmp2; clear hmp2
          have k3 : decide (at_ < c.oa) = true := decide_eq_true b1
          go_wp2
          go_ret2
          exact ⟨by rw [HM.out]; try rfl, a3⟩
        · rw [if_neg b1] at hmp2
          have k3 : decide (at_ < c.oa) = false := decide_eq_false b1
          by_cases b2 : at_ ≤ c.ob
          · rw [if_pos b2, if_pos rfl] at hmp2
            have HM := Lib.hid hmp2; clear hmp2
            have k4 : decide (at_ ≤ c.ob) = true := decide_eq_true b2
            go_wp2
            go_ret2
            exact ⟨by rw [HM.out]; try rfl, a3⟩
          · rw [if_neg b2] at hmp2
            have HM := Lib.hid hmp2; clear hmp2
            have k4 : decide (at_ ≤ c.ob) = false := decide_eq_false b2
            have w2 : IntKind.i64.wrap (c.nb - c.ob) = c.nb - c.ob := IntWalk.i64_in _ (by omega)
            go_wp2
            go_roundg (gk - 1)
            case measure => omega
            case rel => exact ⟨j + 1, c.ob, c.nb, by go_num, by omega, by omega, a3, by go_num, by omega, by omega, by omega, by omega, Lib.hid (by rw [decide_eq_false (show ¬ (j + 1 = 0) by omega)]; exact HN3.out), HM⟩
      · have hj : j = m := by omega
        have hmp2 := hmp.out
        rw [List.drop_of_length_le (by rw [HL.out]; omega), mp] at hmp2
        have HM := Lib.hid hmp2; clear hmp2
        go_wp2
        go_ret2
        exact ⟨by rw [HM.out]; try rfl, hb⟩
  · go_loopg [8, 30] m (fun g z i wr => ∃ (j : Nat) (p q : Int), i = .int .i64 j ∧ j ≤ m ∧ m - j ≤ g ∧ Below w.heap.size w wr ∧ z = .int .i64 (q - p) ∧ 0 ≤ p ∧ p ≤ 1099511627776 ∧ 0 ≤ q ∧ q ≤ 1099511627776 ∧ Hid (nrm M40 p q (decide (j = 0)) (l.drop j)) ∧ Hid (R = mp p q (l.drop j) at_ 1))
    case atStart => exact ⟨0, 0, 0, rfl, by omega, by omega, hb1, rfl, by omega, by omega, by omega, by omega, Lib.hid HN.out, Lib.hid HR.out⟩
    case round =>
      obtain ⟨j, p, q, rfl, j1, j2, hb, rfl, p1, p2, q1, q2, hn, hmp⟩ := hrel
      have w1 : IntKind.i64.wrap (at_ + (q - p)) = at_ + (q - p) := IntWalk.i64_in _ (by omega)
      by_cases hlt : j < m
      · have hjl : j < l.length := by rw [HL.out]; exact hlt
        obtain ⟨bA, off, rfl, hbA, d0, d1, d2, d3⟩ := (HA.out.below hb).at1 hjl
        have hmp2 := hmp.out
        have hn2 := hn.out
        rw [cth_drop hjl] at hmp2 hn2
        rw [nrm] at hn2
        rw [mp] at hmp2
        obtain ⟨⟨s1, s2, s3, s4, s5, s6, _, s8, s9, _⟩, hn3⟩ := hn2
        have HN3 := Lib.hid hn3
        clear hn hmp hn3
        generalize cth l j = c at *
        unfold M40 at s3 s6
        have i1 : (0 : Int) ≤ j := by omega
        have i2 : (j : Int) < m := by omega
        have x3 : Below wr.heap.size wr (wr.alloc (.cells #[.int .i64 c.oa, .int .i64 c.ob, .int .i64 c.na, .int .i64 c.nb] 64)) := (Below.refl _ _).alloc (Nat.le_refl _) _
        have a3 := hb.trans (x3.mono hb.size)
        by_cases b1 : at_ < c.oa
        · rw [if_pos b1] at hmp2
          have HM := Lib.hid hmp2; clear hmp2
          have k3 : decide (at_ < c.oa) = true := decide_eq_true b1
          go_wp2
          go_ret2
          exact ⟨by rw [HM.out]; try rfl, a3⟩
        · rw [if_neg b1] at hmp2
          have k3 : decide (at_ < c.oa) = false := decide_eq_false b1
          by_cases b2 : at_ ≤ c.ob
          · rw [if_pos b2, if_neg (by decide)] at hmp2
            have HM := Lib.hid hmp2; clear hmp2
            have k4 : decide (at_ ≤ c.ob) = true := decide_eq_true b2
            go_wp2
            go_ret2
            exact ⟨by rw [HM.out]; try rfl, a3⟩
          · rw [if_neg b2] at hmp2
            have HM := Lib.hid hmp2; clear hmp2
            have k4 : decide (at_ ≤ c.ob) = false := decide_eq_false b2
            have w2 : IntKind.i64.wrap (c.nb - c.ob) = c.nb - c.ob := IntWalk.i64_in _ (by omega)
            go_wp2
            go_roundg (gk - 1)
            case measure => omega
            case rel => exact ⟨j + 1, c.ob, c.nb, by go_num, by omega, by omega, a3, by go_num, by omega, by omega, by omega, by omega, Lib.hid (by rw [decide_eq_false (show ¬ (j + 1 = 0) by omega)]; exact HN3.out), HM⟩
      · have hj : j = m := by omega
        have hmp2 := hmp.out
        rw [List.drop_of_length_le (by rw [HL.out]; omega), mp] at hmp2
        have HM := Lib.hid hmp2; clear hmp2
        go_wp2
        go_ret2
        exact ⟨by rw [HM.out]; try rfl, hb⟩
end Go.Proofs.YtjkkngldiimkjaaGreat
