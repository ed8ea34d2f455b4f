/- Whether ranges are right, as the document's own answer tells it: the contract of bodkinref02.Right. -/
import Derived.Test.YtapamkefcfnbpaaDoorRefs
namespace Go.Proofs.YtapamkefcfnbpaaDoor
open Go.RowKit
theorem prev_ge {rs : List (Int × Int)} : ∀ j, (∀ m, m < j → good rs m) → -1 ≤ prev rs j
  | 0, _ => by simp [prev]
  | j + 1, h => by
    have h1 := prev_ge j (fun m hm => h m (by omega))
    have h2 := h j (by omega)
    unfold good at h2
    rw [prev_succ]
    omega
theorem prev_pos {rs : List (Int × Int)} {j : Nat} (h : 0 < j) : prev rs j = rhi rs (j - 1) := by
  unfold prev
  rw [if_neg (by omega)]
set_option maxHeartbeats 1000000 in
theorem rright_any (A : Option Addr) (n c : Nat) (rs : List (Int × Int)) (w : World) (hA : RngAt w A rs) (hl : rs.length = n) (hn : n ≤ 1000000) :
    Calls Tryd.prog 31 #[.slice A n c] w fun e w' => e = .returned (.bool (rightB rs)) ∧ Below w.heap.size w w' := by
  have HL := Lib.hid hl; clear hl
  go_enter Tryd.func31, Tryd.ntmps31
  go_wp2
  go_loopg [3, 7] n (fun k _ i wr => ∃ j : Nat, i = .int .i64 j ∧ j ≤ n ∧ n - j ≤ k ∧ Below w.heap.size w wr ∧ ∀ m, m < j → good rs m)
  case atStart => exact ⟨0, rfl, by omega, by omega, Below.refl _ _, fun m h => by omega⟩
  case round =>
    obtain ⟨j, rfl, h1, h2, hb, hall⟩ := hrel
    have hp := prev_ge j hall
    have HH := Lib.hid hall; clear hall
    by_cases hlt : j < n
    · have hm : j < rs.length := by rw [HL.out]; omega
      obtain ⟨b, off, rfl, hbs, hc⟩ := hA (by omega)
      obtain ⟨c1, c2⟩ := hc _ hm
      have HC := Lib.hid hc; clear hc
      obtain ⟨H1, H2⟩ := old_cells hb
      have HM := Lib.hid hm; clear hm
      by_cases g0 : rlo rs j < 0
      · go_wp2
        go_quiet (fail)
        go_wp2
        go_ret
        exact ⟨ret_bool (rightB_false HM.out (by unfold good; omega)).symm, drewN_below (hb.alloc hb.size _) _⟩
      · have d0 : decide (rlo rs j < 0) = false := decide_eq_false g0
        by_cases g1 : rhi rs j < rlo rs j
        · have d1 : decide (rhi rs j < rlo rs j) = true := decide_eq_true g1
          go_wp2
          go_quiet (fail)
          go_wp2
          go_ret
          exact ⟨ret_bool (rightB_false HM.out (by unfold good; omega)).symm, drewN_below (hb.alloc hb.size _) _⟩
        · have d1 : decide (rhi rs j < rlo rs j) = false := decide_eq_false g1
          by_cases g2 : 0 < j
          · have c4 := (HC.out (j - 1) (by have := HM.out; omega)).2
            have hpp := prev_pos (rs := rs) g2
            have HP := Lib.hid hpp; clear hpp
            have i1 : 0 ≤ (j : Int) - 1 := by omega
            have i2 : (j : Int) - 1 < n := by omega
            have i3 : 1 ≤ (j : Int) := by omega
            have i6 : b < wr.heap.size := Nat.lt_of_lt_of_le hbs hb.size
            have i7 : ¬ b = wr.heap.size := by omega
            have i4 : (j : Int) < n + 1 := by omega
            have i5 : (j : Int) ≤ n := by omega
            have d2 : decide ((0 : Int) < j) = true := decide_eq_true (by omega)
            have hjn : ((j : Int) - 1).toNat = j - 1 := by omega
            have hw1 : IntKind.i64.wrap ((j : Int) - 1) = (j : Int) - 1 := IntWalk.i64_in _ (by omega)
            by_cases g3 : rlo rs j ≤ rhi rs (j - 1)
            · have d3 : decide (rlo rs j ≤ rhi rs (j - 1)) = true := decide_eq_true g3
              go_wp2
              go_quiet (fail)
              clear hw1 hjn
              go_wp2
              go_ret
              exact ⟨ret_bool (rightB_false HM.out (by unfold good; rw [HP.out]; omega)).symm, drewN_below (hb.alloc hb.size _) _⟩
            · have d3 : decide (rlo rs j ≤ rhi rs (j - 1)) = false := decide_eq_false g3
              go_wp2
              go_quiet (fail)
              clear hw1 hjn
              go_wp2
              go_roundg (gk - 1)
              case measure => omega
              case rel => exact ⟨j + 1, by go_num, by omega, by omega, drewN_below (hb.alloc hb.size _) _, fun m hm => by
                by_cases e : m < j
                · exact HH.out m e
                · obtain rfl : m = j := by omega
                  unfold good
                  rw [HP.out]
                  omega⟩
          · have g4 : j = 0 := by omega
            subst g4
            have hp0 : prev rs 0 = -1 := rfl
            rw [Nat.zero_mul, Nat.add_zero] at c1 c2
            have HP := Lib.hid hp0; clear hp0
            go_wp2
            go_quiet (fail)
            go_wp2
            go_roundg (gk - 1)
            case measure => omega
            case rel => exact ⟨1, by go_num, by omega, by omega, drewN_below (hb.alloc hb.size _) _, fun m hm => by
                obtain rfl : m = 0 := by omega
                unfold good
                rw [HP.out]
                omega⟩
    · go_wp2
      go_ret
      exact ⟨ret_bool (rightB_true fun m hm => HH.out m (by rw [HL.out] at hm; omega)).symm, hb⟩
end Go.Proofs.YtapamkefcfnbpaaDoor
