/- Ranges that are right, and a copy of ranges: the contracts of width.right and slices.Clone. -/
import Derived.Test.YtapamkefcfnbpaaDoorTable
import Derived.WalkSpells
namespace Go.Proofs.YtapamkefcfnbpaaDoor
open Go.RowKit
/-- The end of the range ahead of the j-th one; -1 ahead of the first. -/
def prev (rs : List (Int × Int)) (j : Nat) : Int := if j = 0 then -1 else rhi rs (j - 1)
theorem prev_zero (rs : List (Int × Int)) : prev rs 0 = -1 := rfl
theorem prev_succ (rs : List (Int × Int)) (j : Nat) : prev rs (j + 1) = rhi rs j := by simp [prev]
/-- Is the j-th range one, behind the end of the one ahead? -/
def good (rs : List (Int × Int)) (j : Nat) : Prop := prev rs j < rlo rs j ∧ rlo rs j ≤ rhi rs j
instance (rs : List (Int × Int)) (j : Nat) : Decidable (good rs j) := by unfold good; infer_instance
/-- Are ranges right? -/
def rightB (rs : List (Int × Int)) : Bool := decide (∀ j, j < rs.length → good rs j)
theorem rightB_true {rs : List (Int × Int)} (h : ∀ j, j < rs.length → good rs j) : rightB rs = true := decide_eq_true h
theorem rightB_false {rs : List (Int × Int)} {j : Nat} (hj : j < rs.length) (h : ¬ good rs j) : rightB rs = false := decide_eq_false fun hh => h (hh j hj)
theorem rightB_all {rs : List (Int × Int)} (h : rightB rs = true) : ∀ j, j < rs.length → good rs j := of_decide_eq_true h
theorem Srt.of_right {rs : List (Int × Int)} (h : rightB rs = true) : Srt rs := by
  have hg := rightB_all h
  have hlt : ∀ d i, i + d + 1 < rs.length → rhi rs i < rlo rs (i + d + 1) := by
    intro d
    induction d with
    | zero =>
      intro i hi
      have := (hg (i + 1) hi).1
      rwa [prev_succ] at this
    | succ d ih =>
      intro i hi
      have h1 := ih i (by omega)
      have h2 := (hg (i + d + 1) (by omega)).2
      have h3 := (hg (i + (d + 1) + 1) hi).1
      rw [prev_succ] at h3
      rw [show i + (d + 1) = i + d + 1 from by omega] at h3 ⊢
      omega
  intro i j hij hj
  refine ⟨fun e => ?_, fun hlt' => ?_⟩
  · subst e; exact (hg i hj).2
  · have := hlt (j - i - 1) i (by omega)
    rwa [show i + (j - i - 1) + 1 = j from by omega] at this
set_option maxHeartbeats 400000 in
theorem right_any (A : Option Addr) (n c : Nat) (rs : List (Int × Int)) (w : World) (hA : RngAt w A rs) (hl : rs.length = n) (hn : n ≤ 1000000) :
    Calls Tryd.prog 47 #[.slice A n c] w fun e w' => e = .returned (.bool (rightB rs)) ∧ Below w.heap.size w w' := by
  have HL := Lib.hid hl; clear hl
  go_enter Tryd.func47, Tryd.ntmps47
  go_wp2
  go_loopg [3, 8] n (fun k ah i wr => ∃ j : Nat, i = .int .i64 j ∧ ah = .int .i32 (prev rs j) ∧ j ≤ n ∧ n - j ≤ k ∧ Below w.heap.size w wr ∧ ∀ m, m < j → good rs m)
  case atStart => exact ⟨0, rfl, rfl, by omega, by omega, Below.refl _ _, fun m h => by omega⟩
  case round =>
    obtain ⟨j, rfl, rfl, h1, h2, hb, hall⟩ := hrel
    have HH := Lib.hid hall; clear hall
    by_cases hlt : j < n
    · have hm : j < rs.length := by rw [HL.out]; omega
      obtain ⟨b, off, rfl, hbs, hc⟩ := hA (by omega)
      obtain ⟨c1, c2⟩ := hc _ hm
      clear hc
      obtain ⟨H1, H2⟩ := old_cells hb
      have HM := Lib.hid hm; clear hm
      by_cases g1 : rlo rs j ≤ prev rs j
      · go_wp2
        go_ret
        exact ⟨ret_bool (rightB_false HM.out (by unfold good; omega)).symm, hb.alloc hb.size _⟩
      · by_cases g2 : rhi rs j < rlo rs j
        · go_wp2
          go_ret
          exact ⟨ret_bool (rightB_false HM.out (by unfold good; omega)).symm, hb.alloc hb.size _⟩
        · go_wp2
          go_roundg (gk - 1)
          case measure => omega
          case rel => exact ⟨j + 1, by go_num, by rw [prev_succ], by omega, by omega, hb.alloc hb.size _, fun m hm => by
            by_cases e : m < j
            · exact HH.out m e
            · obtain rfl : m = j := by omega
              exact ⟨by omega, by omega⟩⟩
    · go_wp2
      go_ret
      exact ⟨ret_bool (rightB_true fun m hm => HH.out m (by rw [HL.out] at hm; omega)).symm, hb⟩
end Go.Proofs.YtapamkefcfnbpaaDoor
