/- Equal lists of runes compare equal: what the laws take of bodkinplain.Runes. -/
import Derived.Test.YtapamkefcfnbpaaDoorBase
namespace Go.Proofs.YtapamkefcfnbpaaDoor
open Go.RowKit
set_option maxHeartbeats 1000000 in
theorem runes_same (A A' : Option Addr) (n c c' : Nat) (l : List Int) (w : World) (hA : IntsAt .i32 w A l) (hA' : IntsAt .i32 w A' l) (hl : l.length = n) (hn : n ≤ 1000000000) :
    Calls Tryd.prog 16 #[.slice A n c, .slice A' n c'] w fun e w' => e = .returned (.bool true) ∧ Below w.heap.size w w' := by
  have HL := Lib.hid hl; clear hl
  go_enter Tryd.func16, Tryd.ntmps16
  go_wp2
  go_loopg [8] n (fun k i wr => ∃ j : Nat, i = .int .i64 j ∧ j ≤ n ∧ n - j ≤ k ∧ Below w.heap.size w wr)
  case atStart => exact ⟨0, rfl, by omega, by omega, Below.refl _ _⟩
  case round =>
    obtain ⟨j, rfl, h1, h2, hb⟩ := hrel
    by_cases hlt : j < n
    · obtain ⟨b, off, rfl, hbs, hc⟩ := hA (by rw [HL.out]; omega)
      obtain ⟨b', off', rfl, hbs', hc'⟩ := hA' (by rw [HL.out]; omega)
      have q1 := hc j (by rw [HL.out]; exact hlt)
      have q2 := hc' j (by rw [HL.out]; exact hlt)
      clear hc hc'
      obtain ⟨H1, H2⟩ := old_cells hb
      have d0 : decide (n ≤ j) = false := decide_eq_false (by omega)
      have d1 : decide ((n : Int) ≤ j) = false := decide_eq_false (by omega)
      have i1 : (0 : Int) ≤ j := by omega
      have i2 : (j : Int) < n := by omega
      go_wp2
      go_quiet (fail)
      go_wp2
      go_roundg (gk - 1)
      case measure => omega
      case rel => exact ⟨j + 1, by go_num, by omega, by omega, drewN_below hb _⟩
    · go_wp2
      go_ret
      exact ⟨rfl, hb⟩
end Go.Proofs.YtapamkefcfnbpaaDoor
