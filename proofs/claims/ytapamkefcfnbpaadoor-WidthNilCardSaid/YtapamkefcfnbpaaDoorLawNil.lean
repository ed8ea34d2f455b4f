/- The walk of the law on a nil table. -/
import Derived.Test.YtapamkefcfnbpaaDoorThree
namespace Go.Proofs.YtapamkefcfnbpaaDoor
open Go.RowKit
set_option maxHeartbeats 400000 in
theorem widthNil_walk (A : Option Addr) (n c : Nat) (l : List Int) (w : World) (h : Tabs w) (hA : IntsAt .i32 w A l) (hl : l.length = n) (hn : n ≤ maxLen) (_ : Caps A n c) (_ : ∀ x ∈ l, (Lit.int .i32 x).wf = true) :
    Calls Tryd.prog 13 #[.slice A n c] w fun e w' => e = .returned (.bool true) ∧ Below w.heap.size w w' := by
  unfold maxLen at hn
  have H := Lib.hid h; clear h
  have HA := Lib.hid hA; clear hA
  have HL := Lib.hid hl; clear hl
  by_cases hk : 1000 < n
  · go_enter Tryd.func13, Tryd.ntmps13
    go_wp2_with fail
    refine (three_any _ H.out).mono ?_
    rintro e w1 ⟨rfl, hb1⟩
    go_wp2_with fail
    go_ret
    exact ⟨rfl, hb1⟩
  · go_enter Tryd.func13, Tryd.ntmps13
    go_wp2_with fail
    refine (of_nil _ _).mono ?_
    rintro e w1 ⟨rfl, hb1⟩
    go_wp2_with fail
    refine (of_nil _ _).mono ?_
    rintro e w2 ⟨rfl, hb2⟩
    go_wp2_with fail
    have a2 := hb1.trans (hb2.mono hb1.size)
    refine (sum_nil A n c l _ (HA.out.below a2) HL.out (by omega)).mono ?_
    rintro e w3 ⟨rfl, hb3⟩
    have a3 := a2.trans (hb3.mono a2.size)
    go_wp2_with fail
    refine (three_any _ (H.out.below a3)).mono ?_
    rintro e w4 ⟨rfl, hb4⟩
    go_wp2_with fail
    go_ret
    exact ⟨rfl, a3.trans (hb4.mono a3.size)⟩
end Go.Proofs.YtapamkefcfnbpaaDoor
