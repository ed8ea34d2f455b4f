/- The document's plain table (package bodkinref02). -/
import Derived.Test.YtapamkefcfnbpaaDoorRefW
import Derived.Test.YtapamkefcfnbpaaDoorThree
namespace Go.Proofs.YtapamkefcfnbpaaDoor
open Go.RowKit
theorem RTab.of_tab {w : World} {tb : Nat} {zs ws : List (Int × Int)} (h : TabAt w.drew tb zs ws) : RTab w tb zs ws := by
  obtain ⟨A1, A2, c1, c2, h0, h1, h2, h3, h4, h5, h6, _, _⟩ := h
  exact ⟨A1, A2, c1, c2, h0, h1, h2, h3, h4, h5, h6⟩
set_option maxHeartbeats 400000 in
theorem rplain_any (w : World) : Calls Tryd.prog 35 #[] w fun e w' => ∃ tb, e = .returned (.pointer (some ⟨tb, 0, none⟩)) ∧ Below w.heap.size w w' ∧ RTab w' tb zeroL wideL := by
  go_enter Tryd.func35, Tryd.ntmps35
  go_wp2
  go_ret
  refine ⟨_, rfl, ?_, ?_⟩
  · exact ((((Below.refl _ _).alloc (Nat.le_refl _) _).alloc (by simp) _).alloc (by simp; omega) _)
  · exact RTab.of_tab (tab_of w _ _ _ rfl rfl rfl)
set_option maxHeartbeats 400000 in
theorem widthPlain_walk (r : Int) (w : World) (h : Tabs w) (_ : (Lit.int .i32 r).wf = true) :
    Calls Tryd.prog 10 #[.int .i32 r] w fun e w' => e = .returned (.bool true) ∧ Below w.heap.size w w' := by
  have H := Lib.hid h; clear h
  go_enter Tryd.func10, Tryd.ntmps10
  go_wp2_with fail
  refine (plain_any _ H.out).mono ?_
  rintro e w1 ⟨tb, rfl, hb1, ht1⟩
  go_wp2_with fail
  refine (of_any tb zeroL wideL r _ ht1).mono ?_
  rintro e w2 ⟨rfl, hb2⟩
  go_wp2_with fail
  refine (rplain_any _).mono ?_
  rintro e w3 ⟨tb3, rfl, hb3, ht3⟩
  go_wp2_with fail
  refine (rof_any tb3 zeroL wideL r _ ht3).mono ?_
  rintro e w4 ⟨rfl, hb4⟩
  have a2 := hb1.trans (hb2.mono hb1.size)
  have a3 := a2.trans (hb3.mono a2.size)
  have a4 := a3.trans (hb4.mono a3.size)
  go_wp2_with fail
  refine (three_any _ (H.out.below a4)).mono ?_
  rintro e w5 ⟨rfl, hb5⟩
  go_wp2_with fail
  go_ret
  exact ⟨rfl, a4.trans (hb5.mono a4.size)⟩
end Go.Proofs.YtapamkefcfnbpaaDoor
