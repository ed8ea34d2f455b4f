/- The document's plain table (package bodkinref02). -/
import Derived.Test.YtbalafgoengppaaDoorRefW
import Derived.Test.YtbalafgoengppaaDoorThree
namespace Go.Proofs.YtbalafgoengppaaDoor
open Go.RowKit
theorem RTab.of_tab {w : World} {tb : Nat} {zs ws : List (Int × Int)} (h : TabAt w.drew tb zs ws) : RTab w tb zs ws := by
  obtain ⟨A1, A2, c1, c2, h0, h1, h2, h3, h4, h5, h6, _, _⟩ := h
  exact ⟨A1, A2, c1, c2, h0, h1, h2, h3, h4, h5, h6⟩
set_option maxHeartbeats 400000 in
theorem rplain_any (w : World) : Calls Tryd.prog 19 #[] w fun e w' => ∃ tb, e = .returned (.pointer (some ⟨tb, 0, none⟩)) ∧ Below w.heap.size w w' ∧ RTab w' tb zeroL wideL := by
  go_enter Tryd.func19, Tryd.ntmps19
  go_wp2
  go_ret
  refine ⟨_, rfl, ?_, ?_⟩
  · exact ((((Below.refl _ _).alloc (Nat.le_refl _) _).alloc (by simp) _).alloc (by simp; omega) _)
  · exact RTab.of_tab (tab_of w _ _ _ rfl rfl rfl)
end Go.Proofs.YtbalafgoengppaaDoor
