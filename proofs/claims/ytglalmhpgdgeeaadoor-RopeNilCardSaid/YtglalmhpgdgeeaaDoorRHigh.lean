/- Methods of trees: Height. A rope's height. -/
import Derived.Test.YtglalmhpgdgeeaaDoorTreeT
import Derived.Test.YtglalmhpgdgeeaaDoorRopeA
namespace Go.Proofs.YtglalmhpgdgeeaaDoor
open Go.RowKit
set_option maxHeartbeats 4000000 in
set_option maxRecDepth 100000 in
theorem theight_any (p : Option Addr) (l : List I7) (h : Nat) (w : World) (ht : TP w p l h) :
    Calls Tryd.prog 35 #[.pointer p] w fun e w' => e = .returned (.int .i64 h) ∧ Below w.heap.size w w' := by
  have C1 := Lib.hid (root_any p l h w ht)
  go_enter Tryd.func35, Tryd.ntmps35
  go_wp2_with fail
  refine C1.out.mono ?_
  rintro e w1 ⟨v, rfl, hT, rfl⟩
  have C2 : Hid (Calls Tryd.prog 59 #[v] w1 fun e w' => e = .returned (.int .i64 h) ∧ w' = w1) := by
    rcases hT with ⟨rfl, rfl, rfl⟩ | ⟨c, hk, _⟩
    · exact heightOf_nil w1
    · exact heightOf_any h w1 ⟨v, l, c⟩ hk
  go_wp2_with fail
  refine C2.out.mono ?_
  rintro e w2 ⟨rfl, rfl⟩
  go_wp2
  go_ret
  exact ⟨rfl, Below.refl _ _⟩
section
variable {p : Option Addr} {ps : List (List Int)} {h : Nat} {w : World}
theorem rheight_any (hr : RP w p ps h) : Calls Tryd.prog 14 #[.pointer p] w fun e w' => e = .returned (.int .i64 h) ∧ Below w.heap.size w w' := by
  obtain ⟨row, hT, hp⟩ := pieces_fix hr
  have C1 := Lib.hid (hp w (Below.refl _ _))
  have C2 := Lib.hid (theight_any row (ps.map pit) h w hT)
  clear hr hT hp
  go_enter Tryd.func14, Tryd.ntmps14
  go_wp2_with fail
  refine C1.out.mono ?_
  rintro e w1 ⟨rfl, rfl⟩
  go_wp2_with fail
  refine C2.out.mono ?_
  rintro e w2 ⟨rfl, hb2⟩
  go_wp2_with fail
  go_ret
  exact ⟨rfl, hb2⟩
end
end Go.Proofs.YtglalmhpgdgeeaaDoor
