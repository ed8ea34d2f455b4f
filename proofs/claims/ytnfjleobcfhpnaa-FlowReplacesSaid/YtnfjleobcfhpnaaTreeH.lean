/- Methods of trees: Height. -/
import Derived.Test.YtnfjleobcfhpnaaTreeT
namespace Go.Proofs.Ytnfjleobcfhpnaa
open Go.RowKit
set_option maxHeartbeats 4000000 in
set_option maxRecDepth 100000 in
theorem theight_any (p : Option Addr) (l : List I7) (h : Nat) (w : World) (ht : TP w p l h) :
    Calls Try.prog 72 #[.pointer p] w fun e w' => e = .returned (.int .i64 h) ∧ Below w.heap.size w w' := by
  have C1 := Lib.hid (root_any p l h w ht)
  go_enter Try.func72, Try.ntmps72
  go_wp2_with fail
  refine C1.out.mono ?_
  rintro e w1 ⟨v, rfl, hT, rfl⟩
  have C2 : Hid (Calls Try.prog 93 #[v] w1 fun e w' => e = .returned (.int .i64 h) ∧ w' = w1) := by
    rcases hT with ⟨rfl, rfl, rfl⟩ | ⟨c, hk, _⟩
    · exact heightOf_nil w1
    · exact heightOf_any h w1 ⟨v, l, c⟩ hk
  go_wp2_with fail
  refine C2.out.mono ?_
  rintro e w2 ⟨rfl, rfl⟩
  go_wp2
  go_ret
  exact ⟨rfl, Below.refl _ _⟩
end Go.Proofs.Ytnfjleobcfhpnaa
