/- The law BatchChecks. -/
import Derived.Test.YtglalmhpgdgeeaaBatX
import Derived.Test.YtglalmhpgdgeeaaBChk
namespace Go.Proofs.Ytglalmhpgdgeeaa
open Go.RowKit
set_option maxHeartbeats 8000000 in
set_option maxRecDepth 100000 in
theorem batchChecks_walk (n : Int) (A : Option Addr) (m c : Nat) (l : List E3) (w : World) (_hn0 : Lit.wf (.int .i64 n)) (hA : EdsAt w A l) (hl : l.length = m) (_hn : m ≤ maxLen) (_hc : Caps A m c) :
    Calls Try.prog 4 #[.int .i64 n, .slice A m c] w fun e w' => e = .returned (.bool true) ∧ Below w.heap.size w w' := by
  have CW := Lib.hid fun W => axyczd_any W
  clear _hn0
  by_cases hl2 : 200 < m
  · go_enter Try.func4, Try.ntmps4
    go_wp2_with fail
    refine (CW.out _).mono ?_
    rintro e w1 ⟨rfl, hb1⟩
    go_wp2_with fail
    go_ret
    exact ⟨rfl, hb1⟩
  have hm : m ≤ 200 := by omega
  have C1 := Lib.hid fun (W : World) (hW : Below w.heap.size w W) => btCheck_any n A m c l W (hA.below hW) hl
  have C2 := Lib.hid fun (W : World) (hW : Below w.heap.size w W) => rfCheck_any n A m c l W (hA.below hW) hl
  clear hA hl hl2
  generalize bchk n l = F at *
  go_enter Try.func4, Try.ntmps4
  go_wp2_with fail
  refine (C1.out _ (Below.refl _ _)).mono ?_
  rintro e w1 ⟨rfl, hb1⟩
  go_wp2_with fail
  refine (C2.out _ hb1).mono ?_
  rintro e w2 ⟨rfl, hb2⟩
  have a2 := hb1.trans (hb2.mono hb1.size)
  go_wp2_with fail
  refine (CW.out _).mono ?_
  rintro e w3 ⟨rfl, hb3⟩
  go_wp2_with fail
  go_ret
  exact ⟨rfl, a2.trans (hb3.mono a2.size)⟩
end Go.Proofs.Ytglalmhpgdgeeaa
