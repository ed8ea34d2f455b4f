/- Creases: Update of no crease. -/
import Derived.Test.YtjkmkobnfhepaaaGreatCrG
import Derived.Test.YtjkmkobnfhepaaaGreatCrF
import Derived.Test.YtjkmkobnfhepaaaGreatCrD
import Derived.Test.YtjkmkobnfhepaaaGreatCrZ
import Derived.Test.YtjkmkobnfhepaaaGreatTreeR
import Derived.Deep.QuietTactic
import Derived.BigQuiet
namespace Go.Proofs.YtjkmkobnfhepaaaGreat
open Go.RowKit
set_option linter.unusedVariables false
set_option maxHeartbeats 8000000 in
set_option maxRecDepth 100000 in
theorem cIndexF0 (A : Option Addr) (c : Nat) (K : Value) (w : World) : Calls Tryz.prog 72 #[.slice A 0 c, K] w fun e w' => e = .returned (.int .i64 (-1)) ∧ w' = w := by
  go_enter Tryz.func72, Tryz.ntmps72
  go_wp2_with fail
  go_loopg [8] 0 (fun g i wr => i = .int .i64 0 ∧ wr = w)
  case atStart => exact ⟨rfl, rfl⟩
  case round =>
    obtain ⟨rfl, rfl⟩ := hrel
    go_wp2
    go_ret
    exact ⟨rfl, rfl⟩
set_option maxHeartbeats 8000000 in
set_option maxRecDepth 100000 in
theorem cDelete0 (A : Option Addr) (c : Nat) (K : Value) (w : World) : Calls Tryz.prog 38 #[.slice A 0 c, K] w fun e w' => e = .returned (.slice A 0 c) ∧ w' = w := by
  have CI := Lib.hid (cIndexF0 A c K w)
  go_enter Tryz.func38, Tryz.ntmps38
  go_wp2_with fail
  with_reducible refine (CI.out).mono ?_
  rintro e1 w1 ⟨rfl, rfl⟩
  go_wp2
  go_ret
  exact ⟨rfl, rfl⟩
end Go.Proofs.YtjkmkobnfhepaaaGreat
