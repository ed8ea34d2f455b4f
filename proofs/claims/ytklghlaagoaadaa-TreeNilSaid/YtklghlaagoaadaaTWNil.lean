/- The nil tree's contracts: what the law on it asks; its walk. -/
import Derived.Test.YtklghlaagoaadaaTreeK
import Derived.Test.YtklghlaagoaadaaLawTNil
namespace Go.Proofs.Ytklghlaagoaadaa
open Go.RowKit
theorem tnil (w : World) : TP w none [] 0 := .inl ⟨rfl, rfl, rfl⟩
set_option linter.unusedVariables false in
theorem treeN : TreeN TT where
  at_ := fun w i => tat_bad none [] 0 i w (tnil w) (fun h => absurd h.2 (by simp; omega))
  slice := fun w => tslice_any none [] 0 0 0 w (tnil w) (Nat.le_refl _) (Nat.le_refl _)
  find := fun w => (tfind_any none [] 0 3 0 0 w (tnil w) ⟨by omega, by omega, by omega, Int.le_refl _, .inl rfl⟩).mono fun e w' ⟨k, z, hF, h0, h1, he, hb⟩ => by
    obtain rfl : k = 0 := by have := hF.le; simpa using this
    obtain rfl : z = 0 := by omega
    exact ⟨he, hb⟩
  join := fun w => tjoin_any none none [] [] 0 0 w (tnil w) (tnil w) (by simp)
  height := fun w => theight_any none [] 0 w (tnil w)
  sum := fun w => tsum_any none [] 0 w (tnil w)
  sound := fun w => tsound_any none [] 0 w (tnil w)
theorem treeNil_walk {P0 : Prop} (a0 : Int) (w : World) (_ : P0) :
    Calls Try.prog 8 #[.int .i64 a0] w fun e w' => e = .returned (.bool true) ∧ Below w.heap.size w w' := treeNil_any treeC treeN a0 w
end Go.Proofs.Ytklghlaagoaadaa
