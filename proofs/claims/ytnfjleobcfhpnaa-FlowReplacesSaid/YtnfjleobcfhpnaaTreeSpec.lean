/- What the walks of the laws on trees ask of the tree's functions: their contracts, over whatever says that a tree lies at an address. -/
import Derived.Test.YtnfjleobcfhpnaaRefSame
import Derived.Test.YtnfjleobcfhpnaaRefAsks
import Derived.Test.YtnfjleobcfhpnaaTreeQ
import Derived.Test.YtnfjleobcfhpnaaRefs5
namespace Go.Proofs.Ytnfjleobcfhpnaa
open Go.RowKit
section
variable {T : World → Addr → List I7 → Nat → Prop}
/-- The three items of the law's small case. -/
def l3 : List I7 := [⟨0, 0, 1, 0, 0, 0, ⟨#[]⟩⟩, ⟨0, 0, 2, 0, 0, 0, ⟨#[]⟩⟩, ⟨0, 0, 3, 0, 0, 0, ⟨#[]⟩⟩]
theorem l3_ok : Okl l3 := by
  intro i hi
  simp only [l3, List.mem_cons, List.not_mem_nil, or_false] at hi
  rcases hi with rfl | rfl | rfl <;> (unfold Oki Okd Okn; simp only; omega)
theorem l3_find1 : FindIs l3 0 1 1 1 := ⟨by decide, fun j hj => by
  obtain rfl : j = 0 := by omega
  show ¬ ((1 : Int) < 1 ∨ ((1 : Int) = 0 ∧ (1 : Int) = 1))
  omega, fun _ => .inl (by show (1 : Int) < 3; omega)⟩
theorem l3_find0 : FindIs l3 0 1 0 0 := ⟨by decide, fun j hj => absurd hj (by omega), fun _ => .inr ⟨rfl, rfl⟩⟩
theorem l3_ask (b : Int) (hb : b = 0 ∨ b = 1) : AskOk l3 ((0 : Nat) : Int) 1 b := ⟨by omega, by omega, by omega, by show (1 : Int) ≤ 6; omega, hb⟩
end
end Go.Proofs.Ytnfjleobcfhpnaa
