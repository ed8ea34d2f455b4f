/- The tree's contracts, all together: what the laws' walks ask, of this program's trees. -/
import Derived.Test.YtnfjleobcfhpnaaTreeSnd
import Derived.Test.YtnfjleobcfhpnaaTreeH
import Derived.Test.YtnfjleobcfhpnaaTreeSpec
import Derived.Test.YtnfjleobcfhpnaaTreeR
import Derived.Test.YtnfjleobcfhpnaaTreeF
namespace Go.Proofs.Ytnfjleobcfhpnaa
open Go.RowKit
theorem p4_four : ∀ n : Nat, ((p4 n : Nat) : Int) = four n
  | 0 => rfl
  | n + 1 => by rw [four_succ, ← p4_four n]; show ((4 * p4 n : Nat) : Int) = _; omega
theorem TT.facts {w : World} {a : Addr} {l : List I7} {h : Nat} (ht : TT w a l h) : Okl l ∧ l.length ≤ 30000 ∧ (h = 0 ↔ l.length = 0) ∧ (2 ≤ h → 2 * four (h - 1) ≤ (l.length : Int)) ∧ h ≤ 30000 := by
  rcases ht with ⟨h1, _⟩ | ⟨b, v, h1, h2, h3, h4, h5⟩
  · cases h1
  · rcases h3 with ⟨rfl, rfl, rfl⟩ | ⟨c, hk, hc⟩
    · exact ⟨h4, h5, ⟨fun _ => rfl, fun _ => rfl⟩, fun h => absurd h (by omega), by omega⟩
    · obtain ⟨x, hx⟩ := hk.pos
      have g1 : c * p4 (h - 1) ≤ l.length := hk.size
      have g2 : 1 ≤ c ∧ c ≤ 8 := hk.cnt
      have g3 := lt_p4 (h - 1)
      have g4 := Nat.mul_le_mul_right (p4 (h - 1)) g2.1
      refine ⟨h4, h5, ⟨fun e => by omega, fun e => by omega⟩, fun h2' => ?_, by omega⟩
      have g5 := Nat.mul_le_mul_right (p4 (h - 1)) (hc h2')
      have g6 := p4_four (h - 1)
      omega
end Go.Proofs.Ytnfjleobcfhpnaa
