/- A tree's row cut. -/
import Derived.Test.YtaemndioleofjaaGreatTreeKQ
import Derived.Test.YtaemndioleofjaaGreatTreeT
import Derived.Test.YtaemndioleofjaaGreatCutA
namespace Go.Proofs.YtaemndioleofjaaGreat
open Go.RowKit
theorem Okl.slice {l : List I7} (h : Okl l) (x n : Nat) : Okl ((l.drop x).take n) := fun i hi => h i (List.mem_of_mem_drop (List.mem_of_mem_take hi))
theorem top_cut {v : Value} {l : List I7} {h : Nat} {w : World} (ht : Top w v l h) (hz : l.length ≤ 30000) (x y : Nat) (hx : x ≤ y) (hy : y ≤ l.length) (W : World) (hW : Below w.heap.size w W) :
    Calls Tryz.prog 75 #[v, .int .i64 x, .int .i64 y] W fun e w' => ∃ v i, e = .returned v ∧ Top w' v ((l.drop x).take (y - x)) i ∧ Below W.heap.size W w' := by
  rcases ht with ⟨rfl, rfl, rfl⟩ | ⟨c, hk, hc⟩
  · obtain rfl : x = y := by simp at hy; omega
    refine (cut_none _ x W).mono ?_
    rintro e w' ⟨rfl, rfl⟩
    exact ⟨_, 0, rfl, .inl ⟨rfl, rfl, by simp⟩, Below.refl _ _⟩
  · exact cut_any h ⟨v, l, c⟩ W x y (hk.below hW) hc hx hy (by show l.length ≤ _; omega)
end Go.Proofs.YtaemndioleofjaaGreat
