/- A range over a function: what a round keeps: all cells but one's own. -/
import Derived.RangeFuncNested
import Derived.RangeFuncBound
import Derived.RangeFuncCalls
import Derived.RangeFuncLeaves
import Derived.RangeFuncBox
import Derived.Shelf.Abstract
import Derived.Shelf.RegionOpen
import Derived.WalkKit
import Derived.OwnWalkIn
import Derived.TacticsInMore
import Derived.LoopNIn
import Derived.LoopIn
import Derived.Test.YtpnjokhhbjpciaaGreatDoorMid
namespace Go.Proofs.YtpnjokhhbjpciaaGreatDoor
open Go.RowKit Go.Shelf
set_option linter.unusedVariables false
/-- What lay below n₀ stays, and all cells that are not 'mine'. -/
def KpM (n₀ : Nat) (Mine : Nat → Obj → Prop) (W W' : World) : Prop :=
  Below n₀ W W' ∧ ∀ k o, W.heap[k]? = some o → o.isCells = true → ¬ Mine k o → W'.heap[k]? = some o
theorem KpM.refl (n₀ : Nat) (Mine : Nat → Obj → Prop) (W : World) : KpM n₀ Mine W W := ⟨Below.refl _ _, fun _ _ h _ _ => h⟩
theorem KpM.trans {n₀ : Nat} {Mine : Nat → Obj → Prop} {A B C : World} (h : KpM n₀ Mine A B) (k : KpM n₀ Mine B C) : KpM n₀ Mine A C :=
  ⟨h.1.trans k.1, fun i o h1 h2 h3 => k.2 i o (h.2 i o h1 h2 h3) h2 h3⟩
theorem KpM.put {n₀ m : Nat} {Mine : Nat → Obj → Prop} (hm : n₀ ≤ m) (W : World) (l : Nat) (o o' : Obj) (hl : m ≤ l) (h : W.heap[l]? = some o) (hc : o.isCells = false) (_ : o.isWalk = false) : KpM n₀ Mine W (W.putObj l o') := by
  have hlt : l < W.heap.size := (Array.getElem?_eq_some_iff.1 h).1
  refine ⟨⟨rfl, rfl, rfl, by simp, fun k hk => World.putObj_heap_other (by omega)⟩, fun k u h1 h2 _ => ?_⟩
  rw [World.putObj_heap_other]
  · exact h1
  · intro e
    subst e
    rw [h] at h1
    cases h1
    rw [hc] at h2
    cases h2
/-- What a step does that leaves all that there was. -/
theorem grown_none {W W' : World} (h : Below W.heap.size W W') : W.grownBy W' none := ⟨h.os, h.tape, h.output, h.size, fun k hk _ => h.block k hk⟩
theorem abides_below {β : Type} {B : Nat} {J : β → World → Prop} (h : AbidesFrom B J) {s : β} {W W' : World} (hs : J s W) (hb : Below W.heap.size W W') : J s W' :=
  h s W W' none hs (grown_none hb) (fun r e => by cases e)
theorem ownFrom_belowK {β : Type} {B : Nat} {J : β → World → Prop} (h : OwnFrom B J) {s : β} {W W' : World} (hs : J s W) (hb : Below W.heap.size W W') : J s W' :=
  h s W W' none hs (grown_none hb) (fun r e => by cases e)
theorem KpM.of_below {n₀ : Nat} {Mine : Nat → Obj → Prop} {W W' : World} (h : Below W.heap.size W W') (hn : n₀ ≤ W.heap.size) : KpM n₀ Mine W W' :=
  ⟨h.mono hn, fun k o h1 _ _ => (h.block k (Array.getElem?_eq_some_iff.1 h1).1).trans h1⟩
theorem KpM.box {n₀ : Nat} {Mine : Nat → Obj → Prop} {W W' : World} {B : Nat} {t : TypeId} {v : Value} (h : KpM n₀ Mine W W') (hb : Boxed W B t v) (hm : ¬ Mine B (.cells #[v] t (0, 0))) : Boxed W' B t v := h.2 B _ hb rfl hm
theorem Boxed.below {W W' : World} {B n : Nat} {t : TypeId} {v : Value} (hb : Boxed W B t v) (h : Below n W W') (hn : B < n) : Boxed W' B t v := (h.block B hn).trans hb
end Go.Proofs.YtpnjokhhbjpciaaGreatDoor
