/- Memory: worlds that agree on all that was there, but on one block. -/
import Derived.Test.YtnfjleobcfhpnaaBase
namespace Go.Proofs.Ytnfjleobcfhpnaa
open Go.RowKit
set_option linter.unusedVariables false
/-- Worlds that agree on all that was there, but on one block. -/
structure OnB (g : Nat) (w w' : World) : Prop where
  below : Below g w w'
  rest : ∀ k, k < w.heap.size → k ≠ g → w'.heap[k]? = w.heap[k]?
theorem OnB.refl (g : Nat) (w : World) : OnB g w w := ⟨Below.refl _ _, fun _ _ _ => rfl⟩
theorem OnB.trans {g : Nat} {a b c : World} (h : OnB g a b) (k : OnB g b c) : OnB g a c := ⟨h.below.trans k.below, fun i hi hn => (k.rest i (Nat.lt_of_lt_of_le hi h.below.size) hn).trans (h.rest i hi hn)⟩
theorem OnB.set {g : Nat} {a b : World} (h : OnB g a b) (k : Nat) (v : Value) : OnB g a (b.setCell ⟨g, k, none⟩ v) :=
  ⟨h.below.setCell (p := ⟨g, k, none⟩) (Nat.le_refl _) v, fun i hi hn => (Below.heap_setCell b ⟨g, k, none⟩ v i hn).trans (h.rest i hi hn)⟩
theorem OnB.sets {g : Nat} {a : World} : ∀ (l : List Value) (o : Nat) {b : World}, OnB g a b → OnB g a (b.setCells g o l)
  | [], _, _, h => h
  | v :: l, o, b, h => OnB.sets l (o + 1) (h.set o v)
theorem OnB.drew {g : Nat} {a b : World} (h : OnB g a b) : OnB g a b.drew := ⟨h.below.drew, h.rest⟩
theorem OnB.raw {g b : Nat} {t : TypeId} {cs : Array Value} {w w' : World} (h : OnB g w w') (hr : RawAt t w b cs) (hn : b ≠ g) : RawAt t w' b cs := (h.rest b hr.lt hn).trans hr
end Go.Proofs.Ytnfjleobcfhpnaa
