/- A block of cells of some type: what it holds behind a store, a draw, a call. -/
import Derived.Test.YtbbplppcabeojaaBase
namespace Go.Proofs.Ytbbplppcabeojaa
open Go.RowKit
/-- A block's cells, of some type. -/
def RawAt (t : TypeId) (w : World) (b : Nat) (cs : Array Value) : Prop := w.heap[b]? = some (.cells cs t (0, 0))
theorem RawAt.set_ {t : TypeId} {w : World} {b : Nat} {cs : Array Value} (h : RawAt t w b cs) (k : Nat) (v : Value) : RawAt t (w.setCell ⟨b, k, none⟩ v) b (cs.setIfInBounds k v) := by
  unfold RawAt at h ⊢
  simp [World.setCell, Array.getElem?_modify, h]
theorem RawAt.set_other {t : TypeId} {w : World} {b b' : Nat} {cs : Array Value} (h : RawAt t w b cs) (hne : b ≠ b') (k : Nat) (v : Value) : RawAt t (w.setCell ⟨b', k, none⟩ v) b cs := by
  unfold RawAt at h ⊢
  rw [Below.heap_setCell w ⟨b', k, none⟩ v b hne]
  exact h
theorem RawAt.drew_ {t : TypeId} {w : World} {b : Nat} {cs : Array Value} (h : RawAt t w b cs) : RawAt t w.drew b cs := h
theorem RawAt.lt {t : TypeId} {w : World} {b : Nat} {cs : Array Value} (h : RawAt t w b cs) : b < w.heap.size := block_lt h
theorem RawAt.below {t : TypeId} {w w' : World} {b B : Nat} {cs : Array Value} (h : RawAt t w b cs) (hb : Below B w w') (hB : b < B) : RawAt t w' b cs := (hb.block b hB).trans h
theorem RawAt.free {t : TypeId} {w : World} {b : Nat} {cs : Array Value} (h : RawAt t w b cs) (k : Nat) : w.frozen? ⟨b, k, none⟩ = false := by
  unfold RawAt at h
  simp [World.frozen?, h]
theorem RawAt.cell {t : TypeId} {w : World} {b : Nat} {cs : Array Value} (h : RawAt t w b cs) (k : Nat) : w.cell? ⟨b, k, none⟩ = cs[k]? := by
  unfold RawAt at h
  simp [World.cell?, h]
theorem RawAt.of_eq {t : TypeId} {w : World} {b : Nat} {cs cs' : Array Value} (h : RawAt t w b cs) (e : cs = cs') : RawAt t w b cs' := e ▸ h
theorem new2 (w : World) (t t' : TypeId) (cs cs' : Array Value) : RawAt t ((w.alloc (.cells cs t)).alloc (.cells cs' t')) w.heap.size cs ∧ RawAt t' ((w.alloc (.cells cs t)).alloc (.cells cs' t')) (w.heap.size + 1) cs' ∧ Below w.heap.size w ((w.alloc (.cells cs t)).alloc (.cells cs' t')) ∧ ((w.alloc (.cells cs t)).alloc (.cells cs' t')).heap.size = w.heap.size + 2 :=
  ⟨heap_alloc2_old w _ _, heap_alloc2_new w _ _, ((Below.refl _ _).alloc (Nat.le_refl _) _).alloc (by simp) _, by simp⟩
theorem gen_world {K : World → Prop} {W w : World} {B b : Nat} {t : TypeId} {cs : Array Value} (h1 : Below B w W) (h2 : RawAt t W b cs) (h : ∀ W1, Below B w W1 → RawAt t W1 b cs → K W1) : K W := h W h1 h2
end Go.Proofs.Ytbbplppcabeojaa
