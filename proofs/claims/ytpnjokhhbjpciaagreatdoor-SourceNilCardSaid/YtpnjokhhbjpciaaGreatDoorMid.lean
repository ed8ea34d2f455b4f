/- Memory: a row of one's own that grows beside blocks that were made between two times: those stay as they were. -/
import Derived.Test.YtpnjokhhbjpciaaGreatDoorKRow
namespace Go.Proofs.YtpnjokhhbjpciaaGreatDoor
open Go.RowKit
set_option linter.unusedVariables false
/-- Blocks from B on, up to those of w4, are as they were in w4; the row u is not among them. -/
structure Mid (B : Nat) (w4 W : World) (u : Value) : Prop where
  size : w4.heap.size ≤ W.heap.size
  mid : ∀ k, B ≤ k → k < w4.heap.size → W.heap[k]? = w4.heap[k]?
  own : ∀ k, u.ownBlock = some k → k < B ∨ w4.heap.size ≤ k
theorem Mid.start {B : Nat} {w4 : World} {u : Value} (h : ∀ k, u.ownBlock = some k → k < B ∨ w4.heap.size ≤ k) : Mid B w4 w4 u := ⟨Nat.le_refl _, fun _ _ _ => rfl, h⟩
theorem Mid.nil (B : Nat) (w4 : World) : Mid B w4 w4 (.slice none 0 0) := Mid.start fun k h => by cases h
theorem Mid.below {B : Nat} {w4 W W' : World} {u : Value} (h : Mid B w4 W u) (hb : Below W.heap.size W W') : Mid B w4 W' u :=
  ⟨Nat.le_trans h.size hb.size, fun k h1 h2 => (hb.block k (by have := h.size; omega)).trans (h.mid k h1 h2), h.own⟩
theorem Mid.grown {B : Nat} {w4 W W' : World} {u v' : Value} (h : Mid B w4 W u) (hg : W.grownBy W' u.ownBlock) (hv : v'.ownBlock = u.ownBlock ∨ v'.ownBlock = some W.heap.size) : Mid B w4 W' v' := by
  refine ⟨Nat.le_trans h.size hg.size, fun k h1 h2 => ?_, fun k hk => ?_⟩
  · have h3 := h.size
    refine (hg.block k (by omega) ?_).trans (h.mid k h1 h2)
    intro he
    rcases h.own k he.symm with h4 | h4 <;> omega
  · rcases hv with hv | hv
    · exact h.own k (hv ▸ hk)
    · rw [hv] at hk
      obtain rfl : W.heap.size = k := by injection hk
      exact .inr h.size
theorem Mid.row {B : Nat} {w4 W : World} {u : Value} {e : TypeId} {size : Nat} {v : Value} {n : Nat} {xs : List Value} (h : Mid B w4 W u) (ho : w4.ownsRow B e size v n xs) : W.ownsRow B e size v n xs := by
  refine ⟨ho.1, ?_⟩
  rcases ho.2 with g | ⟨g, cap, cur, rfl, hB, c, h3⟩
  · exact .inl g
  · exact .inr ⟨g, cap, cur, rfl, hB, (h.mid g hB (block_lt c)).trans c, h3⟩
/-- Numbers as cells. -/
def encN (kd : IntKind) (x : Int) : List Value := [.int kd x]
theorem encN_len (kd : IntKind) (x : Int) : (encN kd x).length = 1 := rfl
theorem encN_one (kd : IntKind) (x : Int) : ∀ v ∈ encN kd x, v.oneCell' = true := by intro v hv; simp [encN] at hv; subst hv; rfl
theorem kfl_encN (kd : IntKind) (l : List Int) : kfl (encN kd) l = l.map (.int kd) := by
  induction l with
  | nil => rfl
  | cons x l ih => rw [kfl_cons, ih]; rfl
theorem rows_ints {kd : IntKind} {w : World} {A : Option Addr} {l : List Int} (h : IntsAt kd w A l) : RowsAt (encN kd) 1 w A l := by
  intro hl
  obtain ⟨b, off, rfl, h1, h2⟩ := h hl
  refine ⟨b, off, rfl, h1, fun j hj c hc => ?_⟩
  obtain rfl : c = 0 := by omega
  have := h2 j hj
  rw [Nat.mul_one, Nat.add_zero, this]
  simp [encN, nth, List.getD, hj]
theorem row_new {α : Type} {enc : α → List Value} {k : Nat} (hk : ∀ x, (enc x).length = k) (w : World) (l : List α) (cs : Array Value) (t : TypeId) (hc : cs.toList = kfl enc l) : RowsAt enc k (w.alloc (.cells cs t)) (some ⟨w.heap.size, 0, none⟩) l :=
  rows_of_block hk (heap_alloc_new w (.cells cs t)) hc
end Go.Proofs.YtpnjokhhbjpciaaGreatDoor
