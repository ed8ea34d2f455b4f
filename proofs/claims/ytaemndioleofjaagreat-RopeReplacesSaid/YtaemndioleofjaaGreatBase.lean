/- Words of my own for memory, over this seat's program: what a slice of cells reads, and small helpers for walks. A block of cells of some type: what it holds behind a store, a draw, a call. A row of the call's own behind a call that changes no old block. A slice of integers, cut: where it lies, and what it holds. -/
import Derived.Test.YtaemndioleofjaaGreatProg
import Derived.WalkKit
import Derived.ProofKit
import Derived.Deep.QuietTactic
import Derived.BigQuiet
import Derived.RegionTactic
import Derived.Lib.Hide
import Derived.Outline
import Derived.Deep.Draws
import Derived.Deep.LoopGhost
import Derived.Deep.DeepCutAuto
import Derived.OpenShut
import Derived.Laws.AppendOwnNone
namespace Go.Proofs.YtaemndioleofjaaGreat
open Go.RowKit

/-- Behind a call that has turned nothing: all old cells and marks read as before. -/
theorem old_cells {W w1 : World} (hb : Below W.heap.size W w1) : (∀ b o, b < W.heap.size → w1.cell? ⟨b, o, none⟩ = W.cell? ⟨b, o, none⟩) ∧ (∀ b o, b < W.heap.size → w1.frozen? ⟨b, o, none⟩ = W.frozen? ⟨b, o, none⟩) :=
  ⟨fun b o h => hb.cell (p := ⟨b, o, none⟩) h, fun b o h => hb.frozen (p := ⟨b, o, none⟩) h⟩
theorem drewN_below {B : Nat} {a w : World} (h : Below B a w) (n : Nat) : Below B a (w.drewN n) := ⟨h.os, h.tape, h.output, h.size, h.block⟩

/-- A slice's length and capacity: no more than there is room for; a nil one has none. -/
def Caps (A : Option Addr) (n c : Nat) : Prop := n ≤ c ∧ (A = none → c = 0)
theorem ret_bool {a b : Bool} (h : a = b) : Ending.returned (.bool a) = .returned (.bool b) := by rw [h]
theorem ret_int {k : IntKind} {a b : Int} (h : a = b) : Ending.returned (.int k a) = .returned (.int k b) := by rw [h]

/-- The first and the last rune of a range, by its number. -/
def rlo (rs : List (Int × Int)) (k : Nat) : Int := (rs.getD k (0, 0)).1
def rhi (rs : List (Int × Int)) (k : Nat) : Int := (rs.getD k (0, 0)).2

/-- Ranges of runes, two cells each, from an address on; nothing is asked where there are none. -/
def RngAt (w : World) (A : Option Addr) (rs : List (Int × Int)) : Prop :=
  0 < rs.length → ∃ b off, A = some ⟨b, off, none⟩ ∧ b < w.heap.size ∧ ∀ k, k < rs.length → w.cell? ⟨b, off + k * 2, none⟩ = some (.int .i32 (rlo rs k)) ∧ w.cell? ⟨b, off + k * 2 + 1, none⟩ = some (.int .i32 (rhi rs k))
theorem RngAt.below {w w' : World} {A : Option Addr} {rs : List (Int × Int)} (h : RngAt w A rs) (hb : Below w.heap.size w w') : RngAt w' A rs := by
  intro hl
  obtain ⟨b, off, rfl, h1, h2⟩ := h hl
  exact ⟨b, off, rfl, Nat.lt_of_lt_of_le h1 hb.size, fun k hk => ⟨((old_cells hb).1 _ _ h1).trans (h2 k hk).1, ((old_cells hb).1 _ _ h1).trans (h2 k hk).2⟩⟩

/-- The cells of ranges. -/
def flat (rs : List (Int × Int)) : List Value := rs.flatMap fun g => [.int .i32 g.1, .int .i32 g.2]
theorem flat_at : ∀ (rs : List (Int × Int)) (k : Nat), k < rs.length → (flat rs)[k * 2]? = some (.int .i32 (rlo rs k)) ∧ (flat rs)[k * 2 + 1]? = some (.int .i32 (rhi rs k))
  | [], k, h => absurd h (by simp)
  | g :: rs, 0, _ => by simp [flat, rlo, rhi]
  | g :: rs, k + 1, h => by
    have := flat_at rs k (by simpa using h)
    have e1 : (k + 1) * 2 = k * 2 + 2 := by omega
    have e2 : (k + 1) * 2 + 1 = k * 2 + 1 + 2 := by omega
    rw [e1, show k * 2 + 2 + 1 = k * 2 + 1 + 2 from by omega]
    simpa [flat, rlo, rhi] using this
theorem flat_length (rs : List (Int × Int)) : (flat rs).length = rs.length * 2 := by
  induction rs with
  | nil => rfl
  | cons g rs ih => simp only [flat, List.flatMap_cons, List.length_append, List.length_cons, List.length_nil] at ih ⊢; omega
theorem block_lt {w : World} {g : Nat} {o : Obj} (h : w.heap[g]? = some o) : g < w.heap.size := by
  rcases Nat.lt_or_ge g w.heap.size with hlt | hge
  · exact hlt
  · rw [Array.getElem?_eq_none hge] at h; cases h
theorem RngAt.of_block {w : World} {g : Nat} {rs : List (Int × Int)} {cs : Array Value} {t : TypeId} {fz : Nat × Nat} (h : w.heap[g]? = some (.cells cs t fz)) (hc : cs.toList = flat rs) : RngAt w (some ⟨g, 0, none⟩) rs := by
  intro _
  refine ⟨g, 0, rfl, block_lt h, fun k hk => ?_⟩
  rw [cell_of_row w g _ cs t fz h, cell_of_row w g _ cs t fz h, ← Array.getElem?_toList, ← Array.getElem?_toList, hc, Nat.zero_add]
  exact flat_at rs k hk

/-- Ranges that are right: each one is one, and begins behind the end of the one ahead. -/
def Srt (rs : List (Int × Int)) : Prop := ∀ i j, i ≤ j → j < rs.length → (i = j → rlo rs i ≤ rhi rs i) ∧ (i < j → rhi rs i < rlo rs j)
/-- Is a rune in one of some ranges? -/
def inR (rs : List (Int × Int)) (r : Int) : Bool := rs.any fun g => decide (g.1 ≤ r) && decide (r ≤ g.2)
theorem inR_true {rs : List (Int × Int)} {r : Int} {m : Nat} (hm : m < rs.length) (h1 : rlo rs m ≤ r) (h2 : r ≤ rhi rs m) : inR rs r = true := by
  have e : rs.getD m (0, 0) = rs[m] := by simp [List.getD, hm]
  unfold rlo at h1
  unfold rhi at h2
  rw [e] at h1 h2
  exact List.any_eq_true.2 ⟨rs[m], List.getElem_mem hm, by simp [h1, h2]⟩
theorem inR_false {rs : List (Int × Int)} {r : Int} (h : ∀ m, m < rs.length → rhi rs m < r ∨ r < rlo rs m) : inR rs r = false := by
  unfold inR
  rw [List.any_eq_false]
  intro g hg
  obtain ⟨m, hm, rfl⟩ := List.mem_iff_getElem.1 hg
  have e : rs.getD m (0, 0) = rs[m] := by simp [List.getD, hm]
  have := h m hm
  unfold rlo rhi at this
  rw [e] at this
  simp
  omega
/-- The number in a list's place. -/
def nth (l : List Int) (k : Nat) : Int := l.getD k 0
/-- Integers of a kind, a cell each, from an address on; nothing is asked where there are none. -/
def IntsAt (kd : IntKind) (w : World) (A : Option Addr) (l : List Int) : Prop :=
  0 < l.length → ∃ b off, A = some ⟨b, off, none⟩ ∧ b < w.heap.size ∧ ∀ k, k < l.length → w.cell? ⟨b, off + k, none⟩ = some (.int kd (nth l k))
theorem IntsAt.below {kd : IntKind} {w w' : World} {A : Option Addr} {l : List Int} (h : IntsAt kd w A l) (hb : Below w.heap.size w w') : IntsAt kd w' A l := by
  intro hl
  obtain ⟨b, off, rfl, h1, h2⟩ := h hl
  exact ⟨b, off, rfl, Nat.lt_of_lt_of_le h1 hb.size, fun k hk => ((old_cells hb).1 _ _ h1).trans (h2 k hk)⟩
/-- What is summed up of the first k. -/
def sumTo (f : Int → Int) (l : List Int) (k : Nat) : Int := ((l.take k).map f).sum
theorem sumTo_zero (f : Int → Int) (l : List Int) : sumTo f l 0 = 0 := by simp [sumTo]
theorem sumTo_succ (f : Int → Int) (l : List Int) {k : Nat} (h : k < l.length) : sumTo f l (k + 1) = sumTo f l k + f (nth l k) := by
  unfold sumTo nth
  rw [List.take_succ_eq_append_getElem h, List.map_append, List.sum_append]
  simp [List.getD, h]
theorem sumTo_all (f : Int → Int) (l : List Int) {k : Nat} (h : l.length ≤ k) : sumTo f l k = (l.map f).sum := by
  unfold sumTo
  rw [List.take_of_length_le h]
theorem sumTo_bd {f : Int → Int} (hf : ∀ r, 0 ≤ f r ∧ f r ≤ 2) (l : List Int) : ∀ k, k ≤ l.length → 0 ≤ sumTo f l k ∧ sumTo f l k ≤ 2 * k
  | 0, _ => by simp [sumTo_zero]
  | k + 1, h => by
    have := sumTo_bd hf l k (by omega)
    have := hf (nth l k)
    rw [sumTo_succ f l (by omega)]
    omega
/-- A block's cells, of some type. -/
def RawAt (t : TypeId) (w : World) (b : Nat) (cs : Array Value) : Prop := w.heap[b]? = some (.cells cs t (0, 0))
theorem RawAt.set_ {t : TypeId} {w : World} {b : Nat} {cs : Array Value} (h : RawAt t w b cs) (k : Nat) (v : Value) : RawAt t (w.setCell ⟨b, k, none⟩ v) b (cs.setIfInBounds k v) := by
  unfold RawAt at h ⊢
  simp [World.setCell, Array.getElem?_modify, h]
theorem RawAt.set_other {t : TypeId} {w : World} {b b' : Nat} {cs : Array Value} (h : RawAt t w b cs) (hne : b ≠ b') (k : Nat) (v : Value) : RawAt t (w.setCell ⟨b', k, none⟩ v) b cs := by
  unfold RawAt at h ⊢
  rw [Below.heap_setCell w ⟨b', k, none⟩ v b hne]
  exact h
theorem RawAt.drew_ {t : TypeId} {w : World} {b : Nat} {cs : Array Value} (h : RawAt t w b cs) : RawAt t w.drew b cs := h
theorem RawAt.lt {t : TypeId} {w : World} {b : Nat} {cs : Array Value} (h : RawAt t w b cs) : b < w.heap.size := block_lt h
theorem RawAt.below {t : TypeId} {w w' : World} {b B : Nat} {cs : Array Value} (h : RawAt t w b cs) (hb : Below B w w') (hB : b < B) : RawAt t w' b cs := (hb.block b hB).trans h
theorem RawAt.free {t : TypeId} {w : World} {b : Nat} {cs : Array Value} (h : RawAt t w b cs) (k : Nat) : w.frozen? ⟨b, k, none⟩ = false := by
  unfold RawAt at h
  simp [World.frozen?, h]
theorem RawAt.cell {t : TypeId} {w : World} {b : Nat} {cs : Array Value} (h : RawAt t w b cs) (k : Nat) : w.cell? ⟨b, k, none⟩ = cs[k]? := by
  unfold RawAt at h
  simp [World.cell?, h]
theorem RawAt.of_eq {t : TypeId} {w : World} {b : Nat} {cs cs' : Array Value} (h : RawAt t w b cs) (e : cs = cs') : RawAt t w b cs' := e ▸ h
theorem new2 (w : World) (t t' : TypeId) (cs cs' : Array Value) : RawAt t ((w.alloc (.cells cs t)).alloc (.cells cs' t')) w.heap.size cs ∧ RawAt t' ((w.alloc (.cells cs t)).alloc (.cells cs' t')) (w.heap.size + 1) cs' ∧ Below w.heap.size w ((w.alloc (.cells cs t)).alloc (.cells cs' t')) ∧ ((w.alloc (.cells cs t)).alloc (.cells cs' t')).heap.size = w.heap.size + 2 :=
  ⟨heap_alloc2_old w _ _, heap_alloc2_new w _ _, ((Below.refl _ _).alloc (Nat.le_refl _) _).alloc (by simp) _, by simp⟩
theorem gen_world {K : World → Prop} {W w : World} {B b : Nat} {t : TypeId} {cs : Array Value} (h1 : Below B w W) (h2 : RawAt t W b cs) (h : ∀ W1, Below B w W1 → RawAt t W1 b cs → K W1) : K W := h W h1 h2
theorem own_below {w w' : World} {base : Nat} {e : TypeId} {size : Nat} {v : Value} {n : Nat} {xs : List Value} (h : w.ownsRow base e size v n xs) (hb : Below w.heap.size w w') : w'.ownsRow base e size v n xs := by
  refine ⟨h.1, ?_⟩
  rcases h.2 with h2 | ⟨g, cap, cur, rfl, hB, c, h3⟩
  · exact .inl h2
  · exact .inr ⟨g, cap, cur, rfl, hB, (hb.block g (block_lt c)).trans c, h3⟩
/-- Where a slice that is cut begins. -/
def cutA (A : Option Addr) (c k : Nat) : Option Addr := if c = k then A else A.map (·.add k)
theorem IntsAt.cut {kd : IntKind} {w : World} {A : Option Addr} {l : List Int} {n c : Nat} (h : IntsAt kd w A l) (hl : l.length = n) (hn : n ≤ c) (k m : Nat) (hk : k + m ≤ n) : IntsAt kd w (cutA A c k) ((l.drop k).take m) := by
  intro hp
  have hlen : ((l.drop k).take m).length = m := by rw [List.length_take, List.length_drop]; omega
  obtain ⟨b, off, rfl, hb, hc⟩ := h (by omega)
  have hne : ¬ c = k := by omega
  refine ⟨b, off + k, by simp [cutA, hne, Addr.add], hb, fun j hj => ?_⟩
  rw [Nat.add_assoc, hc (k + j) (by omega)]
  have e : nth ((l.drop k).take m) j = nth l (k + j) := by
    unfold nth
    simp only [List.getD, List.getElem?_take, List.getElem?_drop]
    rw [if_pos (by omega)]
  rw [e]
theorem cut_both {P : Program} {t e : TypeId} (ht : P.underlying t = some (.slice e)) {i : TypeInfo} (hi : P.info? e = some i) (h1 : P.cellsOf e = 1) (A : Option Addr) (n c k m : Nat) (hk : k + m ≤ c) (w : World) :
    (Instr.slice t (.slice A n c) (some (.int .i64 k)) (some (.int .i64 ((k : Int) + (m : Int)))) none).run P w = .ok (.slice (cutA A c k) m (c - k)) w := by
  have he : P.elem t = e := by simp [Program.elem, ht]
  subst he
  rw [run_slice_lh _ _ _ _ _ ht _ _ _ _ (by omega) (by omega) (by omega), run_sizeOf _ hi, h1]
  simp [Result.andThen, sliced, cutA]
  omega
theorem cut_rest {P : Program} {t e : TypeId} (ht : P.underlying t = some (.slice e)) {i : TypeInfo} (hi : P.info? e = some i) (h1 : P.cellsOf e = 1) (A : Option Addr) (n c k : Nat) (hk : k ≤ n) (w : World) :
    (Instr.slice t (.slice A n c) (some (.int .i64 k)) none none).run P w = .ok (.slice (cutA A c k) (n - k) (c - k)) w := by
  have he : P.elem t = e := by simp [Program.elem, ht]
  subst he
  rw [run_slice_l _ _ _ _ _ ht _ _ (by omega) (by omega), run_sizeOf _ hi, h1]
  simp [Result.andThen, sliced, cutA]
end Go.Proofs.YtaemndioleofjaaGreat
