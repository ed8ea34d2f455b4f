/- Words of my own for memory, over this seat's program: what a slice of cells reads, and small helpers for walks. A block of cells of some type: what it holds behind a store, a draw, a call. A row of the call's own behind a call that changes no old block. A slice of integers, cut: where it lies, and what it holds. Appending integers onto a row of the call's own, the source nil, empty or not; what a row of one's own is behind a call. Plain facts on runes and how many bytes they have: nothing of the program. Runes of a text, by the model's own decoder: words of my own, and the contracts of utf.Count and utf.Decode. The contract of utf.Decode. Plain facts on runes and their encodings, over lists of bytes: nothing of the program. -/
import Derived.Test.YtpnjokhhbjpciaaGreatDoorProg
import Derived.WalkKit
import Derived.ProofKit
import Derived.Deep.QuietTactic
import Derived.BigQuiet
import Derived.RegionTactic
import Derived.Lib.Hide
import Derived.Outline
import Derived.Deep.Draws
import Derived.Deep.LoopGhost
import Derived.Deep.DeepCutAuto
import Derived.OpenShut
import Derived.Laws.AppendOwnNone
import Derived.Lib.MapLaws
import Derived.Lib.ValidLaws
import Derived.WalkSmall
namespace Go.Proofs.YtpnjokhhbjpciaaGreatDoor
section
open Go.RowKit

/-- Behind a call that has turned nothing: all old cells and marks read as before. -/
theorem old_cells {W w1 : World} (hb : Below W.heap.size W w1) : (∀ b o, b < W.heap.size → w1.cell? ⟨b, o, none⟩ = W.cell? ⟨b, o, none⟩) ∧ (∀ b o, b < W.heap.size → w1.frozen? ⟨b, o, none⟩ = W.frozen? ⟨b, o, none⟩) :=
  ⟨fun b o h => hb.cell (p := ⟨b, o, none⟩) h, fun b o h => hb.frozen (p := ⟨b, o, none⟩) h⟩
theorem drewN_below {B : Nat} {a w : World} (h : Below B a w) (n : Nat) : Below B a (w.drewN n) := ⟨h.os, h.tape, h.output, h.size, h.block⟩

/-- A slice's length and capacity: no more than there is room for; a nil one has none. -/
def Caps (A : Option Addr) (n c : Nat) : Prop := n ≤ c ∧ (A = none → c = 0)
theorem ret_bool {a b : Bool} (h : a = b) : Ending.returned (.bool a) = .returned (.bool b) := by rw [h]
theorem ret_int {k : IntKind} {a b : Int} (h : a = b) : Ending.returned (.int k a) = .returned (.int k b) := by rw [h]

/-- The first and the last rune of a range, by its number. -/
def rlo (rs : List (Int × Int)) (k : Nat) : Int := (rs.getD k (0, 0)).1
def rhi (rs : List (Int × Int)) (k : Nat) : Int := (rs.getD k (0, 0)).2

/-- Ranges of runes, two cells each, from an address on; nothing is asked where there are none. -/
def RngAt (w : World) (A : Option Addr) (rs : List (Int × Int)) : Prop :=
  0 < rs.length → ∃ b off, A = some ⟨b, off, none⟩ ∧ b < w.heap.size ∧ ∀ k, k < rs.length → w.cell? ⟨b, off + k * 2, none⟩ = some (.int .i32 (rlo rs k)) ∧ w.cell? ⟨b, off + k * 2 + 1, none⟩ = some (.int .i32 (rhi rs k))
theorem RngAt.below {w w' : World} {A : Option Addr} {rs : List (Int × Int)} (h : RngAt w A rs) (hb : Below w.heap.size w w') : RngAt w' A rs := by
  intro hl
  obtain ⟨b, off, rfl, h1, h2⟩ := h hl
  exact ⟨b, off, rfl, Nat.lt_of_lt_of_le h1 hb.size, fun k hk => ⟨((old_cells hb).1 _ _ h1).trans (h2 k hk).1, ((old_cells hb).1 _ _ h1).trans (h2 k hk).2⟩⟩

/-- The cells of ranges. -/
def flat (rs : List (Int × Int)) : List Value := rs.flatMap fun g => [.int .i32 g.1, .int .i32 g.2]
theorem flat_at : ∀ (rs : List (Int × Int)) (k : Nat), k < rs.length → (flat rs)[k * 2]? = some (.int .i32 (rlo rs k)) ∧ (flat rs)[k * 2 + 1]? = some (.int .i32 (rhi rs k))
  | [], k, h => absurd h (by simp)
  | g :: rs, 0, _ => by simp [flat, rlo, rhi]
  | g :: rs, k + 1, h => by
    have := flat_at rs k (by simpa using h)
    have e1 : (k + 1) * 2 = k * 2 + 2 := by omega
    have e2 : (k + 1) * 2 + 1 = k * 2 + 1 + 2 := by omega
    rw [e1, show k * 2 + 2 + 1 = k * 2 + 1 + 2 from by omega]
    simpa [flat, rlo, rhi] using this
theorem flat_length (rs : List (Int × Int)) : (flat rs).length = rs.length * 2 := by
  induction rs with
  | nil => rfl
  | cons g rs ih => simp only [flat, List.flatMap_cons, List.length_append, List.length_cons, List.length_nil] at ih ⊢; omega
theorem block_lt {w : World} {g : Nat} {o : Obj} (h : w.heap[g]? = some o) : g < w.heap.size := by
  rcases Nat.lt_or_ge g w.heap.size with hlt | hge
  · exact hlt
  · rw [Array.getElem?_eq_none hge] at h; cases h
theorem RngAt.of_block {w : World} {g : Nat} {rs : List (Int × Int)} {cs : Array Value} {t : TypeId} {fz : Nat × Nat} (h : w.heap[g]? = some (.cells cs t fz)) (hc : cs.toList = flat rs) : RngAt w (some ⟨g, 0, none⟩) rs := by
  intro _
  refine ⟨g, 0, rfl, block_lt h, fun k hk => ?_⟩
  rw [cell_of_row w g _ cs t fz h, cell_of_row w g _ cs t fz h, ← Array.getElem?_toList, ← Array.getElem?_toList, hc, Nat.zero_add]
  exact flat_at rs k hk

/-- Ranges that are right: each one is one, and begins behind the end of the one ahead. -/
def Srt (rs : List (Int × Int)) : Prop := ∀ i j, i ≤ j → j < rs.length → (i = j → rlo rs i ≤ rhi rs i) ∧ (i < j → rhi rs i < rlo rs j)
/-- Is a rune in one of some ranges? -/
def inR (rs : List (Int × Int)) (r : Int) : Bool := rs.any fun g => decide (g.1 ≤ r) && decide (r ≤ g.2)
theorem inR_true {rs : List (Int × Int)} {r : Int} {m : Nat} (hm : m < rs.length) (h1 : rlo rs m ≤ r) (h2 : r ≤ rhi rs m) : inR rs r = true := by
  have e : rs.getD m (0, 0) = rs[m] := by simp [List.getD, hm]
  unfold rlo at h1
  unfold rhi at h2
  rw [e] at h1 h2
  exact List.any_eq_true.2 ⟨rs[m], List.getElem_mem hm, by simp [h1, h2]⟩
theorem inR_false {rs : List (Int × Int)} {r : Int} (h : ∀ m, m < rs.length → rhi rs m < r ∨ r < rlo rs m) : inR rs r = false := by
  unfold inR
  rw [List.any_eq_false]
  intro g hg
  obtain ⟨m, hm, rfl⟩ := List.mem_iff_getElem.1 hg
  have e : rs.getD m (0, 0) = rs[m] := by simp [List.getD, hm]
  have := h m hm
  unfold rlo rhi at this
  rw [e] at this
  simp
  omega
/-- The number in a list's place. -/
def nth (l : List Int) (k : Nat) : Int := l.getD k 0
/-- Integers of a kind, a cell each, from an address on; nothing is asked where there are none. -/
def IntsAt (kd : IntKind) (w : World) (A : Option Addr) (l : List Int) : Prop :=
  0 < l.length → ∃ b off, A = some ⟨b, off, none⟩ ∧ b < w.heap.size ∧ ∀ k, k < l.length → w.cell? ⟨b, off + k, none⟩ = some (.int kd (nth l k))
theorem IntsAt.below {kd : IntKind} {w w' : World} {A : Option Addr} {l : List Int} (h : IntsAt kd w A l) (hb : Below w.heap.size w w') : IntsAt kd w' A l := by
  intro hl
  obtain ⟨b, off, rfl, h1, h2⟩ := h hl
  exact ⟨b, off, rfl, Nat.lt_of_lt_of_le h1 hb.size, fun k hk => ((old_cells hb).1 _ _ h1).trans (h2 k hk)⟩
/-- What is summed up of the first k. -/
def sumTo (f : Int → Int) (l : List Int) (k : Nat) : Int := ((l.take k).map f).sum
theorem sumTo_zero (f : Int → Int) (l : List Int) : sumTo f l 0 = 0 := by simp [sumTo]
theorem sumTo_succ (f : Int → Int) (l : List Int) {k : Nat} (h : k < l.length) : sumTo f l (k + 1) = sumTo f l k + f (nth l k) := by
  unfold sumTo nth
  rw [List.take_succ_eq_append_getElem h, List.map_append, List.sum_append]
  simp [List.getD, h]
theorem sumTo_all (f : Int → Int) (l : List Int) {k : Nat} (h : l.length ≤ k) : sumTo f l k = (l.map f).sum := by
  unfold sumTo
  rw [List.take_of_length_le h]
theorem sumTo_bd {f : Int → Int} (hf : ∀ r, 0 ≤ f r ∧ f r ≤ 2) (l : List Int) : ∀ k, k ≤ l.length → 0 ≤ sumTo f l k ∧ sumTo f l k ≤ 2 * k
  | 0, _ => by simp [sumTo_zero]
  | k + 1, h => by
    have := sumTo_bd hf l k (by omega)
    have := hf (nth l k)
    rw [sumTo_succ f l (by omega)]
    omega
/-- A block's cells, of some type. -/
def RawAt (t : TypeId) (w : World) (b : Nat) (cs : Array Value) : Prop := w.heap[b]? = some (.cells cs t (0, 0))
theorem RawAt.set_ {t : TypeId} {w : World} {b : Nat} {cs : Array Value} (h : RawAt t w b cs) (k : Nat) (v : Value) : RawAt t (w.setCell ⟨b, k, none⟩ v) b (cs.setIfInBounds k v) := by
  unfold RawAt at h ⊢
  simp [World.setCell, Array.getElem?_modify, h]
theorem RawAt.set_other {t : TypeId} {w : World} {b b' : Nat} {cs : Array Value} (h : RawAt t w b cs) (hne : b ≠ b') (k : Nat) (v : Value) : RawAt t (w.setCell ⟨b', k, none⟩ v) b cs := by
  unfold RawAt at h ⊢
  rw [Below.heap_setCell w ⟨b', k, none⟩ v b hne]
  exact h
theorem RawAt.drew_ {t : TypeId} {w : World} {b : Nat} {cs : Array Value} (h : RawAt t w b cs) : RawAt t w.drew b cs := h
theorem RawAt.lt {t : TypeId} {w : World} {b : Nat} {cs : Array Value} (h : RawAt t w b cs) : b < w.heap.size := block_lt h
theorem RawAt.below {t : TypeId} {w w' : World} {b B : Nat} {cs : Array Value} (h : RawAt t w b cs) (hb : Below B w w') (hB : b < B) : RawAt t w' b cs := (hb.block b hB).trans h
theorem RawAt.free {t : TypeId} {w : World} {b : Nat} {cs : Array Value} (h : RawAt t w b cs) (k : Nat) : w.frozen? ⟨b, k, none⟩ = false := by
  unfold RawAt at h
  simp [World.frozen?, h]
theorem RawAt.cell {t : TypeId} {w : World} {b : Nat} {cs : Array Value} (h : RawAt t w b cs) (k : Nat) : w.cell? ⟨b, k, none⟩ = cs[k]? := by
  unfold RawAt at h
  simp [World.cell?, h]
theorem RawAt.of_eq {t : TypeId} {w : World} {b : Nat} {cs cs' : Array Value} (h : RawAt t w b cs) (e : cs = cs') : RawAt t w b cs' := e ▸ h
theorem new2 (w : World) (t t' : TypeId) (cs cs' : Array Value) : RawAt t ((w.alloc (.cells cs t)).alloc (.cells cs' t')) w.heap.size cs ∧ RawAt t' ((w.alloc (.cells cs t)).alloc (.cells cs' t')) (w.heap.size + 1) cs' ∧ Below w.heap.size w ((w.alloc (.cells cs t)).alloc (.cells cs' t')) ∧ ((w.alloc (.cells cs t)).alloc (.cells cs' t')).heap.size = w.heap.size + 2 :=
  ⟨heap_alloc2_old w _ _, heap_alloc2_new w _ _, ((Below.refl _ _).alloc (Nat.le_refl _) _).alloc (by simp) _, by simp⟩
theorem gen_world {K : World → Prop} {W w : World} {B b : Nat} {t : TypeId} {cs : Array Value} (h1 : Below B w W) (h2 : RawAt t W b cs) (h : ∀ W1, Below B w W1 → RawAt t W1 b cs → K W1) : K W := h W h1 h2
theorem own_below {w w' : World} {base : Nat} {e : TypeId} {size : Nat} {v : Value} {n : Nat} {xs : List Value} (h : w.ownsRow base e size v n xs) (hb : Below w.heap.size w w') : w'.ownsRow base e size v n xs := by
  refine ⟨h.1, ?_⟩
  rcases h.2 with h2 | ⟨g, cap, cur, rfl, hB, c, h3⟩
  · exact .inl h2
  · exact .inr ⟨g, cap, cur, rfl, hB, (hb.block g (block_lt c)).trans c, h3⟩
/-- Where a slice that is cut begins. -/
def cutA (A : Option Addr) (c k : Nat) : Option Addr := if c = k then A else A.map (·.add k)
theorem IntsAt.cut {kd : IntKind} {w : World} {A : Option Addr} {l : List Int} {n c : Nat} (h : IntsAt kd w A l) (hl : l.length = n) (hn : n ≤ c) (k m : Nat) (hk : k + m ≤ n) : IntsAt kd w (cutA A c k) ((l.drop k).take m) := by
  intro hp
  have hlen : ((l.drop k).take m).length = m := by rw [List.length_take, List.length_drop]; omega
  obtain ⟨b, off, rfl, hb, hc⟩ := h (by omega)
  have hne : ¬ c = k := by omega
  refine ⟨b, off + k, by simp [cutA, hne, Addr.add], hb, fun j hj => ?_⟩
  rw [Nat.add_assoc, hc (k + j) (by omega)]
  have e : nth ((l.drop k).take m) j = nth l (k + j) := by
    unfold nth
    simp only [List.getD, List.getElem?_take, List.getElem?_drop]
    rw [if_pos (by omega)]
  rw [e]
theorem cut_both {P : Program} {t e : TypeId} (ht : P.underlying t = some (.slice e)) {i : TypeInfo} (hi : P.info? e = some i) (h1 : P.cellsOf e = 1) (A : Option Addr) (n c k m : Nat) (hk : k + m ≤ c) (w : World) :
    (Instr.slice t (.slice A n c) (some (.int .i64 k)) (some (.int .i64 ((k : Int) + (m : Int)))) none).run P w = .ok (.slice (cutA A c k) m (c - k)) w := by
  have he : P.elem t = e := by simp [Program.elem, ht]
  subst he
  rw [run_slice_lh _ _ _ _ _ ht _ _ _ _ (by omega) (by omega) (by omega), run_sizeOf _ hi, h1]
  simp [Result.andThen, sliced, cutA]
  omega
theorem cut_rest {P : Program} {t e : TypeId} (ht : P.underlying t = some (.slice e)) {i : TypeInfo} (hi : P.info? e = some i) (h1 : P.cellsOf e = 1) (A : Option Addr) (n c k : Nat) (hk : k ≤ n) (w : World) :
    (Instr.slice t (.slice A n c) (some (.int .i64 k)) none none).run P w = .ok (.slice (cutA A c k) (n - k) (c - k)) w := by
  have he : P.elem t = e := by simp [Program.elem, ht]
  subst he
  rw [run_slice_l _ _ _ _ _ ht _ _ (by omega) (by omega), run_sizeOf _ hi, h1]
  simp [Result.andThen, sliced, cutA]
end
section
open Go.RowKit
theorem i32_info : (Tryz.prog.info? 21).map (fun i => (i.zero, i.size, i.bytes)) = some (some (.int .i32 0), 1, 4) := by kernel_rfl
theorem IntsAt.news {kd : IntKind} {w : World} {a : Addr} {l : List Int} (h : IntsAt kd w (some a) l) : ∀ (j : Nat) (u : Value), (l.map (Value.int kd))[j]? = some u → w.cell? (a.add j) = some u := by
  intro j u hu
  have hj : j < l.length := by
    have := (List.getElem?_eq_some_iff.1 hu).1
    rwa [List.length_map] at this
  obtain ⟨b, off, e, _, hc⟩ := h (by omega)
  obtain rfl : a = ⟨b, off, none⟩ := by injection e
  rw [Go.WideShapes.add_plain, hc j hj, ← hu]
  simp [nth, List.getD, hj]
theorem wpList_append_ints {w : World} {ops : Array Oper} {rest : List Oper} {o : Oper} {a : Act} {Q : Exit → Act → World → Prop} (hgd : o.guard = none) (s x : Operand)
    (ho : o.op = .call { callee := .builtin .append, args := #[s, x], argTypes := #[30, 30] })
    (base : Nat) (v : Value) (n : Nat) (xs : List Value) (hs : a.eval s = v) (hown : w.ownsRow base 21 1 v n xs)
    (A : Option Addr) (m c : Nat) (l : List Int) (hx : a.eval x = .slice A m c) (hA : IntsAt .i32 w A l) (hcap : Caps A m c) (hl : l.length = m) (hsz : n + m ≤ 1000000000) (hbase : base ≤ w.heap.size)
    (h : ∀ v' w', w'.ownsRow base 21 1 v' (n + m) (xs ++ l.map (.int .i32)) → w.grownBy w' v.ownBlock → wpList Tryz.prog ops Q rest (a.put o.dst v') w') : wpList Tryz.prog ops Q (o :: rest) a w := by
  obtain ⟨i0, hi0, hz0, hz1, hz2⟩ := info_parts i32_info
  rcases A with _ | ad
  · obtain rfl := hcap.2 rfl
    have hm : m = 0 := by have := hcap.1; omega
    subst hm
    have hl0 : l = [] := List.eq_nil_of_length_eq_zero hl
    subst hl0
    exact wpList_append_own_none hgd s x _ ho base 21 i0 1 Tryz.underlying30 hi0 v n xs hs hown hx (h v w (by simpa using hown) (World.grownBy.refl w _))
  · exact wpList_append_own w hgd s x _ ho base 21 i0 (.int .i32 0) 1 4 Tryz.underlying30 hi0 hz0 hz1 hz2 rfl (by omega) v n xs hs hown ad m c (l.map (.int .i32)) hx (by rw [List.length_map]; omega) hA.news
      (fun u hu => by obtain ⟨z, _, rfl⟩ := List.mem_map.1 hu; rfl) (by simp only [maxLen]; omega) (by omega) hbase (fun v' w' h1 h2 _ => h v' w' h1 h2)
end
section
open Go.RowKit
/-- Has a number a right encoding? -/
def hasR (r : Int) : Bool := decide (0 ≤ r ∧ r ≤ 1114111 ∧ (r < 55296 ∨ 57343 < r))
/-- The number itself, or the one for what has none. -/
def cleanR (r : Int) : Int := if hasR r then r else 65533
/-- The encodings of runes, one behind the other. -/
def encAll (l : List Int) : List UInt8 := l.flatMap Lib.encodeRune
theorem encAll_snoc {l : List Int} {j : Nat} (h : j < l.length) : encAll (l.take (j + 1)) = encAll (l.take j) ++ Lib.encodeRune (nth l j) := by
  unfold encAll
  rw [List.take_succ_eq_append_getElem h, List.flatMap_append]
  have e : nth l j = l[j] := by simp [nth, List.getD, h]
  rw [e]
  simp
theorem encAll_len (l : List Int) : (encAll l).length ≤ 4 * l.length := by
  induction l with
  | nil => simp [encAll]
  | cons r l ih =>
    simp only [encAll, List.flatMap_cons, List.length_append, List.length_cons] at ih ⊢
    have := (Lib.encodeRuneZ_length r).2
    have e : (Lib.encodeRune r).length = (Lib.encodeRuneZ r).length := by simp [Lib.encodeRune]
    omega
/-- Numbers that fit in a rune. -/
def Fit (l : List Int) : Prop := ∀ x ∈ l, (Lit.int .i32 x).wf = true
theorem Fit.nth_ {l : List Int} (h : Fit l) {j : Nat} (hj : j < l.length) : -2147483648 ≤ nth l j ∧ nth l j ≤ 2147483647 := by
  have e : nth l j = l[j] := by simp [nth, List.getD, hj]
  rw [e]
  exact bounds_i32 (h _ (List.getElem_mem hj))
/-- How many bytes a rune has. -/
def uSize (r : Int) : Int := ((Lib.encodeRuneZ r).length : Int)
theorem uSize_len (r : Int) : 0 < Lib.runeLen r → uSize r = Lib.runeLen r := by
  unfold uSize Lib.runeLen Lib.encodeRuneZ
  repeat' split
  all_goals first
    | (intro h; omega)
    | (intro h; simp; done)
    | (intro h; exfalso; omega)
theorem uSize_bad (r : Int) : ¬ 0 < Lib.runeLen r → uSize r = 3 := by
  unfold uSize Lib.runeLen Lib.encodeRuneZ
  repeat' split
  all_goals first
    | (intro h; simp; done)
    | (intro h; exfalso; omega)
theorem uSize_bd (r : Int) : 1 ≤ uSize r ∧ uSize r ≤ 4 := by
  have := Lib.encodeRuneZ_length r
  unfold uSize
  omega
theorem enc_sum (l : List Int) : ((encAll l).length : Int) = (l.map uSize).sum := by
  induction l with
  | nil => rfl
  | cons r l ih =>
    have e : (Lib.encodeRune r).length = (Lib.encodeRuneZ r).length := by simp [Lib.encodeRune]
    simp only [encAll, List.flatMap_cons, List.length_append, List.map_cons, List.sum_cons] at ih ⊢
    rw [← ih]
    unfold uSize
    omega
theorem usum_bd (l : List Int) : ∀ k, k ≤ l.length → 0 ≤ sumTo uSize l k ∧ sumTo uSize l k ≤ 4 * k
  | 0, _ => by simp [sumTo_zero]
  | k + 1, h => by
    have := usum_bd l k (by omega)
    have := uSize_bd (nth l k)
    rw [sumTo_succ _ l (by omega)]
    omega
end
section
open Go.RowKit
/-- The runes of a text from a place on, in so many steps at most. -/
def decF (s : ByteArray) : Nat → Nat → List Int
  | 0, _ => []
  | f + 1, p => if p < s.size then ((Utf8.decode s p).1 : Int) :: decF s f (p + (Utf8.decode s p).2) else []
/-- All runes of a text. -/
def dec (s : ByteArray) : List Int := decF s s.size 0
theorem decF_end {s : ByteArray} {f p : Nat} (h : ¬ p < s.size) : decF s f p = [] := by
  cases f with
  | zero => rfl
  | succ f => simp [decF, h]
theorem decF_step {s : ByteArray} {f p : Nat} (h : p < s.size) : decF s (f + 1) p = ((Utf8.decode s p).1 : Int) :: decF s f (p + (Utf8.decode s p).2) := by simp [decF, h]
theorem width_ge (s : ByteArray) (p : Nat) : 1 ≤ (Utf8.decode s p).2 := by
  unfold Utf8.decode
  simp only
  repeat' split
  all_goals simp
theorem decF_len (s : ByteArray) : ∀ f p, (decF s f p).length ≤ f
  | 0, _ => by simp [decF]
  | f + 1, p => by
    unfold decF
    split
    · have := decF_len s f (p + (Utf8.decode s p).2)
      simp; omega
    · simp
theorem dec_len (s : ByteArray) : (dec s).length ≤ s.size := decF_len s _ _
theorem block_lt' {w : World} {g : Nat} {o : Obj} (h : w.heap[g]? = some o) : g < w.heap.size := block_lt h
set_option maxHeartbeats 400000 in
theorem count_any (s : ByteArray) (w : World) (hs : s.size ≤ 1000000000) :
    Calls Tryz.prog 67 #[.string s] w fun e w' => e = .returned (.int .i64 ((dec s).length : Int)) ∧ Below w.heap.size w w' := by
  have hlen := dec_len s
  obtain ⟨D, hD⟩ : ∃ D, D = dec s := ⟨_, rfl⟩
  rw [← hD] at hlen ⊢
  have HD := Lib.hid hD; clear hD
  go_enter Tryz.func67, Tryz.ntmps67
  go_wp2
  go_loopg [3] (s.size + 1) (fun k v wr => ∃ (pos f n : Nat), v = .int .i64 n ∧ wr.heap[w.heap.size]? = some (.stringIter s pos) ∧ Below w.heap.size w wr ∧ s.size ≤ pos + f ∧ f < k ∧ D.length = n + (decF s f pos).length)
  case atStart => exact ⟨0, s.size, 0, rfl, World.iter_heap w s 0, (Below.refl _ _).alloc (Nat.le_refl _) _, by omega, by omega, by rw [HD.out]; simp [dec]⟩
  case round =>
    obtain ⟨pos, f, n, rfl, hit, hb, h1, h2, h3⟩ := hrel
    by_cases hp : pos < s.size
    · have hnx : ∀ ty, (Instr.next (.pointer (some ⟨w.heap.size, 0, none⟩)) true ty).run Tryz.prog wr = _ := fun ty => Lib.run_next_any_at wr w.heap.size s pos ty hit hp
      have hwd := width_ge s pos
      obtain ⟨f, rfl⟩ : ∃ f', f = f' + 1 := ⟨f - 1, by omega⟩
      rw [decF_step hp] at h3
      simp only [List.length_cons] at h3
      have H3 := Lib.hid h3; clear h3
      have hn : (n : Int) ≤ 1000000000 := by have := H3.out; omega
      have hit2 := Lib.iterAt_heap wr w.heap.size s pos (pos + (Utf8.decode s pos).2) hit
      have hb2 := Lib.below_iterAt hb (k := w.heap.size) (Nat.le_refl _) s (pos + (Utf8.decode s pos).2)
      obtain ⟨W1, hW1⟩ : ∃ W1, W1 = wr.iterAt w.heap.size s (pos + (Utf8.decode s pos).2) := ⟨_, rfl⟩
      rw [← hW1] at hnx hit2 hb2
      clear hW1 hit hb
      go_wp2
      go_roundg (gk - 1)
      case measure => omega
      case rel => exact ⟨_, f, n + 1, by go_num, hit2, hb2, by omega, by omega, by rw [H3.out]; omega⟩
    · have hnx : ∀ ty, (Instr.next (.pointer (some ⟨w.heap.size, 0, none⟩)) true ty).run Tryz.prog wr = _ := fun ty => Lib.run_next_end_at wr w.heap.size s pos ty hit hp
      rw [decF_end hp] at h3
      have H3 := Lib.hid h3; clear h3
      go_wp2
      go_ret
      exact ⟨ret_int (by have := H3.out; simp at this; omega), hb⟩
end
section
open Go.RowKit
theorem IntsAt.of_own {w : World} {base n : Nat} {e : TypeId} {kd : IntKind} {v : Value} {l : List Int} (h : w.ownsRow base e 1 v n (l.map (.int kd))) : ∃ A c, v = .slice A n c ∧ IntsAt kd w A l ∧ l.length = n ∧ Caps A n c := by
  have hl : l.length = n := by have := h.1; rw [List.length_map] at this; omega
  rcases h.2 with ⟨rfl, rfl⟩ | ⟨g, cap, cur, rfl, hbg, hh, hnc, _, hsz, htake⟩
  · exact ⟨none, 0, rfl, fun hp => by omega, hl, Nat.le_refl _, fun _ => rfl⟩
  · refine ⟨_, cap, rfl, fun _ => ⟨g, 0, rfl, block_lt hh, fun k hk => ?_⟩, hl, hnc, fun h => by cases h⟩
    rw [cell_of_row w g _ cur e (0, 0) hh, ← Array.getElem?_toList, Nat.zero_add]
    have h2 : (l.map (Value.int kd))[k]? = some (.int kd (nth l k)) := by simp [nth, List.getD, hk]
    rw [← htake, List.getElem?_take, if_pos (by omega)] at h2
    exact h2
theorem own_iter {w : World} {base : Nat} {e : TypeId} {size : Nat} {v : Value} {n : Nat} {xs : List Value} (h : w.ownsRow base e size v n xs) {k : Nat} {s : ByteArray} {p : Nat} (hit : w.heap[k]? = some (.stringIter s p)) (p' : Nat) :
    (w.iterAt k s p').ownsRow base e size v n xs := by
  obtain ⟨h1, h2⟩ := h
  refine ⟨h1, ?_⟩
  rcases h2 with h2 | ⟨g, cap, cur, a, b, c, d⟩
  · exact .inl h2
  · have hne : g ≠ k := by
      rintro rfl
      rw [hit] at c
      cases c
    exact .inr ⟨g, cap, cur, a, b, by rw [Lib.iterAt_other _ _ _ _ _ (by omega)]; exact c, d⟩
theorem own_not_iter {w : World} {base : Nat} {e : TypeId} {size : Nat} {v : Value} {n : Nat} {xs : List Value} (h : w.ownsRow base e size v n xs) {k : Nat} {s : ByteArray} {p : Nat} (hit : w.heap[k]? = some (.stringIter s p)) : some k ≠ v.ownBlock := by
  rcases h.2 with ⟨rfl, _⟩ | ⟨g, cap, cur, rfl, _, c, _⟩
  · simp [Value.ownBlock]
  · intro e
    simp [Value.ownBlock] at e
    subst e
    rw [hit] at c
    cases c
theorem one_new (w : World) (a : Value) (t : TypeId) : ∀ (j : Nat) (u : Value), [a][j]? = some u → (w.alloc (.cells #[a] t)).cell? ((⟨w.heap.size, 0, none⟩ : Addr).add j) = some u := by
  intro j u hu
  rw [Go.WideShapes.add_plain, cell_of_row _ _ _ _ t _ (heap_alloc_new w _), Nat.zero_add, ← Array.getElem?_toList]
  exact hu
set_option maxHeartbeats 1000000 in
theorem decode_any (s : ByteArray) (w : World) (hs : s.size ≤ 1000000000) :
    Calls Tryz.prog 75 #[.string s] w fun e w' => ∃ A c, e = .returned (.slice A (dec s).length c) ∧ Below w.heap.size w w' ∧ IntsAt .i32 w' A (dec s) ∧ Caps A (dec s).length c := by
  obtain ⟨i0, hi0, hz0, hz1, hz2⟩ := info_parts i32_info
  have hlen := dec_len s
  have hct := fun W => count_any s W hs
  obtain ⟨D, hD⟩ : ∃ D, D = dec s := ⟨_, rfl⟩
  rw [← hD] at hlen ⊢
  simp only [← hD] at hct
  have HC := Lib.hid hct; clear hct
  have HD := Lib.hid hD; clear hD
  obtain ⟨N, hN⟩ : ∃ N, N = D.length := ⟨_, rfl⟩
  rw [← hN] at hlen ⊢
  simp only [← hN] at HC
  have HN := Lib.hid hN; clear hN
  go_enter Tryz.func75, Tryz.ntmps75
  go_wp2_with fail
  refine (HC.out _).mono ?_
  rintro e w1 ⟨rfl, hb1⟩
  go_wp2_with (at_make; refine wpList_make_own _ rfl _ _ 30 rfl w.heap.size 21 i0 (.int .i32 0) 1 Tryz.underlying30 hi0 hz0 hz1 .i64 .i64 _ N rfl rfl (by omega) (by rw [hz2]; omega) (by unfold maxLen; omega) hb1.size ?_; intro w2 hown2 hgrow2)
  have hb2 : Below w.heap.size w w2 := hb1.grown hgrow2 hb1.size (fun k hk => by cases hk)
  clear hb1
  go_loopg [3] (s.size + 1) (fun k v wr => ∃ (pos f : Nat) (acc : List Int), wr.ownsRow w.heap.size 21 1 v acc.length (acc.map (.int .i32)) ∧ wr.heap[w2.heap.size]? = some (.stringIter s pos) ∧ Below w.heap.size w wr ∧ s.size ≤ pos + f ∧ f < k ∧ Hid (D = acc ++ decF s f pos) ∧ acc.length + (decF s f pos).length ≤ s.size)
  case atStart => exact ⟨0, s.size, [], hown2.alloc _, World.iter_heap w2 s 0, hb2.alloc hb2.size _, by omega, by omega, HD.out, by have := dec_len s; unfold dec at this; simpa using this⟩
  case round =>
    obtain ⟨pos, f, acc, hown, hit, hb, h1, h2, h3, h4⟩ := hrel
    have hw2 := hb2.size
    by_cases hp : pos < s.size
    · have hnx : ∀ ty, (Instr.next (.pointer (some ⟨w2.heap.size, 0, none⟩)) true ty).run Tryz.prog wr = _ := fun ty => Lib.run_next_any_at wr w2.heap.size s pos ty hit hp
      have hwd := width_ge s pos
      obtain ⟨f, rfl⟩ : ∃ f', f = f' + 1 := ⟨f - 1, by omega⟩
      rw [decF_step hp] at h3 h4
      simp only [List.length_cons] at h4
      have hit2 := Lib.iterAt_heap wr w2.heap.size s pos (pos + (Utf8.decode s pos).2) hit
      have hb3 := Lib.below_iterAt hb (k := w2.heap.size) hw2 s (pos + (Utf8.decode s pos).2)
      have hown3 := own_iter hown hit (pos + (Utf8.decode s pos).2)
      obtain ⟨W1, hW1⟩ : ∃ W1, W1 = wr.iterAt w2.heap.size s (pos + (Utf8.decode s pos).2) := ⟨_, rfl⟩
      rw [← hW1] at hnx hit2 hb3 hown3
      have hne := own_not_iter hown3 hit2
      have hltt := block_lt hit2
      clear hW1 hit hb hown
      go_wp2_with (at_builtin; refine wpList_append_own _ rfl (.tmp 14) (.tmp 16) _ rfl w.heap.size 21 i0 (.int .i32 0) 1 4 Tryz.underlying30 hi0 hz0 hz1 hz2 rfl (by omega) _ acc.length (acc.map (.int .i32)) rfl (hown3.alloc _) ⟨W1.heap.size, 0, none⟩ 1 1 [.int .i32 ((Utf8.decode s pos).1 : Int)] rfl rfl (one_new _ _ _) (fun u hu => by simp at hu; subst hu; rfl) (by simp only [maxLen]; omega) (by omega) (by have := hb3.size; simp; omega) ?_; intro v4 w4 hown4 hg4 hnil4; clear hnil4)
      have hit4 : w4.heap[w2.heap.size]? = some (.stringIter s (pos + (Utf8.decode s pos).2)) := by
        rw [hg4.block w2.heap.size (by simp; omega) hne, Below.heap_alloc _ _ _ hltt]
        exact hit2
      have hb4 : Below w.heap.size w w4 := (hb3.alloc hb3.size _).grown hg4 (by have := hb3.size; simp; omega) (fun k hk => (hown3.lt k hk).1)
      go_roundg (gk - 1)
      case measure => omega
      case rel => exact ⟨_, f, acc ++ [((Utf8.decode s pos).1 : Int)], by simpa using hown4, hit4, hb4, by omega, by omega, by show D = _; rw [List.append_assoc]; exact h3, by simp; omega⟩
    · have hnx : ∀ ty, (Instr.next (.pointer (some ⟨w2.heap.size, 0, none⟩)) true ty).run Tryz.prog wr = _ := fun ty => Lib.run_next_end_at wr w2.heap.size s pos ty hit hp
      rw [decF_end hp, List.append_nil] at h3
      go_wp2
      go_ret
      obtain ⟨A, c, e, hI, hl, hcap⟩ := IntsAt.of_own hown
      have hD' : D = acc := h3
      rw [HN.out, hD']
      exact ⟨A, c, by rw [← e]; rfl, hb, hI, hcap⟩
end
section
open Go.Lib
theorem toByteN (z : Int) (_ : 0 ≤ z) (h : z < 256) : (z.toNat.toUInt8).toNat = z.toNat := by
  simp
  omega
theorem decode_encode (r : Int) (t : List UInt8) : decodeL (encodeRune r ++ t) = ((cleanR r).toNat, (encodeRune r).length) := by
  rw [decodeL_N]
  have hb := encodeRuneZ_byte r
  unfold encodeRune cleanR hasR
  by_cases a : 0 ≤ r ∧ r ≤ 127
  · rw [encodeRuneZ_one a.1 a.2]
    have e := toByteN r (by omega) (by omega)
    rw [decide_eq_true (by omega)]
    simp only [List.map_cons, List.map_nil, List.cons_append, List.nil_append, List.getD_cons_zero, e, if_true, List.length_cons, List.length_nil]
    unfold decodeN
    rw [if_pos (by omega)]
  · by_cases b : 128 ≤ r ∧ r ≤ 2047
    · rw [encodeRuneZ_two b.1 b.2]
      have e0 := toByteN (192 + r / 64) (by omega) (by omega)
      have e1 := toByteN (128 + r % 64) (by omega) (by omega)
      rw [decide_eq_true (by omega)]
      simp only [List.map_cons, List.map_nil, List.cons_append, List.nil_append, List.getD_cons_zero, List.getD_cons_succ, e0, e1, if_true, List.length_cons, List.length_nil]
      unfold decodeN
      rw [if_neg (by omega), if_pos (by omega), if_pos (by omega)]
      exact Prod.ext (by simp only; omega) rfl
    · by_cases c : (2048 ≤ r ∧ r < 55296) ∨ (57343 < r ∧ r ≤ 65535)
      · rw [encodeRuneZ_three c]
        have e0 := toByteN (224 + r / 4096) (by omega) (by omega)
        have e1 := toByteN (128 + r / 64 % 64) (by omega) (by omega)
        have e2 := toByteN (128 + r % 64) (by omega) (by omega)
        rw [decide_eq_true (by omega)]
        simp only [List.map_cons, List.map_nil, List.cons_append, List.nil_append, List.getD_cons_zero, List.getD_cons_succ, e0, e1, e2, if_true, List.length_cons, List.length_nil]
        unfold decodeN
        rw [if_neg (by omega), if_neg (by omega), if_pos (by omega), if_pos (by omega)]
        exact Prod.ext (by simp only; omega) rfl
      · by_cases d : 65536 ≤ r ∧ r ≤ 1114111
        · rw [encodeRuneZ_four d.1 d.2]
          have e0 := toByteN (240 + r / 262144) (by omega) (by omega)
          have e1 := toByteN (128 + r / 4096 % 64) (by omega) (by omega)
          have e2 := toByteN (128 + r / 64 % 64) (by omega) (by omega)
          have e3 := toByteN (128 + r % 64) (by omega) (by omega)
          rw [decide_eq_true (by omega)]
          simp only [List.map_cons, List.map_nil, List.cons_append, List.nil_append, List.getD_cons_zero, List.getD_cons_succ, e0, e1, e2, e3, if_true, List.length_cons, List.length_nil]
          unfold decodeN
          rw [if_neg (by omega), if_neg (by omega), if_neg (by omega), if_pos (by omega), if_pos (by omega)]
          exact Prod.ext (by simp only; omega) rfl
        · rw [encodeRuneZ_bad (by omega), decide_eq_false (by omega)]
          simp [decodeN]
/-- Runes of bytes, step by step. -/
def decGo : Nat → List UInt8 → List Int
  | 0, _ => []
  | f + 1, l => if l = [] then [] else ((decodeL l).1 : Int) :: decGo f (l.drop (decodeL l).2)
def decD (l : List UInt8) : List Int := decGo l.length l
theorem decGo_more : ∀ (f g : Nat) (l : List UInt8), l.length ≤ f → l.length ≤ g → decGo f l = decGo g l
  | 0, g, l, h, _ => by
    obtain rfl : l = [] := List.eq_nil_of_length_eq_zero (by omega)
    cases g <;> simp [decGo]
  | f + 1, 0, l, _, h => by
    obtain rfl : l = [] := List.eq_nil_of_length_eq_zero (by omega)
    simp [decGo]
  | f + 1, g + 1, l, h1, h2 => by
    unfold decGo
    split
    · rfl
    · have hw := decodeL_width l
      rw [decGo_more f g (l.drop (decodeL l).2) (by rw [List.length_drop]; omega) (by rw [List.length_drop]; omega)]
theorem decD_step {l : List UInt8} (h : l ≠ []) : decD l = ((decodeL l).1 : Int) :: decD (l.drop (decodeL l).2) := by
  have hp : 0 < l.length := List.length_pos_iff.2 h
  obtain ⟨n, hn⟩ : ∃ n, l.length = n + 1 := ⟨l.length - 1, by omega⟩
  have hw := decodeL_width l
  unfold decD
  rw [hn]
  simp only [decGo, if_neg h]
  rw [decGo_more n (l.drop (decodeL l).2).length _ (by rw [List.length_drop]; omega) (Nat.le_refl _)]
theorem decF_list (s : ByteArray) : ∀ f p, decF s f p = decGo f (s.data.toList.drop p)
  | 0, _ => rfl
  | f + 1, p => by
    have hl : s.data.toList.length = s.size := Array.length_toList
    unfold decF decGo
    by_cases h : p < s.size
    · rw [if_pos h, if_neg (fun e => by have := congrArg List.length e; rw [List.length_drop] at this; simp at this; omega), decodeL_drop, decF_list s f, List.drop_drop]
    · rw [if_neg h, if_pos (List.drop_eq_nil_of_le (by omega))]
theorem dec_list (s : ByteArray) : dec s = decD s.data.toList := by
  have hl : s.data.toList.length = s.size := Array.length_toList
  unfold dec decD
  rw [decF_list, hl]
  rfl
theorem encodeRune_ne (r : Int) : encodeRune r ≠ [] := by
  intro e
  have h1 := (encodeRuneZ_length r).1
  have h2 := congrArg List.length e
  unfold encodeRune at h2
  rw [List.length_map] at h2
  rw [h2] at h1
  simp at h1
theorem cleanR_ge (r : Int) : 0 ≤ cleanR r := by
  unfold cleanR hasR
  split
  · rename_i h; have := of_decide_eq_true h; omega
  · omega
theorem decD_enc (r : Int) (t : List UInt8) : decD (encodeRune r ++ t) = cleanR r :: decD t := by
  rw [decD_step (by simp [encodeRune_ne]), decode_encode]
  have := cleanR_ge r
  simp only [List.drop_left, List.cons.injEq, and_true]
  omega
theorem decD_encAll (l : List Int) : decD (encAll l) = l.map cleanR := by
  induction l with
  | nil => rfl
  | cons r l ih => simp only [encAll, List.flatMap_cons, List.map_cons] at ih ⊢; rw [decD_enc, ih]
theorem enc_bad3 {r : Int} (h : cleanR r = 65533) : (encodeRune r).length = 3 := by
  unfold cleanR hasR at h
  unfold encodeRune
  split at h
  · subst h; simp [encodeRuneZ]
  · rename_i h'
    rw [encodeRuneZ_bad (by simp at h'; omega)]
    rfl
theorem valid_enc (r : Int) (t : List UInt8) : validD (encodeRune r ++ t) = validD t := by
  rw [validD_step _ (by simp [encodeRune_ne]), decode_encode]
  have := cleanR_ge r
  rw [if_neg (fun ⟨h1, h2⟩ => by have := enc_bad3 (r := r) (by simp only at h1; omega); simp only at h2; omega)]
  simp
theorem valid_encAll (l : List Int) : validD (encAll l) = true := by
  induction l with
  | nil => rfl
  | cons r l ih => simp only [encAll, List.flatMap_cons] at ih ⊢; rw [valid_enc, ih]
/-- A right text begins with a rune's encoding. -/
theorem valid_head {l : List UInt8} (h : validD l = true) (hne : l ≠ []) : l = encodeRune ((decodeL l).1 : Int) ++ l.drop (decodeL l).2 ∧ validD (l.drop (decodeL l).2) = true := by
  rw [validD_step _ hne] at h
  split at h
  · cases h
  · rename_i hv
    exact ⟨by rw [encode_decode l hne hv, List.take_append_drop], h⟩
theorem drop_shorter {l : List UInt8} (hne : l ≠ []) : (l.drop (decodeL l).2).length < l.length := by
  have hw := decodeL_width l
  have hp : 0 < l.length := List.length_pos_iff.2 hne
  rw [List.length_drop]
  omega
theorem encAll_dec : ∀ (n : Nat) (l : List UInt8), l.length ≤ n → validD l = true → encAll (decD l) = l
  | 0, l, h, _ => by
    obtain rfl : l = [] := List.eq_nil_of_length_eq_zero (by omega)
    rfl
  | n + 1, l, h, hv => by
    by_cases hne : l = []
    · subst hne; rfl
    · obtain ⟨e, hv'⟩ := valid_head hv hne
      have hs := drop_shorter hne
      have ih := encAll_dec n (l.drop (decodeL l).2) (by omega) hv'
      rw [decD_step hne]
      simp only [encAll, List.flatMap_cons] at ih ⊢
      rw [ih]
      exact e.symm
theorem decD_append : ∀ (n : Nat) (s t : List UInt8), s.length ≤ n → validD s = true → decD (s ++ t) = decD s ++ decD t
  | 0, s, t, h, _ => by
    obtain rfl : s = [] := List.eq_nil_of_length_eq_zero (by omega)
    simp [decD, decGo]
  | n + 1, s, t, h, hv => by
    by_cases hne : s = []
    · subst hne; simp [decD, decGo]
    · obtain ⟨e, hv'⟩ := valid_head hv hne
      have hs := drop_shorter hne
      have ih := decD_append n (s.drop (decodeL s).2) t (by omega) hv'
      generalize hr : ((decodeL s).1 : Int) = r at e
      generalize hd : s.drop (decodeL s).2 = u at *
      rw [e, List.append_assoc, decD_enc, decD_enc, ih]
      rfl
theorem decoded_has (l : List UInt8) : cleanR ((decodeL l).1 : Int) = ((decodeL l).1 : Int) := by
  rw [decodeL_N]
  have k0 := (l.getD 0 0).toNat_lt
  have k1 := (l.getD 1 0).toNat_lt
  have k2 := (l.getD 2 0).toNat_lt
  have k3 := (l.getD 3 0).toNat_lt
  unfold cleanR hasR
  rcases decodeN_shape l.length (l.getD 0 0).toNat (l.getD 1 0).toNat (l.getD 2 0).toNat (l.getD 3 0).toNat with ⟨c, e⟩ | ⟨c1, c2, c3, cv, e⟩ | ⟨c1, c2, c3, c4, cv, cs, e⟩ | ⟨c1, c2, c3, c4, c5, cv, cw, e⟩ | e
  all_goals rw [e]
  all_goals first
    | rfl
    | (rw [decide_eq_true (by simp only; omega)]; rfl)
theorem decoded_clean : ∀ (f : Nat) (l : List UInt8), (decGo f l).map cleanR = decGo f l
  | 0, _ => rfl
  | f + 1, l => by
    unfold decGo
    split
    · rfl
    · rw [List.map_cons, decoded_has, decoded_clean f]
end
end Go.Proofs.YtpnjokhhbjpciaaGreatDoor
