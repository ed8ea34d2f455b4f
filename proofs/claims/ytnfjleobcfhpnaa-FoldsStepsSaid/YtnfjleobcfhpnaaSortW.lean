/- The world behind a sort: the row holds what was sorted; all else is as it was. -/
import Derived.Test.YtnfjleobcfhpnaaKRow
import Derived.Test.YtnfjleobcfhpnaaSrt
import Derived.Test.YtnfjleobcfhpnaaOnB
import Derived.Shelf.SlSortCmp.WholeK
namespace Go.Proofs.Ytnfjleobcfhpnaa
open Go.RowKit Go.Sort
section
variable {α : Type} [Inhabited α] {enc : α → List Value} {k : Nat}
theorem holdsK_of_own (hk : ∀ x, (enc x).length = k) {B : Nat} {w : World} {e : TypeId} {g n cap : Nat} {l : List α} (h : w.ownsRow B e k (.slice (some ⟨g, 0, none⟩) n cap) n (kfl enc l)) (hl : l.length = n) : HoldsK enc k w g 0 l.toArray := by
  intro j hj
  rw [size_flatK] at hj
  have hj' : j < l.length * k := by simpa using hj
  have hk0 : 0 < k := by
    rcases Nat.eq_zero_or_pos k with h0 | h0
    · rw [h0, Nat.mul_zero] at hj'; omega
    · exact h0
  have hq : j / k < l.length := (Nat.div_lt_iff_lt_mul hk0).2 hj'
  have hm : j % k < k := Nat.mod_lt _ hk0
  have e3 : j / k * k + j % k = j := Nat.div_add_mod' j k
  have e2 := kfl_at hk l (j / k) hq (j % k) hm
  rw [e3] at e2
  rw [get_flatK enc k l.toArray j hj]
  have hel : (l.toArray[j / k]!) = l[j / k] := by rw [getElem!_pos l.toArray (j / k) (by simpa using hq)]; simp
  have hlc : j % k < (enc l[j / k]).length := by rw [hk]; exact hm
  rw [hel, getElem!_pos (enc l[j / k]) (j % k) hlc]
  rw [List.getElem?_eq_getElem hlc] at e2
  rcases h.2 with ⟨h2, _⟩ | ⟨g', cap', cur, hv, hB, c, h3, h4, h5, h6⟩
  · cases h2
  · injection hv with hv1 hv2 hv3
    injection hv1 with hv1
    injection hv1 with hv1
    subst hv1
    refine ⟨?_, RawAt.free (t := e) c _⟩
    rw [Nat.zero_add, RawAt.cell (t := e) c, ← Array.getElem?_toList]
    rw [← h6, List.getElem?_take, if_pos (by rw [← hl]; exact hj')] at e2
    exact e2
theorem own_sort (hk : ∀ x, (enc x).length = k) (hp : 0 < k) {B : Nat} {w : World} {e : TypeId} {g n cap : Nat} {l : List α} {d : Array α} (h : w.ownsRow B e k (.slice (some ⟨g, 0, none⟩) n cap) n (kfl enc l)) (hl : l.length = n) (hs : d.size = n) (m : Nat) (os : Array Obj) :
    (Go.Proofs.sortWorldK enc k w g 0 m d os).ownsRow B e k (.slice (some ⟨g, 0, none⟩) n cap) n (kfl enc d.toList) ∧ OnB g w (Go.Proofs.sortWorldK enc k w g 0 m d os) := by
  have hH := holdsK_of_own hk h hl
  have hlt : g < w.heap.size := by
    rcases h.2 with ⟨h2, _⟩ | ⟨g', cap', cur, hv, hB, c, h3, h4, h5, h6⟩
    · cases h2
    · injection hv with hv1 hv2 hv3
      injection hv1 with hv1
      injection hv1 with hv1
      subst hv1
      exact block_lt c
  have hH' := Go.Proofs.holdsK_sortWorldK_c enc k w g 0 l.toArray d m os hH hlt (by rw [hs]; simpa using hl.symm)
  have hheap : ∀ b, b < w.heap.size → b ≠ g → (Go.Proofs.sortWorldK enc k w g 0 m d os).heap[b]? = w.heap[b]? := fun b hb hne => by
    unfold Go.Proofs.sortWorldK putRowK putRow mapBlock
    rw [heap_grow_old _ _ (by simpa [ahead] using hb)]
    simp [Array.getElem?_modify, Ne.symm hne]
  refine ⟨⟨by rw [kfl_length hk]; simp [hs], ?_⟩, ⟨⟨rfl, rfl, rfl, Go.Proofs.size_sortWorldK_c enc k w g 0 m d os, fun b hb => hheap b (Nat.lt_trans hb hlt) (by omega)⟩, fun b hb hne => hheap b hb hne⟩⟩
  rcases h.2 with ⟨h2, _⟩ | ⟨g', cap', cur, hv, hB, c, h3, h4, h5, h6⟩
  · cases h2
  · injection hv with hv1 hv2 hv3
    injection hv1 with hv1
    injection hv1 with hv1
    subst hv1
    subst hv3
    have hg : (Go.Proofs.sortWorldK enc k w g 0 m d os).heap[g]? = some (.cells (putCells id 0 (flatK enc k d) cur) e (0, 0)) := by
      unfold Go.Proofs.sortWorldK putRowK putRow mapBlock
      rw [heap_grow_old _ _ (by simpa [ahead] using hlt)]
      simp [Array.getElem?_modify, c, onCells]
    have hsz : (putCells id 0 (flatK enc k d) cur).size = cur.size := by simp [putCells]
    refine .inr ⟨g, cap, _, rfl, hB, hg, h3, h4, by rw [hsz]; exact h5, ?_⟩
    have hle : n * k ≤ (putCells id 0 (flatK enc k d) cur).toList.length := by
      rw [Array.length_toList, hsz, h5]
      exact Nat.mul_le_mul_right _ h3
    refine List.ext_getElem? fun j => ?_
    rw [List.getElem?_take]
    split
    · rename_i hj
      have hq : j / k < n := (Nat.div_lt_iff_lt_mul hp).2 hj
      have hm : j % k < k := Nat.mod_lt _ hp
      have e3 : j / k * k + j % k = j := Nat.div_add_mod' j k
      have e1 := (hH'.cell (i := j / k) (c := j % k) (by omega) hm).1
      rw [Nat.zero_add, e3, RawAt.cell (t := e) hg, ← Array.getElem?_toList] at e1
      have hqd : j / k < d.toList.length := by simpa [hs] using hq
      have e2 := kfl_at hk d.toList (j / k) hqd (j % k) hm
      rw [e3] at e2
      have hlc : j % k < (enc d.toList[j / k]).length := by rw [hk]; exact hm
      have hel : d[j / k]! = d.toList[j / k] := by rw [getElem!_pos d (j / k) (by omega)]; simp
      rw [e1, e2, hel, getElem!_pos (enc d.toList[j / k]) (j % k) hlc, List.getElem?_eq_getElem hlc]
    · rename_i hj
      rw [List.getElem?_eq_none (by rw [kfl_length hk]; simp [hs]; omega)]
end
end Go.Proofs.Ytnfjleobcfhpnaa
