/- A slice of items, cut: where it lies, and what it holds. -/
import Derived.Test.YtbbplppcabeojaaItBase
namespace Go.Proofs.Ytbbplppcabeojaa
open Go.RowKit
/-- Where a slice of items that is cut begins. -/
def cutI (A : Option Addr) (c k : Nat) : Option Addr := if c = k then A else A.map (·.add (k * 7))
theorem ItsAt.cut {w : World} {A : Option Addr} {l : List I7} {n c : Nat} (h : ItsAt w A l) (hl : l.length = n) (hn : n ≤ c) (k m : Nat) (hk : k + m ≤ n) : ItsAt w (cutI A c k) ((l.drop k).take m) := by
  intro hp
  have hlen : ((l.drop k).take m).length = m := by rw [List.length_take, List.length_drop]; omega
  obtain ⟨b, off, rfl, hb, hc⟩ := h (by omega)
  have hne : ¬ c = k := by omega
  have hk7 : (⟨b, off, none⟩ : Addr).add (k * 7) = ⟨b, off + k * 7, none⟩ := Go.WideShapes.add_plain b off (k * 7)
  refine ⟨b, off + k * 7, by simp only [cutI, if_neg hne, Option.map_some, hk7], hb, fun j hj => ?_⟩
  have e : ith ((l.drop k).take m) j = ith l (k + j) := by
    unfold ith
    simp only [List.getD, List.getElem?_take, List.getElem?_drop]
    rw [if_pos (by omega)]
  rw [e, show off + k * 7 + j * 7 = off + (k + j) * 7 from by omega]
  exact hc (k + j) (by omega)
theorem ItsAt.front {w : World} {A : Option Addr} {l : List I7} (h : ItsAt w A l) (k : Nat) : ItsAt w A (l.take k) := by
  intro hp
  have hk : (l.take k).length ≤ l.length := List.length_take_le' _ _
  have hk2 : (l.take k).length ≤ k := List.length_take_le k l
  obtain ⟨b, off, rfl, hb, hc⟩ := h (by omega)
  refine ⟨b, off, rfl, hb, fun j hj => ?_⟩
  have e : ith (l.take k) j = ith l j := by
    unfold ith
    simp only [List.getD, List.getElem?_take]
    rw [if_pos (by omega)]
  rw [e]
  exact hc j (by omega)
theorem cut_front {P : Program} {t e : TypeId} (ht : P.underlying t = some (.slice e)) {i : TypeInfo} (hi : P.info? e = some i) (A : Option Addr) (n c k : Nat) (hk : k ≤ c) (w : World) :
    (Instr.slice t (.slice A n c) none (some (.int .i64 k)) none).run P w = .ok (.slice A k c) w := by
  have he : P.elem t = e := by simp [Program.elem, ht]
  subst he
  rw [run_slice_h _ _ _ _ _ ht _ _ (by omega) (by omega), run_sizeOf _ hi]
  have h0 : (A.map fun x => x.add 0) = A := by cases A <;> simp [Addr.add]
  simp [Result.andThen, sliced, h0]
theorem cut_back7 {P : Program} {t e : TypeId} (ht : P.underlying t = some (.slice e)) {i : TypeInfo} (hi : P.info? e = some i) (h1 : P.cellsOf e = 7) (A : Option Addr) (n c k : Nat) (hk : k ≤ n) (w : World) :
    (Instr.slice t (.slice A n c) (some (.int .i64 k)) none none).run P w = .ok (.slice (cutI A c k) (n - k) (c - k)) w := by
  have he : P.elem t = e := by simp [Program.elem, ht]
  subst he
  rw [run_slice_l _ _ _ _ _ ht _ _ (by omega) (by omega), run_sizeOf _ hi, h1]
  simp [Result.andThen, sliced, cutI]
theorem cut_both7 {P : Program} {t e : TypeId} (ht : P.underlying t = some (.slice e)) {i : TypeInfo} (hi : P.info? e = some i) (h1 : P.cellsOf e = 7) (A : Option Addr) (n c k m : Nat) (hk : k ≤ m) (hm : m ≤ c) (w : World) :
    (Instr.slice t (.slice A n c) (some (.int .i64 k)) (some (.int .i64 m)) none).run P w = .ok (.slice (cutI A c k) (m - k) (c - k)) w := by
  have he : P.elem t = e := by simp [Program.elem, ht]
  subst he
  rw [run_slice_lh _ _ _ _ _ ht _ _ _ _ (by omega) (by omega) (by omega), run_sizeOf _ hi, h1]
  simp [Result.andThen, sliced, cutI]
end Go.Proofs.Ytbbplppcabeojaa
