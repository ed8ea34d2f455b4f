/- A slice of integers, cut: where it lies, and what it holds. -/
import Derived.Test.YtajjodooojhhcaaBase
namespace Go.Proofs.Ytajjodooojhhcaa
open Go.RowKit
/-- Where a slice that is cut begins. -/
def cutA (A : Option Addr) (c k : Nat) : Option Addr := if c = k then A else A.map (·.add k)
theorem IntsAt.cut {kd : IntKind} {w : World} {A : Option Addr} {l : List Int} {n c : Nat} (h : IntsAt kd w A l) (hl : l.length = n) (hn : n ≤ c) (k m : Nat) (hk : k + m ≤ n) : IntsAt kd w (cutA A c k) ((l.drop k).take m) := by
  intro hp
  have hlen : ((l.drop k).take m).length = m := by rw [List.length_take, List.length_drop]; omega
  obtain ⟨b, off, rfl, hb, hc⟩ := h (by omega)
  have hne : ¬ c = k := by omega
  refine ⟨b, off + k, by simp [cutA, hne, Addr.add], hb, fun j hj => ?_⟩
  rw [Nat.add_assoc, hc (k + j) (by omega)]
  have e : nth ((l.drop k).take m) j = nth l (k + j) := by
    unfold nth
    simp only [List.getD, List.getElem?_take, List.getElem?_drop]
    rw [if_pos (by omega)]
  rw [e]
theorem cut_both {P : Program} {t e : TypeId} (ht : P.underlying t = some (.slice e)) {i : TypeInfo} (hi : P.info? e = some i) (h1 : P.cellsOf e = 1) (A : Option Addr) (n c k m : Nat) (hk : k + m ≤ c) (w : World) :
    (Instr.slice t (.slice A n c) (some (.int .i64 k)) (some (.int .i64 ((k : Int) + (m : Int)))) none).run P w = .ok (.slice (cutA A c k) m (c - k)) w := by
  have he : P.elem t = e := by simp [Program.elem, ht]
  subst he
  rw [run_slice_lh _ _ _ _ _ ht _ _ _ _ (by omega) (by omega) (by omega), run_sizeOf _ hi, h1]
  simp [Result.andThen, sliced, cutA]
  omega
theorem cut_rest {P : Program} {t e : TypeId} (ht : P.underlying t = some (.slice e)) {i : TypeInfo} (hi : P.info? e = some i) (h1 : P.cellsOf e = 1) (A : Option Addr) (n c k : Nat) (hk : k ≤ n) (w : World) :
    (Instr.slice t (.slice A n c) (some (.int .i64 k)) none none).run P w = .ok (.slice (cutA A c k) (n - k) (c - k)) w := by
  have he : P.elem t = e := by simp [Program.elem, ht]
  subst he
  rw [run_slice_l _ _ _ _ _ ht _ _ (by omega) (by omega), run_sizeOf _ hi, h1]
  simp [Result.andThen, sliced, cutA]
end Go.Proofs.Ytajjodooojhhcaa
