/- Patches: what two patches keep, piece by piece: the contract of the second closure of keptByBoth. -/
import Derived.Test.YtncbhbjhfmbbkaaPtL
namespace Go.Proofs.Ytncbhbjhfmbbkaa
open Go.RowKit
set_option linter.unusedVariables false
def pth_ (l : List Pc) (k : Nat) : Pc := l.getD k ⟨0, 0, 0⟩
theorem pth_drop {l : List Pc} {j : Nat} (h : j < l.length) : l.drop j = pth_ l j :: l.drop (j + 1) := by
  rw [List.drop_eq_getElem_cons h]; simp [pth_, List.getD, h]
theorem pth_mem {l : List Pc} {k : Nat} (h : k < l.length) : pth_ l k ∈ l := by
  have : pth_ l k = l[k] := by simp [pth_, List.getD, h]
  rw [this]; exact List.getElem_mem h
theorem pflat_at : ∀ (o : List Pc) (k : Nat), k < o.length → (pflat o)[k * 3]? = some (.int .i64 (pth_ o k).o) ∧ (pflat o)[k * 3 + 1]? = some (.int .i64 (pth_ o k).w) ∧ (pflat o)[k * 3 + 2]? = some (.int .i64 (pth_ o k).n)
  | x :: o, 0, _ => ⟨rfl, rfl, rfl⟩
  | x :: o, k + 1, h => by
    have := pflat_at o k (by simpa using h)
    rw [show (k + 1) * 3 = k * 3 + 3 from by omega, show k * 3 + 3 + 1 = k * 3 + 1 + 3 from by omega, show k * 3 + 3 + 2 = k * 3 + 2 + 3 from by omega]
    simpa [pflat, pth_, List.getD] using this
theorem inter_nil (ps : List Pc) : inter ps [] = [] := by cases ps <;> (unfold inter; rfl)
theorem inter_cons (p q : Pc) (ps qs : List Pc) : inter (p :: ps) (q :: qs) = (if max p.w q.o < min (p.w + p.n) (q.o + q.n) then [⟨p.o + max p.w q.o - p.w, q.w + max p.w q.o - q.o, min (p.w + p.n) (q.o + q.n) - max p.w q.o⟩] else []) ++
      (if p.w + p.n < q.o + q.n then inter ps (q :: qs) else inter (p :: ps) qs) := by rw [inter]
theorem pair_num {p q : Pc} (hp : 0 ≤ p.o ∧ p.o ≤ 4398046511104 ∧ 0 ≤ p.w ∧ p.w ≤ 4398046511104 ∧ 1 ≤ p.n ∧ p.n ≤ 4398046511104) (hq : 0 ≤ q.o ∧ q.o ≤ 4398046511104 ∧ 0 ≤ q.w ∧ q.w ≤ 4398046511104 ∧ 1 ≤ q.n ∧ q.n ≤ 4398046511104) :
    IntKind.i64.wrap (p.w + p.n) = p.w + p.n ∧ IntKind.i64.wrap (q.o + q.n) = q.o + q.n ∧ (∀ F T : Int, (if p.w < q.o then q.o else p.w) = F → (if q.o + q.n < p.w + p.n then q.o + q.n else p.w + p.n) = T → max p.w q.o = F ∧ min (p.w + p.n) (q.o + q.n) = T ∧
      IntKind.i64.wrap (p.o + F) = p.o + F ∧ IntKind.i64.wrap (p.o + F - p.w) = p.o + F - p.w ∧ IntKind.i64.wrap (q.w + F) = q.w + F ∧ IntKind.i64.wrap (q.w + F - q.o) = q.w + F - q.o ∧ IntKind.i64.wrap (T - F) = T - F) := by
  obtain ⟨p1, p2, p3, p4, p5, p6⟩ := hp
  obtain ⟨q1, q2, q3, q4, q5, q6⟩ := hq
  refine ⟨IntWalk.i64_in _ (by omega), IntWalk.i64_in _ (by omega), fun F T hF hT => ?_⟩
  have hFm : max p.w q.o = F := by rw [← hF]; split <;> omega
  have hTm : min (p.w + p.n) (q.o + q.n) = T := by rw [← hT]; split <;> omega
  clear hF hT
  exact ⟨hFm, hTm, IntWalk.i64_in _ (by omega), IntWalk.i64_in _ (by omega), IntWalk.i64_in _ (by omega), IntWalk.i64_in _ (by omega), IntWalk.i64_in _ (by omega)⟩
end Go.Proofs.Ytncbhbjhfmbbkaa
