/- Inlays: what stays together. -/
import Derived.Test.YtjkkngldiimkjaaGreatInX
namespace Go.Proofs.YtjkkngldiimkjaaGreat
open Go.RowKit Go.Sort
set_option linter.unusedVariables false
/-- One behind a shift, its text made clean. -/
def ish (p : List Ch) (a : In) : In := icl ⟨a.id, mp 0 0 p a.pl a.bi, a.bi, a.ky, a.tx⟩
theorem ish_map (p : List Ch) (o : List In) : (ishift p o).map icl = o.map (ish p) := by unfold ishift; rw [List.map_map]; rfl
/-- Where a number is so far, or -1. -/
def fx (X k : Nat) : Int := if X < k then X else -1
theorem fx_step (X k : Nat) : fx X (k + 1) = if X = k then (k : Int) else fx X k := by
  unfold fx
  by_cases e : X = k
  · rw [if_pos (by omega), if_pos e, e]
  · by_cases g : X < k
    · rw [if_pos (by omega), if_neg e, if_pos g]
    · rw [if_neg (by omega), if_neg e, if_neg g]
theorem tog_at {p : List Ch} {O N : List In} (hO : IApart O) (hN : N = ord ilt (O.map (ish p))) : N.length = O.length ∧ IApart N ∧ (∀ a ∈ O, ixI N a.id < N.length) ∧ ∀ a ∈ O, ∀ h : ixI N a.id < N.length, N[ixI N a.id] = ish p a := by
  have hp := ord_perm ilt ilt_swo (O.map (ish p))
  rw [← hN] at hp
  have ha : IApart (O.map (ish p)) := List.Pairwise.map _ (fun a b h => h) hO
  have hb : IApart N := hp.symm.pairwise ha (fun h => Ne.symm h)
  refine ⟨by rw [hp.length_eq, List.length_map], hb, fun a h => ?_, fun a h hx => ?_⟩
  · have : ish p a ∈ N := hp.mem_iff.2 (List.mem_map.2 ⟨a, h, rfl⟩)
    exact ixI_lt (a := ish p a) this
  · have h1 := ixI_is hx
    obtain ⟨c, hc, e⟩ := List.mem_map.1 (hp.mem_iff.1 (List.getElem_mem hx))
    have h2 : c.id = a.id := by
      have : (ish p c).id = a.id := by rw [e]; exact h1
      exact this
    rw [← e, iapart_inj hO c hc a h h2]
theorem tog_le {p : List Ch} {O N : List In} (hO : IApart O) (hs : O.Pairwise (fun a b => ilt b a = false)) (hN : N = ord ilt (O.map (ish p))) {i j : Nat} (hi : i < O.length) (hj : j < i) (e1 : O[i].pl = O[j].pl) (e2 : O[i].bi = O[j].bi) : ixI N O[j].id ≤ ixI N O[i].id ∧ (ish p O[i]).pl = (ish p O[j]).pl := by
  obtain ⟨t1, t2, t3, t4⟩ := tog_at hO hN
  have hjl : j < O.length := by omega
  have mi := List.getElem_mem hi
  have mj := List.getElem_mem hjl
  have g1 := List.pairwise_iff_getElem.1 hs j i hjl hi hj
  have g2 := List.pairwise_iff_getElem.1 hO j i hjl hi hj
  have epl : (ish p O[i]).pl = (ish p O[j]).pl := by
    show mp 0 0 p O[i].pl O[i].bi = mp 0 0 p O[j].pl O[j].bi
    rw [e1, e2]
  refine ⟨Decidable.byContradiction fun g => ?_, epl⟩
  have hsN := ord_sorted ilt ilt_swo (O.map (ish p))
  rw [← hN] at hsN
  have g3 := List.pairwise_iff_getElem.1 hsN (ixI N O[i].id) (ixI N O[j].id) (t3 _ mi) (t3 _ mj) (by omega)
  rw [t4 _ mi, t4 _ mj] at g3
  have k1 : (ish p O[i]).ky = O[i].ky := rfl
  have k2 : (ish p O[j]).ky = O[j].ky := rfl
  have k3 : (ish p O[i]).id = O[i].id := rfl
  have k4 : (ish p O[j]).id = O[j].id := rfl
  unfold ilt at g1 g3
  simp only [decide_eq_false_iff_not, k1, k2, k3, k4] at g1 g3
  omega
end Go.Proofs.YtjkkngldiimkjaaGreat
