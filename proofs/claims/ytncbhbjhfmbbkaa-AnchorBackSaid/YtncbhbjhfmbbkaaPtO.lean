/- Patches: what two patches do: the contracts of between, far, Compose. -/
import Derived.Test.YtncbhbjhfmbbkaaPtN
import Derived.Test.YtncbhbjhfmbbkaaPtB
namespace Go.Proofs.Ytncbhbjhfmbbkaa
open Go.RowKit
set_option linter.unusedVariables false
theorem inter_n : ∀ {ps qs : List Pc} (x : Pc), x ∈ inter ps qs → ∃ p ∈ ps, x.n ≤ p.n
  | [], _, x, hx => by unfold inter at hx; exact absurd hx List.not_mem_nil
  | _ :: _, [], x, hx => by unfold inter at hx; exact absurd hx List.not_mem_nil
  | p :: ps, q :: qs, x, hx => by
    rw [inter_cons] at hx
    rcases List.mem_append.1 hx with hx | hx
    · split at hx
      · obtain rfl := List.mem_singleton.1 hx
        exact ⟨p, List.mem_cons_self .., by simp only; omega⟩
      · exact absurd hx List.not_mem_nil
    · split at hx
      · obtain ⟨y, h1, h2⟩ := inter_n x hx
        exact ⟨y, List.mem_cons_of_mem _ h1, h2⟩
      · exact inter_n x hx
  termination_by ps qs => ps.length + qs.length
theorem inter_len : ∀ (ps qs : List Pc), (inter ps qs).length ≤ ps.length + qs.length
  | [], _ => by unfold inter; simp
  | _ :: _, [] => by unfold inter; simp
  | p :: ps, q :: qs => by
    have h1 := inter_len ps (q :: qs)
    have h2 := inter_len (p :: ps) qs
    rw [inter_cons, List.length_append]
    simp only [List.length_cons] at *
    split <;> split <;> simp <;> omega
  termination_by ps qs => ps.length + qs.length
theorem bd_inter {a b : List Ch} (ha : nrm M40 0 0 true a) (hb : nrm M40 0 0 true b) (hla : a.length ≤ 100000) (hlb : b.length ≤ 100000) : Bd (inter (pcs LL 0 0 a) (pcs LL 0 0 b)) := by
  refine ⟨cmp_srt (by decide) ha hb, fun x hx => ?_, ?_⟩
  · have h1 := pcs_bd (L := LL) ha (nrm_bd ha) (by decide) (by decide) (Int.le_refl _) (Int.le_refl _)
    have h2 := pcs_bd (L := LL) hb (nrm_bd hb) (by decide) (by decide) (Int.le_refl _) (Int.le_refl _)
    have h3 := inter_bd h1 h2 x hx
    obtain ⟨p, hp, hn⟩ := inter_n x hx
    have h4 := (pcs_all ha p hp).2.2.2.2.2
    unfold M40 at h3
    omega
  · have h1 := inter_len (pcs LL 0 0 a) (pcs LL 0 0 b)
    have h2 := pcs_len LL 0 0 a
    have h3 := pcs_len LL 0 0 b
    omega
/-- Is a patch's last number too large? -/
def isFar (l : List Ch) : Prop := 0 < l.length ∧ (M40 < (cth l (l.length - 1)).ob ∨ M40 < (cth l (l.length - 1)).nb)
section
variable {A B : Option Addr} {ma ca mb cb : Nat} {a b : List Ch} {w : World}
end
end Go.Proofs.Ytncbhbjhfmbbkaa
