/- Patches: what two patches do: the contracts of keptByBoth, between, far, Compose. -/
import Derived.Test.YtncbhbjhfmbbkaaPtM
namespace Go.Proofs.Ytncbhbjhfmbbkaa
open Go.RowKit
set_option linter.unusedVariables false
theorem pcs_len (L : Int) : ∀ (p q : Int) (l : List Ch), (pcs L p q l).length ≤ l.length + 1
  | _, _, [] => Nat.le_refl _
  | p, q, c :: l => by
    have ih := pcs_len L c.ob c.nb l
    unfold pcs
    rw [List.length_append, List.length_cons]
    split <;> simp <;> omega
theorem pcs_pos (L : Int) : ∀ (p q : Int) (l : List Ch), 0 < (pcs L p q l).length
  | _, _, [] => Nat.zero_lt_one
  | p, q, c :: l => by
    have ih := pcs_pos L c.ob c.nb l
    unfold pcs
    rw [List.length_append]; omega
theorem pcs_n {M L : Int} (hM : M ≤ L) (hL : 1 ≤ L) : ∀ {p q : Int} {fi : Bool} {l : List Ch}, nrm M p q fi l → 0 ≤ p → ∀ x ∈ pcs L p q l, 1 ≤ x.n ∧ x.n ≤ L
  | p, q, _, [], _, _, x, hx => by
    unfold pcs at hx
    obtain rfl := List.mem_singleton.1 hx
    exact ⟨hL, Int.le_refl _⟩
  | p, q, _, c :: l, h, h0, x, hx => by
    obtain ⟨⟨g1, g2, g3, g4, g5, g6, g7⟩, hh⟩ := h
    unfold pcs at hx
    rcases List.mem_append.1 hx with hx | hx
    · split at hx
      · obtain rfl := List.mem_singleton.1 hx
        simp only
        omega
      · exact absurd hx List.not_mem_nil
    · exact pcs_n hM hL hh (by omega) x hx
theorem pcs_all {l : List Ch} (h : nrm M40 0 0 true l) : ∀ x ∈ pcs LL 0 0 l, 0 ≤ x.o ∧ x.o ≤ 4398046511104 ∧ 0 ≤ x.w ∧ x.w ≤ 4398046511104 ∧ 1 ≤ x.n ∧ x.n ≤ 4398046511104 := fun x hx => by
  have h1 := pcs_bd (L := LL) h (nrm_bd h) (by decide) (by decide) (Int.le_refl _) (Int.le_refl _) x hx
  have h2 := pcs_n (show M40 ≤ LL by decide) (by decide) h (Int.le_refl _) x hx
  unfold M40 at h1
  unfold LL at h2
  omega
end Go.Proofs.Ytncbhbjhfmbbkaa
