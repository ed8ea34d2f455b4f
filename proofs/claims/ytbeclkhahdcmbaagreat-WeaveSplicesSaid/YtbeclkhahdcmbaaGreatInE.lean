/- Inlays: the law's three. -/
import Derived.Test.YtbeclkhahdcmbaaGreatInD
namespace Go.Proofs.YtbeclkhahdcmbaaGreat
open Go.RowKit Go.Sort
set_option linter.unusedVariables false
def threeI : List In := [⟨2, 3, 0, 5, ⟨#[98]⟩⟩, ⟨1, 3, 0, 5, ⟨#[97]⟩⟩, ⟨3, 3, 0, 4, ⟨#[99]⟩⟩]
def threeO : List In := [⟨3, 3, 0, 4, ⟨#[99]⟩⟩, ⟨1, 3, 0, 5, ⟨#[97]⟩⟩, ⟨2, 3, 0, 5, ⟨#[98]⟩⟩]
theorem threeI_fine : iwrong 5 threeI = 0 := by decide +kernel
theorem threeI_ord : ord ilt (threeI.map icl) = threeO := by kernel_rfl
theorem threeI_wf : ∀ a ∈ threeI, (Lit.int .i64 a.id).wf = true := by
  intro a h
  unfold threeI at h
  simp only [List.mem_cons, List.not_mem_nil, or_false] at h
  rcases h with rfl | rfl | rfl <;> rfl
theorem threeI_tx : ∀ a ∈ threeI, a.tx.size ≤ 100000000 := by
  intro a h
  unfold threeI at h
  simp only [List.mem_cons, List.not_mem_nil, or_false] at h
  rcases h with rfl | rfl | rfl <;> decide
end Go.Proofs.YtbeclkhahdcmbaaGreat
