/- Folds: what one is in memory; order; slices.Clone and slices.SortFunc at spans. -/
import Derived.Test.YtdpmimlhchghlaaGreatKRow
import Derived.Test.YtdpmimlhchghlaaGreatInA
import Derived.Test.YtdpmimlhchghlaaGreatSortFo
import Derived.Deep.RegionHeld3
namespace Go.Proofs.YtdpmimlhchghlaaGreat
open Go.RowKit Go.Sort
set_option linter.unusedVariables false
/-- A fold. -/
structure Fo where
  f : Int
  t : Int
  deriving DecidableEq
instance : Inhabited Fo := ⟨⟨0, 0⟩⟩
def encF (a : Fo) : List Value := [.int .i64 a.f, .int .i64 a.t]
theorem encF_len (a : Fo) : (encF a).length = 2 := rfl
theorem encF_one (a : Fo) : ∀ v ∈ encF a, v.oneCell' = true := by intro v hv; simp [encF] at hv; rcases hv with rfl | rfl <;> rfl
/-- Which is ahead. -/
def fcf (a b : Fo) : Int := orr [cmpI a.f b.f, cmpI a.t b.t]
def flt (a b : Fo) : Bool := decide (a.f < b.f ∨ a.f = b.f ∧ a.t < b.t)
theorem fcf_flt (a b : Fo) : Go.Proofs.ltOf fcf a b = flt a b := by
  unfold Go.Proofs.ltOf fcf flt orr cmpI
  by_cases h1 : a.f < b.f
  · simp [h1]
  · by_cases h2 : b.f < a.f
    · simp [h1, h2]; omega
    · have : a.f = b.f := by omega
      simp [this, orr]
      by_cases h3 : a.t < b.t
      · simp [h3]
      · by_cases h4 : b.t < a.t
        · simp [h3, h4]
        · simp [h3, h4]
theorem flt_swo : SWO flt where
  irrefl x := by simp [flt]
  trans x y z h1 h2 := by simp only [flt, decide_eq_true_eq] at *; omega
  ntrans x y z h1 h2 := by simp only [flt, decide_eq_false_iff_not] at *; omega
theorem fcf_swo : SWO (Go.Proofs.ltOf fcf) := by
  have e : Go.Proofs.ltOf fcf = flt := by funext a b; exact fcf_flt a b
  rw [e]
  exact flt_swo
theorem flt_eq {x y : Fo} (h1 : flt x y = false) (h2 : flt y x = false) : x = y := by
  cases x
  cases y
  simp only [flt, decide_eq_false_iff_not] at h1 h2
  simp only [Fo.mk.injEq]
  omega
theorem fo_info : (Tryz.prog.info? 47).map (fun i => (i.zero, i.size, i.bytes)) = some (some (.agg #[.int .i64 0, .int .i64 0]), 2, 16) := by kernel_rfl
theorem fo_slt : SlT Tryz.prog 23 47 2 16 := slt_of Tryz.underlying23 fo_info rfl (by kernel_rfl)
theorem own_madeF (w : World) (e : TypeId) (k : Nat) : (w.alloc (.cells #[] e)).ownsRow w.heap.size e k (.slice (some ⟨w.heap.size, 0, none⟩) 0 0) 0 [] :=
  ⟨by simp, .inr ⟨w.heap.size, 0, #[], rfl, Nat.le_refl _, heap_alloc_new w _, Nat.le_refl _, by decide, by simp, by simp⟩⟩
end Go.Proofs.YtdpmimlhchghlaaGreat
