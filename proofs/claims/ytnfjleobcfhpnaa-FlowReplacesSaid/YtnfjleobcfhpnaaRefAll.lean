/- The sum of items as the document's own answer has it: the contract of bodkinref04.All. -/
import Derived.Test.YtnfjleobcfhpnaaItAdd
import Derived.Deep.RegionWith
namespace Go.Proofs.Ytnfjleobcfhpnaa
open Go.RowKit
def rsum (n : Int) (l : List I7) : S6 := ⟨n, (sall l).d0, (sall l).d1, (sall l).d2, (sall l).mx, (sall l).pl⟩
theorem rsum_all (l : List I7) (hl : Okl l) : rsum (l.length : Int) l = sall l := by
  have := (sall_ok _ l rfl hl).1
  exact S6.ext_ this.symm rfl rfl rfl rfl rfl
theorem rsum_step (n : Int) (l : List I7) (hl : Okl l) {j : Nat} (hj : j < l.length) : rstep (rsum n (l.take j)) (ith l j) j = rsum n (l.take (j + 1)) := by
  have h := rstep_all (l.take j) (ith l j) (hl.take_ j) (hl _ (ith_mem l hj)) n
  rw [← take_ith l hj, show ((l.take j).length : Int) = (j : Int) from by rw [List.length_take]; omega] at h
  exact h
theorem rsum_small (n : Int) (l : List I7) (hl : Okl l) (hn : l.length ≤ 1000000) : Small (rsum n l).d0 ∧ Small (rsum n l).d1 ∧ Small (rsum n l).d2 := by
  obtain ⟨_, h1, h2, h3, _⟩ := (sall_ok _ l rfl hl).small (by omega)
  exact ⟨h1, h2, h3⟩
end Go.Proofs.Ytnfjleobcfhpnaa
