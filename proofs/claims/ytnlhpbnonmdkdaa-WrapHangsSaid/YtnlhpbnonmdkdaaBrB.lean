/- Breaks: boundary, fit, takes. -/
import Derived.Test.YtnlhpbnonmdkdaaBrA
namespace Go.Proofs.Ytnlhpbnonmdkdaa
open Go.RowKit
set_option linter.unusedVariables false
def cv (o : Cl) : Value := .agg #[.int .i32 o.r, .int .i64 o.k, .int .i64 o.wd, .int .i64 o.p]
set_option maxHeartbeats 4000000 in
set_option maxRecDepth 100000 in
theorem bBound_any (a b : Cl) (r : Bool) (hr : (isB a && !isB b && decide (0 < b.wd)) = r) (w : World) :
    Calls Try.prog 45 #[.agg #[.int .i32 a.r, .int .i64 a.k, .int .i64 a.wd, .int .i64 a.p], .agg #[.int .i32 b.r, .int .i64 b.k, .int .i64 b.wd, .int .i64 b.p]] w fun e w' => e = .returned (.bool r) ∧ Below w.heap.size w w' := by
  have q1 : Below w.heap.size w (w.alloc (.cells #[.int .i32 a.r, .int .i64 a.k, .int .i64 a.wd, .int .i64 a.p] 35)) := (Below.refl _ _).alloc (Nat.le_refl _) _
  obtain ⟨w1, hw1⟩ : ∃ w1, w.alloc (.cells #[.int .i32 a.r, .int .i64 a.k, .int .i64 a.wd, .int .i64 a.p] 35) = w1 := ⟨_, rfl⟩
  have hs1 : w1.heap.size = w.heap.size + 1 := by rw [← hw1]; simp
  have q2 : Below w.heap.size w (w1.alloc (.cells #[.int .i32 b.r, .int .i64 b.k, .int .i64 b.wd, .int .i64 b.p] 35)) := by rw [← hw1]; exact q1.alloc q1.size _
  have RB : RawAt 35 (w1.alloc (.cells #[.int .i32 b.r, .int .i64 b.k, .int .i64 b.wd, .int .i64 b.p] 35)) (w.heap.size + 1) #[.int .i32 b.r, .int .i64 b.k, .int .i64 b.wd, .int .i64 b.p] := by rw [← hs1]; exact heap_alloc_new w1 _
  have HRB := Lib.hid RB
  have HQ := Lib.hid q2
  rw [← hw1] at HRB HQ
  clear q1 q2 RB hs1 hw1 w1
  have HR := Lib.hid hr
  clear hr
  obtain ⟨ba, hba⟩ : ∃ x, isB a = x := ⟨_, rfl⟩
  obtain ⟨bb, hbb⟩ : ∃ x, isB b = x := ⟨_, rfl⟩
  have HBA := Lib.hid hba
  have HBB := Lib.hid hbb
  have h1 := HR.out
  rw [hba, hbb] at h1
  clear hba hbb HR
  cases ba
  · simp at h1
    subst h1
    go_enter Try.func45, Try.ntmps45
    go_wp2_with (refine (cBlank_is a false HBA.out _).mono ?_; rintro e w1 ⟨rfl, hb1⟩)
    have HB1 := Lib.hid (HQ.out.trans (hb1.mono HQ.out.size))
    clear hb1
    go_wp2
    go_ret
    exact ⟨rfl, HB1.out⟩
  · cases bb
    · simp only [Bool.not_false, Bool.and_true, Bool.true_and] at h1
      go_enter Try.func45, Try.ntmps45
      go_wp2_with (first | (with_reducible refine (cBlank_is a true HBA.out _).mono ?_; rintro e w1 ⟨rfl, hb1⟩; have HB1 := Lib.hid (HQ.out.trans (hb1.mono HQ.out.size)); have HR1 := Lib.hid (RawAt.below HRB.out hb1 HRB.out.lt); clear hb1; have d0 := RawAt.cell HR1.out 0; have d1 := RawAt.cell HR1.out 1; have d2 := RawAt.cell HR1.out 2; have d3 := RawAt.cell HR1.out 3; simp at d0 d1 d2 d3) | (with_reducible refine (cBlank_is b false HBB.out _).mono ?_; rintro e w2 ⟨rfl, hb2⟩; have HB2 := Lib.hid (HB1.out.trans (hb2.mono HB1.out.size)); have HR2 := Lib.hid (RawAt.below HR1.out hb2 HR1.out.lt); clear hb2; have c2 := RawAt.cell HR2.out 2; simp at c2))
      subst h1
      go_ret
      exact ⟨rfl, HB2.out⟩
    · simp at h1
      go_enter Try.func45, Try.ntmps45
      go_wp2_with (first | (with_reducible refine (cBlank_is a true HBA.out _).mono ?_; rintro e w1 ⟨rfl, hb1⟩; have HB1 := Lib.hid (HQ.out.trans (hb1.mono HQ.out.size)); have HR1 := Lib.hid (RawAt.below HRB.out hb1 HRB.out.lt); clear hb1; have d0 := RawAt.cell HR1.out 0; have d1 := RawAt.cell HR1.out 1; have d2 := RawAt.cell HR1.out 2; have d3 := RawAt.cell HR1.out 3; simp at d0 d1 d2 d3) | (with_reducible refine (cBlank_is b true HBB.out _).mono ?_; rintro e w2 ⟨rfl, hb2⟩; have HB2 := Lib.hid (HB1.out.trans (hb2.mono HB1.out.size)); have HR2 := Lib.hid (RawAt.below HR1.out hb2 HR1.out.lt); clear hb2; have c2 := RawAt.cell HR2.out 2; simp at c2))
      subst h1
      go_ret
      exact ⟨rfl, HB2.out⟩
end Go.Proofs.Ytnlhpbnonmdkdaa
