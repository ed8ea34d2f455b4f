/- Folds: the law FoldsNil, walked. -/
import Derived.Test.YtmijlijgcaaiiaaFoQ
import Derived.Test.YtmijlijgcaaiiaaInO
namespace Go.Proofs.Ytmijlijgcaaiiaa
open Go.RowKit Go.Sort
set_option linter.unusedVariables false
set_option maxHeartbeats 16000000 in
set_option maxRecDepth 100000 in
theorem foldsNil_walk (st : SpV) (w : World) (hS : SpOk st) :
    Calls Try.prog 10 #[.agg #[.int .i64 st.f, .int .i64 st.t]] w fun e w' => e = .returned (.bool true) ∧ Below w.heap.size w w' := by
  obtain ⟨xf, xt⟩ := st
  obtain ⟨hw1, hw2⟩ := hS
  simp only at hw1 hw2 ⊢
  have C3 := Lib.hid fun W => fThree_any W
  have CLE := Lib.hid fun W => fLen_nil W
  have CAL := Lib.hid fun W => fAll_nil W
  have CHI := Lib.hid fun W => fHidden_nil W
  have CSH := Lib.hid fun W => fShift_nil W
  have CAD := Lib.hid fun W => fAdd_nil ⟨xf, xt⟩ ⟨hw1, hw2⟩ W
  have CR := Lib.hid fun W => fRemove_nil ⟨xf, xt⟩ W
  have COV := Lib.hid fun W => fOver_rows (w := W) (.pointer none) xf [] (by simp) (fun W' _ => fHidden_nil W')
  rw [show ovL [] xf = none from rfl, show ovA none = ⟨0, 0⟩ from rfl] at COV
  dsimp only [Option.isSome_none] at COV CAD CR
  have x1 : Below w.heap.size w (w.alloc (.cells #[.int .i64 xf, .int .i64 xt] 60)) := (Below.refl _ _).alloc (Nat.le_refl _) _
  have R1 : RawAt 60 (w.alloc (.cells #[.int .i64 xf, .int .i64 xt] 60)) w.heap.size #[.int .i64 xf, .int .i64 xt] := heap_alloc_new w _
  obtain ⟨W1, hW1⟩ : ∃ W1, W1 = (w.alloc (.cells #[.int .i64 xf, .int .i64 xt] 60)) := ⟨_, rfl⟩
  rw [← hW1] at x1 R1
  have X1 := Lib.hid x1
  have HR1 := Lib.hid R1
  have HW1 := Lib.hid hW1
  have d0 := RawAt.cell R1 0
  have d1 := RawAt.cell R1 1
  simp at d0 d1
  clear x1 R1
  by_cases g : fsp ⟨xf, xt⟩ 0
  · obtain ⟨y1, y2, y3⟩ := g
    simp only at y1 y2 y3
    have e1 : xf = 0 := by omega
    have e2 : xt = 0 := by omega
    subst e1
    subst e2
    have HG : Hid (fsp ⟨0, 0⟩ 0) := Lib.hid ⟨by decide, by decide, by decide⟩
    rw [if_pos HG.out] at CR
    clear y1 y2 y3
    rw [hW1] at d0 d1
    clear hW1
    go_enter Try.func10, Try.ntmps10
    go_wp2_with fail
    rw [← HW1.out]
    with_reducible refine (CR.out _).mono ?_
    rintro e w2 ⟨p2, rfl, hp1, hp2, bb⟩
    obtain ⟨s2, rfl⟩ := hp1 HG.out
    have B2 := Lib.hid bb
    clear bb hp1 hp2
    go_wp2_with fail
    with_reducible refine (CSH.out _).mono ?_
    rintro e w3 ⟨s3, rfl, bb⟩
    have B3 := Lib.hid (B2.out.trans (bb.mono B2.out.size))
    have u1 := Lib.hid (RawAt.below HR1.out (B3.out) HR1.out.lt)
    have c0 := RawAt.cell u1.out 0
    have c1 := RawAt.cell u1.out 1
    simp at c0 c1
    clear bb
    go_wp2_with fail
    with_reducible refine (CAD.out _).mono ?_
    rintro e w4 ⟨rfl, bb⟩
    have B4 := Lib.hid (B3.out.trans (bb.mono B3.out.size))
    clear c0 c1 u1
    have u1 := Lib.hid (RawAt.below HR1.out (B4.out) HR1.out.lt)
    have c0 := RawAt.cell u1.out 0
    have c1 := RawAt.cell u1.out 1
    simp at c0 c1
    clear bb
    go_wp2_with fail
    with_reducible refine (COV.out _).mono ?_
    rintro e w5 ⟨rfl, bb⟩
    have B5 := Lib.hid (B4.out.trans (bb.mono B4.out.size))
    have x6 : Below w5.heap.size w5 (w5.alloc (.cells #[.int .i64 0, .int .i64 0] 60)) := (Below.refl _ _).alloc (Nat.le_refl _) _
    have B6 := Lib.hid (B5.out.trans (x6.mono B5.out.size))
    clear c0 c1 u1
    have u1 := Lib.hid (RawAt.below HR1.out (B6.out) HR1.out.lt)
    have c0 := RawAt.cell u1.out 0
    have c1 := RawAt.cell u1.out 1
    simp at c0 c1
    clear bb x6
    go_wp2_with fail
    with_reducible refine (CLE.out _).mono ?_
    rintro e w7 ⟨rfl, bb⟩
    have B7 := Lib.hid (B6.out.trans (bb.mono B6.out.size))
    clear bb
    go_wp2_with fail
    with_reducible refine (CAL.out _).mono ?_
    rintro e w8 ⟨v8, rfl, o8, bb⟩
    obtain ⟨A8, c8, rfl⟩ := own_formF o8
    have B8 := Lib.hid (B7.out.trans (bb.mono B7.out.size))
    clear bb o8
    go_wp2_with fail
    with_reducible refine (CHI.out _).mono ?_
    rintro e w9 ⟨v9, rfl, o9, bb⟩
    obtain ⟨A9, c9, rfl⟩ := own_formF o9
    have B9 := Lib.hid (B8.out.trans (bb.mono B8.out.size))
    clear bb o9
    go_wp2_with fail
    with_reducible refine (C3.out _).mono ?_
    rintro e w10 ⟨rfl, bb⟩
    have B10 := Lib.hid (X1.out.trans ((B9.out.trans (bb.mono B9.out.size)).mono X1.out.size))
    clear bb
    go_wp2
    go_ret
    exact ⟨rfl, B10.out⟩
  · rw [if_neg g] at CR
    rw [hW1] at d0 d1
    clear hW1
    by_cases a : xf = 0
    · subst a
      have b : ¬ xt = 0 := fun b => g ⟨by simp, by simp [b], by simp [b]⟩
      have HG := Lib.hid g
      have k1 : (xt == 0) = false := by simp [b]
      have k2 : decide (xt = 0) = false := decide_eq_false b
      clear g
      go_enter Try.func10, Try.ntmps10
      go_wp2_with fail
      rw [← HW1.out]
      with_reducible refine (CR.out _).mono ?_
      rintro e w2 ⟨p2, rfl, hp1, hp2, bb⟩
      have hp := hp2 HG.out
      subst hp
      have B2 := Lib.hid bb
      clear bb hp1 hp2
      go_wp2_with fail
      with_reducible refine (CSH.out _).mono ?_
      rintro e w3 ⟨s3, rfl, bb⟩
      have B3 := Lib.hid (B2.out.trans (bb.mono B2.out.size))
      have u1 := Lib.hid (RawAt.below HR1.out (B3.out) HR1.out.lt)
      have c0 := RawAt.cell u1.out 0
      have c1 := RawAt.cell u1.out 1
      simp at c0 c1
      clear bb
      go_wp2_with fail
      with_reducible refine (CAD.out _).mono ?_
      rintro e w4 ⟨rfl, bb⟩
      have B4 := Lib.hid (B3.out.trans (bb.mono B3.out.size))
      clear c0 c1 u1
      have u1 := Lib.hid (RawAt.below HR1.out (B4.out) HR1.out.lt)
      have c0 := RawAt.cell u1.out 0
      have c1 := RawAt.cell u1.out 1
      simp at c0 c1
      clear bb
      go_wp2_with fail
      with_reducible refine (COV.out _).mono ?_
      rintro e w5 ⟨rfl, bb⟩
      have B5 := Lib.hid (B4.out.trans (bb.mono B4.out.size))
      have x6 : Below w5.heap.size w5 (w5.alloc (.cells #[.int .i64 0, .int .i64 0] 60)) := (Below.refl _ _).alloc (Nat.le_refl _) _
      have B6 := Lib.hid (B5.out.trans (x6.mono B5.out.size))
      clear c0 c1 u1
      have u1 := Lib.hid (RawAt.below HR1.out (B6.out) HR1.out.lt)
      have c0 := RawAt.cell u1.out 0
      have c1 := RawAt.cell u1.out 1
      simp at c0 c1
      clear bb x6
      go_wp2_with fail
      with_reducible refine (CLE.out _).mono ?_
      rintro e w7 ⟨rfl, bb⟩
      have B7 := Lib.hid (B6.out.trans (bb.mono B6.out.size))
      clear bb
      go_wp2_with fail
      with_reducible refine (CAL.out _).mono ?_
      rintro e w8 ⟨v8, rfl, o8, bb⟩
      obtain ⟨A8, c8, rfl⟩ := own_formF o8
      have B8 := Lib.hid (B7.out.trans (bb.mono B7.out.size))
      clear bb o8
      go_wp2_with fail
      with_reducible refine (CHI.out _).mono ?_
      rintro e w9 ⟨v9, rfl, o9, bb⟩
      obtain ⟨A9, c9, rfl⟩ := own_formF o9
      have B9 := Lib.hid (B8.out.trans (bb.mono B8.out.size))
      clear bb o9
      go_wp2_with fail
      with_reducible refine (C3.out _).mono ?_
      rintro e w10 ⟨rfl, bb⟩
      have B10 := Lib.hid (X1.out.trans ((B9.out.trans (bb.mono B9.out.size)).mono X1.out.size))
      clear bb
      go_wp2
      go_ret
      exact ⟨rfl, B10.out⟩
    · have HG := Lib.hid g
      have k1 : (xf == 0) = false := by simp [a]
      have k2 : decide (xf = 0) = false := decide_eq_false a
      clear g
      go_enter Try.func10, Try.ntmps10
      go_wp2_with fail
      rw [← HW1.out]
      with_reducible refine (CR.out _).mono ?_
      rintro e w2 ⟨p2, rfl, hp1, hp2, bb⟩
      have hp := hp2 HG.out
      subst hp
      have B2 := Lib.hid bb
      clear bb hp1 hp2
      go_wp2_with fail
      with_reducible refine (CSH.out _).mono ?_
      rintro e w3 ⟨s3, rfl, bb⟩
      have B3 := Lib.hid (B2.out.trans (bb.mono B2.out.size))
      have u1 := Lib.hid (RawAt.below HR1.out (B3.out) HR1.out.lt)
      have c0 := RawAt.cell u1.out 0
      have c1 := RawAt.cell u1.out 1
      simp at c0 c1
      clear bb
      go_wp2_with fail
      with_reducible refine (CAD.out _).mono ?_
      rintro e w4 ⟨rfl, bb⟩
      have B4 := Lib.hid (B3.out.trans (bb.mono B3.out.size))
      clear c0 c1 u1
      have u1 := Lib.hid (RawAt.below HR1.out (B4.out) HR1.out.lt)
      have c0 := RawAt.cell u1.out 0
      have c1 := RawAt.cell u1.out 1
      simp at c0 c1
      clear bb
      go_wp2_with fail
      with_reducible refine (COV.out _).mono ?_
      rintro e w5 ⟨rfl, bb⟩
      have B5 := Lib.hid (B4.out.trans (bb.mono B4.out.size))
      have x6 : Below w5.heap.size w5 (w5.alloc (.cells #[.int .i64 0, .int .i64 0] 60)) := (Below.refl _ _).alloc (Nat.le_refl _) _
      have B6 := Lib.hid (B5.out.trans (x6.mono B5.out.size))
      clear c0 c1 u1
      have u1 := Lib.hid (RawAt.below HR1.out (B6.out) HR1.out.lt)
      have c0 := RawAt.cell u1.out 0
      have c1 := RawAt.cell u1.out 1
      simp at c0 c1
      clear bb x6
      go_wp2_with fail
      with_reducible refine (CLE.out _).mono ?_
      rintro e w7 ⟨rfl, bb⟩
      have B7 := Lib.hid (B6.out.trans (bb.mono B6.out.size))
      clear bb
      go_wp2_with fail
      with_reducible refine (CAL.out _).mono ?_
      rintro e w8 ⟨v8, rfl, o8, bb⟩
      obtain ⟨A8, c8, rfl⟩ := own_formF o8
      have B8 := Lib.hid (B7.out.trans (bb.mono B7.out.size))
      clear bb o8
      go_wp2_with fail
      with_reducible refine (CHI.out _).mono ?_
      rintro e w9 ⟨v9, rfl, o9, bb⟩
      obtain ⟨A9, c9, rfl⟩ := own_formF o9
      have B9 := Lib.hid (B8.out.trans (bb.mono B8.out.size))
      clear bb o9
      go_wp2_with fail
      with_reducible refine (C3.out _).mono ?_
      rintro e w10 ⟨rfl, bb⟩
      have B10 := Lib.hid (X1.out.trans ((B9.out.trans (bb.mono B9.out.size)).mono X1.out.size))
      clear bb
      go_wp2
      go_ret
      exact ⟨rfl, B10.out⟩
end Go.Proofs.Ytmijlijgcaaiiaa
