/- Inlays: what is wrong with one. -/
import Derived.Test.YtmijlijgcaaiiaaInA
import Derived.Test.YtmijlijgcaaiiaaBase
import Derived.Test.YtmijlijgcaaiiaaShelfCR
namespace Go.Proofs.Ytmijlijgcaaiiaa
open Go.RowKit Go.Sort
set_option linter.unusedVariables false
/-- A line's end among a text's bytes. -/
def has10 (s : ByteArray) : Bool := decide (0 ≤ Lib.indexByte s.data.toList 10)
theorem contains10 (s : ByteArray) (w : World) : Calls Try.prog 72 #[.string s, .int .i32 10] w fun e w' => e = .returned (.bool (has10 s)) ∧ w' = w := Try.strings_ContainsRune_ascii s 10 w (by decide) (by decide)
def iwr (n : Int) (a : In) : Int := if a.id < 1 ∨ a.pl < 0 ∨ n < a.pl ∨ (a.bi ≠ 0 ∧ a.bi ≠ 1) then 1 else if 40 < (dec a.tx).length then 2 else if (dec a.tx).length = 0 ∨ has10 a.tx = true then 4 else 0
set_option maxHeartbeats 8000000 in
set_option maxRecDepth 100000 in
theorem iCheck_any (a : In) (n : Int) (w : World) (hs : a.tx.size ≤ 100000000) (r : Int) (hr : r = iwr n a) : Calls Try.prog 41 #[.agg #[.int .i64 a.id, .int .i64 a.pl, .int .i64 a.bi, .int .i64 a.ky, .string a.tx], .int .i64 n] w fun e w' => e = .returned (.int .i64 r) ∧ Below w.heap.size w w' := by
  have CC := Lib.hid fun (W : World) => count_any a.tx W (by omega)
  have CR := Lib.hid fun (W : World) => contains10 a.tx W
  have HR := Lib.hid hr
  clear hr
  have x1 : Below w.heap.size w (w.alloc (.cells #[.int .i64 a.id, .int .i64 a.pl, .int .i64 a.bi, .int .i64 a.ky, .string a.tx] 46)) := (Below.refl _ _).alloc (Nat.le_refl _) _
  have R1 : RawAt 46 (w.alloc (.cells #[.int .i64 a.id, .int .i64 a.pl, .int .i64 a.bi, .int .i64 a.ky, .string a.tx] 46)) w.heap.size #[.int .i64 a.id, .int .i64 a.pl, .int .i64 a.bi, .int .i64 a.ky, .string a.tx] := heap_alloc_new w _
  generalize hb : has10 a.tx = hh at CR
  have HB := Lib.hid hb
  clear hb
  obtain ⟨len, hlen⟩ : ∃ k, k = (dec a.tx).length := ⟨_, rfl⟩
  have HLN := Lib.hid hlen
  rw [← hlen] at CC
  clear hlen hs
  obtain ⟨W1, hW1⟩ : ∃ W1, W1 = w.alloc (.cells #[.int .i64 a.id, .int .i64 a.pl, .int .i64 a.bi, .int .i64 a.ky, .string a.tx] 46) := ⟨_, rfl⟩
  rw [← hW1] at x1 R1
  have HW1 := Lib.hid hW1
  have X1 := Lib.hid x1
  have RR := Lib.hid R1
  clear hW1 x1 R1
  by_cases c1 : a.id < 1
  · have kc1 : decide (a.id < 1) = true := decide_eq_true c1
    have hr : r = 1 := by rw [HR.out, iwr, if_pos (by omega)]
    subst hr
    clear HR
    go_enter Try.func41, Try.ntmps41
    go_wp2_with fail
    rw [← HW1.out]
    go_wp2_with fail
    with_reducible refine (CC.out _).mono ?_
    rintro e w2 ⟨rfl, b2⟩
    have R2 := RawAt.below RR.out b2 RR.out.lt
    have e0 := RawAt.cell R2 0
    have e1 := RawAt.cell R2 1
    have e2 := RawAt.cell R2 2
    have e4 := RawAt.cell R2 4
    simp at e0 e1 e2 e4
    have Q2 := Lib.hid (X1.out.trans (b2.mono X1.out.size))
    clear R2 b2
    go_wp2
    go_ret
    exact ⟨rfl, Q2.out⟩
  · have kc1 : decide (a.id < 1) = false := decide_eq_false c1
    by_cases c2 : a.pl < 0
    · have kc2 : decide (a.pl < 0) = true := decide_eq_true c2
      have hr : r = 1 := by rw [HR.out, iwr, if_pos (by omega)]
      subst hr
      clear HR
      go_enter Try.func41, Try.ntmps41
      go_wp2_with fail
      rw [← HW1.out]
      go_wp2_with fail
      with_reducible refine (CC.out _).mono ?_
      rintro e w2 ⟨rfl, b2⟩
      have R2 := RawAt.below RR.out b2 RR.out.lt
      have e0 := RawAt.cell R2 0
      have e1 := RawAt.cell R2 1
      have e2 := RawAt.cell R2 2
      have e4 := RawAt.cell R2 4
      simp at e0 e1 e2 e4
      have Q2 := Lib.hid (X1.out.trans (b2.mono X1.out.size))
      clear R2 b2
      go_wp2
      go_ret
      exact ⟨rfl, Q2.out⟩
    · have kc2 : decide (a.pl < 0) = false := decide_eq_false c2
      by_cases c3 : n < a.pl
      · have kc3 : decide (n < a.pl) = true := decide_eq_true c3
        have hr : r = 1 := by rw [HR.out, iwr, if_pos (by omega)]
        subst hr
        clear HR
        go_enter Try.func41, Try.ntmps41
        go_wp2_with fail
        rw [← HW1.out]
        go_wp2_with fail
        with_reducible refine (CC.out _).mono ?_
        rintro e w2 ⟨rfl, b2⟩
        have R2 := RawAt.below RR.out b2 RR.out.lt
        have e0 := RawAt.cell R2 0
        have e1 := RawAt.cell R2 1
        have e2 := RawAt.cell R2 2
        have e4 := RawAt.cell R2 4
        simp at e0 e1 e2 e4
        have Q2 := Lib.hid (X1.out.trans (b2.mono X1.out.size))
        clear R2 b2
        go_wp2
        go_ret
        exact ⟨rfl, Q2.out⟩
      · have kc3 : decide (n < a.pl) = false := decide_eq_false c3
        by_cases c4 : a.bi ≠ 0 ∧ a.bi ≠ 1
        · obtain ⟨c4, c5⟩ := c4
          have k4 : (a.bi != 0) = true := by simp [c4]
          have k5 : (a.bi != 1) = true := by simp [c5]
          have k6 : (a.bi == 0) = false := by simp [c4]
          have k7 : (a.bi == 1) = false := by simp [c5]
          have hr : r = 1 := by rw [HR.out, iwr, if_pos (by omega)]
          subst hr
          clear HR
          go_enter Try.func41, Try.ntmps41
          go_wp2_with fail
          rw [← HW1.out]
          go_wp2_with fail
          with_reducible refine (CC.out _).mono ?_
          rintro e w2 ⟨rfl, b2⟩
          have R2 := RawAt.below RR.out b2 RR.out.lt
          have e0 := RawAt.cell R2 0
          have e1 := RawAt.cell R2 1
          have e2 := RawAt.cell R2 2
          have e4 := RawAt.cell R2 4
          simp at e0 e1 e2 e4
          have Q2 := Lib.hid (X1.out.trans (b2.mono X1.out.size))
          clear R2 b2
          go_wp2
          go_ret
          exact ⟨rfl, Q2.out⟩
        · have hn : ¬ (a.id < 1 ∨ a.pl < 0 ∨ n < a.pl ∨ (a.bi ≠ 0 ∧ a.bi ≠ 1)) := by omega
          have HN := Lib.hid hn
          clear hn
          have kb : (a.bi = 0 ∨ a.bi = 1) := by omega
          clear c4 c1 c2 c3
          rcases kb with kb | kb
          · have HK := Lib.hid kb
            have k4 : (a.bi != 0) = false := by simp [kb]
            have k6 : (a.bi == 0) = true := by simp [kb]
            clear kb
            by_cases d1 : 40 < len
            · have m1 : decide (40 < len) = true := decide_eq_true d1
              have m2 : decide ((40 : Int) < (len : Int)) = true := decide_eq_true (by omega)
              have hr : r = 2 := by rw [HR.out, iwr, if_neg HN.out, if_pos (by rw [← HLN.out]; exact d1)]
              subst hr
              clear HR d1
              go_enter Try.func41, Try.ntmps41
              go_wp2_with fail
              rw [← HW1.out]
              go_wp2_with fail
              with_reducible refine (CC.out _).mono ?_
              rintro e w2 ⟨rfl, b2⟩
              have R2 := RawAt.below RR.out b2 RR.out.lt
              have e0 := RawAt.cell R2 0
              have e1 := RawAt.cell R2 1
              have e2 := RawAt.cell R2 2
              have e4 := RawAt.cell R2 4
              simp at e0 e1 e2 e4
              have Q2 := Lib.hid (X1.out.trans (b2.mono X1.out.size))
              clear R2 b2
              go_wp2
              go_ret
              exact ⟨rfl, Q2.out⟩
            · have m1 : decide (40 < len) = false := decide_eq_false d1
              have m2 : decide ((40 : Int) < (len : Int)) = false := decide_eq_false (by omega)
              by_cases d2 : len = 0
              · subst d2
                have hr : r = 4 := by rw [HR.out, iwr, if_neg HN.out, if_neg (by rw [← HLN.out]; omega), if_pos (Or.inl HLN.out.symm)]
                subst hr
                clear HR d1
                go_enter Try.func41, Try.ntmps41
                go_wp2_with fail
                rw [← HW1.out]
                go_wp2_with fail
                with_reducible refine (CC.out _).mono ?_
                rintro e w2 ⟨rfl, b2⟩
                have R2 := RawAt.below RR.out b2 RR.out.lt
                have e0 := RawAt.cell R2 0
                have e1 := RawAt.cell R2 1
                have e2 := RawAt.cell R2 2
                have e4 := RawAt.cell R2 4
                simp at e0 e1 e2 e4
                have Q2 := Lib.hid (X1.out.trans (b2.mono X1.out.size))
                clear R2 b2
                go_wp2
                go_ret
                exact ⟨rfl, Q2.out⟩
              · have m3 : (len == 0) = false := by simp [d2]
                have m4 : decide (len = 0) = false := decide_eq_false d2
                have m5 : ((len : Int) == 0) = false := by simp [d2]
                have m6 : decide ((len : Int) = 0) = false := decide_eq_false (by omega)
                cases hh with
                | true =>
                  have hr : r = 4 := by rw [HR.out, iwr, if_neg HN.out, if_neg (by rw [← HLN.out]; exact d1), if_pos (Or.inr HB.out)]
                  subst hr
                  clear HR d1 d2
                  go_enter Try.func41, Try.ntmps41
                  go_wp2_with fail
                  rw [← HW1.out]
                  go_wp2_with fail
                  with_reducible refine (CC.out _).mono ?_
                  rintro e w2 ⟨rfl, b2⟩
                  have R2 := RawAt.below RR.out b2 RR.out.lt
                  have e0 := RawAt.cell R2 0
                  have e1 := RawAt.cell R2 1
                  have e2 := RawAt.cell R2 2
                  have e4 := RawAt.cell R2 4
                  simp at e0 e1 e2 e4
                  have Q2 := Lib.hid (X1.out.trans (b2.mono X1.out.size))
                  clear R2 b2
                  go_wp2_with fail
                  with_reducible refine (CR.out _).mono ?_
                  rintro e w3 ⟨rfl, rfl⟩
                  go_wp2
                  go_ret
                  exact ⟨rfl, Q2.out⟩
                                | false =>
                  have hr : r = 0 := by rw [HR.out, iwr, if_neg HN.out, if_neg (by rw [← HLN.out]; exact d1), if_neg (by rw [← HLN.out, HB.out]; simp [d2])]
                  subst hr
                  clear HR d1 d2
                  go_enter Try.func41, Try.ntmps41
                  go_wp2_with fail
                  rw [← HW1.out]
                  go_wp2_with fail
                  with_reducible refine (CC.out _).mono ?_
                  rintro e w2 ⟨rfl, b2⟩
                  have R2 := RawAt.below RR.out b2 RR.out.lt
                  have e0 := RawAt.cell R2 0
                  have e1 := RawAt.cell R2 1
                  have e2 := RawAt.cell R2 2
                  have e4 := RawAt.cell R2 4
                  simp at e0 e1 e2 e4
                  have Q2 := Lib.hid (X1.out.trans (b2.mono X1.out.size))
                  clear R2 b2
                  go_wp2_with fail
                  with_reducible refine (CR.out _).mono ?_
                  rintro e w3 ⟨rfl, rfl⟩
                  go_wp2
                  go_ret
                  exact ⟨rfl, Q2.out⟩
          · have HK := Lib.hid kb
            have k4 : (a.bi != 0) = true := by simp [kb]
            have k6 : (a.bi == 0) = false := by simp [kb]
            have k5 : (a.bi != 1) = false := by simp [kb]
            have k7 : (a.bi == 1) = true := by simp [kb]
            clear kb
            by_cases d1 : 40 < len
            · have m1 : decide (40 < len) = true := decide_eq_true d1
              have m2 : decide ((40 : Int) < (len : Int)) = true := decide_eq_true (by omega)
              have hr : r = 2 := by rw [HR.out, iwr, if_neg HN.out, if_pos (by rw [← HLN.out]; exact d1)]
              subst hr
              clear HR d1
              go_enter Try.func41, Try.ntmps41
              go_wp2_with fail
              rw [← HW1.out]
              go_wp2_with fail
              with_reducible refine (CC.out _).mono ?_
              rintro e w2 ⟨rfl, b2⟩
              have R2 := RawAt.below RR.out b2 RR.out.lt
              have e0 := RawAt.cell R2 0
              have e1 := RawAt.cell R2 1
              have e2 := RawAt.cell R2 2
              have e4 := RawAt.cell R2 4
              simp at e0 e1 e2 e4
              have Q2 := Lib.hid (X1.out.trans (b2.mono X1.out.size))
              clear R2 b2
              go_wp2
              go_ret
              exact ⟨rfl, Q2.out⟩
            · have m1 : decide (40 < len) = false := decide_eq_false d1
              have m2 : decide ((40 : Int) < (len : Int)) = false := decide_eq_false (by omega)
              by_cases d2 : len = 0
              · subst d2
                have hr : r = 4 := by rw [HR.out, iwr, if_neg HN.out, if_neg (by rw [← HLN.out]; omega), if_pos (Or.inl HLN.out.symm)]
                subst hr
                clear HR d1
                go_enter Try.func41, Try.ntmps41
                go_wp2_with fail
                rw [← HW1.out]
                go_wp2_with fail
                with_reducible refine (CC.out _).mono ?_
                rintro e w2 ⟨rfl, b2⟩
                have R2 := RawAt.below RR.out b2 RR.out.lt
                have e0 := RawAt.cell R2 0
                have e1 := RawAt.cell R2 1
                have e2 := RawAt.cell R2 2
                have e4 := RawAt.cell R2 4
                simp at e0 e1 e2 e4
                have Q2 := Lib.hid (X1.out.trans (b2.mono X1.out.size))
                clear R2 b2
                go_wp2
                go_ret
                exact ⟨rfl, Q2.out⟩
              · have m3 : (len == 0) = false := by simp [d2]
                have m4 : decide (len = 0) = false := decide_eq_false d2
                have m5 : ((len : Int) == 0) = false := by simp [d2]
                have m6 : decide ((len : Int) = 0) = false := decide_eq_false (by omega)
                cases hh with
                | true =>
                  have hr : r = 4 := by rw [HR.out, iwr, if_neg HN.out, if_neg (by rw [← HLN.out]; exact d1), if_pos (Or.inr HB.out)]
                  subst hr
                  clear HR d1 d2
                  go_enter Try.func41, Try.ntmps41
                  go_wp2_with fail
                  rw [← HW1.out]
                  go_wp2_with fail
                  with_reducible refine (CC.out _).mono ?_
                  rintro e w2 ⟨rfl, b2⟩
                  have R2 := RawAt.below RR.out b2 RR.out.lt
                  have e0 := RawAt.cell R2 0
                  have e1 := RawAt.cell R2 1
                  have e2 := RawAt.cell R2 2
                  have e4 := RawAt.cell R2 4
                  simp at e0 e1 e2 e4
                  have Q2 := Lib.hid (X1.out.trans (b2.mono X1.out.size))
                  clear R2 b2
                  go_wp2_with fail
                  with_reducible refine (CR.out _).mono ?_
                  rintro e w3 ⟨rfl, rfl⟩
                  go_wp2
                  go_ret
                  exact ⟨rfl, Q2.out⟩
                                | false =>
                  have hr : r = 0 := by rw [HR.out, iwr, if_neg HN.out, if_neg (by rw [← HLN.out]; exact d1), if_neg (by rw [← HLN.out, HB.out]; simp [d2])]
                  subst hr
                  clear HR d1 d2
                  go_enter Try.func41, Try.ntmps41
                  go_wp2_with fail
                  rw [← HW1.out]
                  go_wp2_with fail
                  with_reducible refine (CC.out _).mono ?_
                  rintro e w2 ⟨rfl, b2⟩
                  have R2 := RawAt.below RR.out b2 RR.out.lt
                  have e0 := RawAt.cell R2 0
                  have e1 := RawAt.cell R2 1
                  have e2 := RawAt.cell R2 2
                  have e4 := RawAt.cell R2 4
                  simp at e0 e1 e2 e4
                  have Q2 := Lib.hid (X1.out.trans (b2.mono X1.out.size))
                  clear R2 b2
                  go_wp2_with fail
                  with_reducible refine (CR.out _).mono ?_
                  rintro e w3 ⟨rfl, rfl⟩
                  go_wp2
                  go_ret
                  exact ⟨rfl, Q2.out⟩
end Go.Proofs.Ytmijlijgcaaiiaa
