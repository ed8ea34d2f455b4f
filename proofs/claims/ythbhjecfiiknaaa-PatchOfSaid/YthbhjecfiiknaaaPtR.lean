/- Patches: the contracts of the law's small and two. -/
import Derived.Test.YthbhjecfiiknaaaPtQ
import Derived.Test.YthbhjecfiiknaaaPtD
namespace Go.Proofs.Ythbhjecfiiknaaa
open Go.RowKit
set_option linter.unusedVariables false
/-- Is a patch normal, and of small numbers? -/
def SmP (l : List Ch) : Prop := l.length ≤ 60 ∧ nrm M40 0 0 true l ∧ ∀ c ∈ l, c.ob ≤ 2000 ∧ c.nb ≤ 2000
theorem SmP.nrm {l : List Ch} (h : SmP l) : nrm 2000 0 0 true l := nrm_le h.2.1 h.2.2
theorem cth_exists {l : List Ch} {c : Ch} (h : c ∈ l) : ∃ k, k < l.length ∧ cth l k = c := by
  obtain ⟨k, hk, rfl⟩ := List.mem_iff_getElem.1 h
  exact ⟨k, hk, by simp [cth, List.getD, hk]⟩
set_option maxHeartbeats 4000000 in
set_option maxRecDepth 100000 in
theorem psmall_any (A : Option Addr) (m cp : Nat) (l : List Ch) (w : World) (hA : ChsAt w A l) (hl : l.length = m) (r : Bool) (hr : r = true ↔ SmP l) :
    Calls Try.prog 22 #[.slice A m cp] w fun e w' => e = .returned (.bool r) ∧ Below w.heap.size w w' := by
  by_cases h60 : 60 < m
  · have HX := Lib.hid (bf hr (fun h => by have := h.1; omega))
    have k1 : decide (60 < m) = true := decide_eq_true h60
    have k2 : decide ((60 : Int) < (m : Int)) = true := decide_eq_true (by omega)
    clear hA hl hr
    go_enter Try.func22, Try.ntmps22
    go_wp2
    go_ret
    exact ⟨ret_bool HX.out, Below.refl _ _⟩
  · have k1 : decide (60 < m) = false := decide_eq_false h60
    have k2 : decide ((60 : Int) < (m : Int)) = false := decide_eq_false (by omega)
    have CR := Lib.hid (refs_any A m cp l w hA hl (by omega))
    obtain ⟨rn, hrn⟩ : ∃ r : Bool, r = true ↔ nrm M40 0 0 true l := ⟨@decide _ (Classical.propDecidable _), @decide_eq_true_iff _ (Classical.propDecidable _)⟩
    have CN := Lib.hid fun (A' : Option Addr) (c' : Nat) (W : World) (hI : ChsAt W A' l) => rNormal_any A' m c' l W rn hI hl (by omega) hrn
    have HA := Lib.hid hA
    have HL := Lib.hid hl
    have HR := Lib.hid hr
    have HRN := Lib.hid hrn
    have hm : m ≤ 60 := by omega
    clear hA hl hr hrn h60
    go_enter Try.func22, Try.ntmps22
    go_wp2_with fail
    with_reducible refine CR.out.mono ?_
    rintro e w1 ⟨A1, c1, rfl, hI1, _, hb1⟩
    have CN1 := Lib.hid (CN.out A1 c1 w1 hI1)
    clear hI1
    go_wp2_with fail
    with_reducible refine CN1.out.mono ?_
    rintro e w2 ⟨rfl, hb2⟩
    have q2 := hb1.trans (hb2.mono hb1.size)
    cases rn with
    | false =>
      have HX := Lib.hid (bf HR.out (fun h => absurd (HRN.out.2 h.2.1) (by decide)))
      clear CR CN CN1
      go_wp2
      go_ret
      exact ⟨ret_bool HX.out, q2⟩
    | true =>
      clear CR CN CN1
      go_wp2_with fail
      go_loopg [16] m (fun g i wr => ∃ (j : Nat), i = .int .i64 j ∧ j ≤ m ∧ m - j ≤ g ∧ Below w.heap.size w wr ∧ Hid (∀ k, k < j → (cth l k).ob ≤ 2000 ∧ (cth l k).nb ≤ 2000))
      case atStart => exact ⟨0, rfl, by omega, by omega, q2, Lib.hid (fun k hk => absurd hk (Nat.not_lt_zero _))⟩
      case round =>
        obtain ⟨j, rfl, j1, j2, hb, hall⟩ := hrel
        by_cases hlt : j < m
        · have hjl : j < l.length := by rw [HL.out]; exact hlt
          obtain ⟨bA, off, rfl, hbA, d0, d1, d2, d3⟩ := (HA.out.below hb).at1 hjl
          have HAL := Lib.hid fun (h : (cth l j).ob ≤ 2000 ∧ (cth l j).nb ≤ 2000) => (fun k hk => by
            rcases Nat.lt_succ_iff_lt_or_eq.1 hk with hk | rfl
            · exact hall.out k hk
            · exact h : ∀ k, k < j + 1 → (cth l k).ob ≤ 2000 ∧ (cth l k).nb ≤ 2000)
          have HNO := Lib.hid fun (h : ¬ ((cth l j).ob ≤ 2000 ∧ (cth l j).nb ≤ 2000)) => bf HR.out (fun hs => h (hs.2.2 _ (cth_mem hjl)))
          clear hall
          generalize cth l j = c at *
          have i1 : (0 : Int) ≤ j := by omega
          have i2 : (j : Int) < m := by omega
          have x3 : Below wr.heap.size wr (wr.alloc (.cells #[.int .i64 c.oa, .int .i64 c.ob, .int .i64 c.na, .int .i64 c.nb] 56)) := (Below.refl _ _).alloc (Nat.le_refl _) _
          have a3 := hb.trans (x3.mono hb.size)
          by_cases b1 : 2000 < c.ob
          · have HX := Lib.hid (HNO.out (by omega))
            have k3 : decide (2000 < c.ob) = true := decide_eq_true b1
            clear HNO HAL
            go_wp2
            go_ret
            exact ⟨ret_bool HX.out, a3⟩
          · have k3 : decide (2000 < c.ob) = false := decide_eq_false b1
            by_cases b2 : 2000 < c.nb
            · have HX := Lib.hid (HNO.out (by omega))
              have k4 : decide (2000 < c.nb) = true := decide_eq_true b2
              clear HNO HAL
              go_wp2
              go_ret
              exact ⟨ret_bool HX.out, a3⟩
            · have k4 : decide (2000 < c.nb) = false := decide_eq_false b2
              have HA2 := Lib.hid (HAL.out (by omega))
              clear HNO HAL
              go_wp2
              go_roundg (gk - 1)
              case measure => omega
              case rel => exact ⟨j + 1, by go_num, by omega, by omega, a3, HA2⟩
        · have hj : j = m := by omega
          have HX := Lib.hid (bt HR.out ⟨by have := HL.out; omega, HRN.out.1 (by first | rfl | trivial), fun c hc => by
            obtain ⟨k, hk, rfl⟩ := cth_exists hc
            exact hall.out k (by have := HL.out; omega)⟩)
          go_wp2
          go_ret
          exact ⟨ret_bool HX.out, hb⟩
def l2 : List Ch := [⟨2, 4, 2, 3⟩]
theorem l2_nrm : nrm M40 0 0 true l2 := ⟨⟨by decide, by decide, by decide, by decide, by decide, by decide, by decide, by decide, by decide, fun h => absurd h (by decide)⟩, trivial⟩
set_option maxHeartbeats 4000000 in
set_option maxRecDepth 100000 in
theorem ptwo_any (w : World) : Calls Try.prog 9 #[] w fun e w' => e = .returned (.bool true) ∧ Below w.heap.size w w' := by
  have x1 : Below w.heap.size w (w.alloc (.cells #[.int .i64 2, .int .i64 4, .int .i64 2, .int .i64 3] 56)) := (Below.refl _ _).alloc (Nat.le_refl _) _
  have hI : ChsAt (w.alloc (.cells #[.int .i64 2, .int .i64 4, .int .i64 2, .int .i64 3] 56)) (some ⟨w.heap.size, 0, none⟩) l2 := chs_of_block (t := 56) (heap_alloc_new w _) rfl
  have C1 := Lib.hid fun (W : World) (hW : Below _ _ W) => pMap_yes (some ⟨w.heap.size, 0, none⟩) 1 1 l2 3 0 W (hI.below hW) rfl (by decide) l2_nrm (by decide) (by decide) (.inl rfl)
  have C2 := Lib.hid fun (W : World) (hW : Below _ _ W) => pMap_yes (some ⟨w.heap.size, 0, none⟩) 1 1 l2 3 1 W (hI.below hW) rfl (by decide) l2_nrm (by decide) (by decide) (.inr rfl)
  have C3 := Lib.hid fun (W : World) (hW : Below _ _ W) => pMap_yes (some ⟨w.heap.size, 0, none⟩) 1 1 l2 5 0 W (hI.below hW) rfl (by decide) l2_nrm (by decide) (by decide) (.inl rfl)
  have C4 := Lib.hid fun (W : World) (hW : Below _ _ W) => pNormal_any (some ⟨w.heap.size, 0, none⟩) 1 1 l2 W true (hI.below hW) rfl (by decide) ⟨fun _ => l2_nrm, fun _ => rfl⟩
  have C5 := Lib.hid fun (W : World) (hW : Below _ _ W) => pDelta_any (some ⟨w.heap.size, 0, none⟩) 1 1 l2 W (hI.below hW) rfl (by decide) (nrm_mem l2_nrm)
  rw [show mp 0 0 l2 3 0 = 2 from by decide] at C1
  rw [show mp 0 0 l2 3 1 = 3 from by decide] at C2
  rw [show mp 0 0 l2 5 0 = 4 from by decide] at C3
  rw [show dlt l2 = -1 from by decide] at C5
  clear hI
  go_enter Try.func9, Try.ntmps9
  go_wp2_with fail
  generalize w.alloc (.cells #[.int .i64 2, .int .i64 4, .int .i64 2, .int .i64 3] 56) = W1 at *
  with_reducible refine (C1.out _ (Below.refl _ _)).mono ?_
  rintro e w2 ⟨rfl, hb2⟩
  go_wp2_with fail
  with_reducible refine (C2.out _ hb2).mono ?_
  rintro e w3 ⟨rfl, hb3⟩
  have q3 := hb2.trans (hb3.mono hb2.size)
  go_wp2_with fail
  with_reducible refine (C3.out _ q3).mono ?_
  rintro e w4 ⟨rfl, hb4⟩
  have q4 := q3.trans (hb4.mono q3.size)
  go_wp2_with fail
  with_reducible refine (C4.out _ q4).mono ?_
  rintro e w5 ⟨rfl, hb5⟩
  have q5 := q4.trans (hb5.mono q4.size)
  go_wp2_with fail
  with_reducible refine (C5.out _ q5).mono ?_
  rintro e w6 ⟨rfl, hb6⟩
  have q6 := q5.trans (hb6.mono q5.size)
  go_wp2
  go_ret
  exact ⟨rfl, x1.trans (q6.mono x1.size)⟩
end Go.Proofs.Ythbhjecfiiknaaa
