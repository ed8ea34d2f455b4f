/- The laws StopsEnd, StopsThere. -/
import Derived.Test.YtbalafgoengppaaDoorStW1
namespace Go.Proofs.YtbalafgoengppaaDoor
open Go.RowKit
set_option linter.unusedVariables false
theorem szs_at (f : Int → Int) (tab : Int) {l : List Int} {j : Nat} (h : j < l.length) : nth (szs f tab 0 l) j = csz f tab ((szs f tab 0 l).take j).sum (nth l j) ∧ (szs f tab 0 l).take (j + 1) = (szs f tab 0 l).take j ++ [nth (szs f tab 0 l) j] := by
  have hlen := szs_length f tab l 0
  have e1 : nth (szs f tab 0 l) j = (szs f tab 0 l)[j]'(by omega) := by simp [nth, List.getD, hlen, h]
  have e2 : nth l j = l[j] := by simp [nth, List.getD, h]
  have h1 := szs_append f tab (l.take j) (l.drop j) 0
  rw [List.take_append_drop, Int.zero_add, List.drop_eq_getElem_cons h, szs] at h1
  rw [e1, e2, szs_take]
  refine ⟨?_, by rw [List.take_succ_eq_append_getElem (by omega), szs_take]⟩
  have hl2 : (szs f tab 0 (l.take j)).length = j := by rw [szs_length, List.length_take]; omega
  have h2 : (szs f tab 0 l)[j]? = some (csz f tab (szs f tab 0 (l.take j)).sum l[j]) := by
    rw [h1, List.getElem?_append_right (by omega), hl2, Nat.sub_self]
    rfl
  rw [List.getElem?_eq_getElem (by omega)] at h2
  injection h2
set_option maxHeartbeats 4000000 in
set_option maxRecDepth 100000 in
theorem stopsEnd_walk (A : Option Addr) (n c : Nat) (l : List Int) (tab : Int) (w : World) (h : Tabs w) (hA : IntsAt .i32 w A l) (hl : l.length = n) (hn : n ≤ maxLen) (_ : Caps A n c) (_ : ∀ x ∈ l, (Lit.int .i32 x).wf = true) (_ : Lit.wf (.int .i64 tab)) :
    Calls Tryd.prog 5 #[.slice A n c, .int .i64 tab] w fun e w' => e = .returned (.bool true) ∧ Below w.heap.size w w' := by
  unfold maxLen at hn
  have CT := Lib.hid fun W (hb : Below w.heap.size w W) => stTab_any W (h.below hb)
  have CP := Lib.hid fun W (hb : Below w.heap.size w W) => plain_any W (h.below hb)
  have HA := Lib.hid hA
  have HL := Lib.hid hl
  clear h hA hl
  by_cases g1 : 500 < n
  · have k1 : decide ((500 : Int) < (n : Int)) = true := decide_eq_true (by omega)
    have k2 : decide (500 < n) = true := decide_eq_true g1
    go_enter Tryd.func5, Tryd.ntmps5
    go_wp2_with fail
    with_reducible refine (CT.out _ (Below.refl _ _)).mono ?_
    rintro e w1 ⟨rfl, hb1⟩
    go_wp2
    go_ret
    exact ⟨rfl, hb1⟩
  · have k1 : decide ((500 : Int) < (n : Int)) = false := decide_eq_false (by omega)
    have k2 : decide (500 < n) = false := decide_eq_false g1
    by_cases g2 : 1 ≤ tab ∧ tab ≤ 16
    · obtain ⟨t1, t2⟩ := g2
      have CR := Lib.hid fun W => rsRight_yes tab W t1 t2
      have CS := Lib.hid fun tb W (hb : Below w.heap.size w W) ht => sSizes_any (.pointer (some ⟨tb, 0, none⟩)) (wid zeroL wideL) A n c l tab W (TabV.of ht) (HA.out.below hb) HL.out (by omega) t1 t2
      have hlen := szs_length (wid zeroL wideL) tab l 0
      rw [HL.out] at hlen
      have HZ := Lib.hid hlen
      have HAT := Lib.hid fun j (hj : j < n) => szs_at (wid zeroL wideL) tab (show j < l.length by rw [HL.out]; exact hj)
      obtain ⟨hbd, _, _⟩ := szs_bd (wid_bd zeroL wideL) t1 t2 l 0 (by omega)
      have HBD := Lib.hid hbd
      clear hlen hbd
      generalize szs (wid zeroL wideL) tab 0 l = D at *
      go_enter Tryd.func5, Tryd.ntmps5
      go_wp2_with fail
      with_reducible refine (CR.out _).mono ?_
      rintro e w4 ⟨rfl, hw4⟩
      have hw4 := hw4.symm
      subst hw4
      go_wp2_with fail
      with_reducible refine (CP.out _ (Below.refl _ _)).mono ?_
      rintro e w1 ⟨tb, rfl, hb1, ht1⟩
      have CS1 := Lib.hid (CS.out _ _ hb1 ht1)
      have HB1 := Lib.hid hb1
      clear hb1 ht1 CS CR
      go_wp2_with fail
      with_reducible refine (CS1.out).mono ?_
      rintro e w3 ⟨v3, rfl, o3, hb3⟩
      obtain ⟨A3, c3, rfl, I3, _, _⟩ := IntsAt.of_own o3
      have HI3 := Lib.hid I3
      have HB3 := Lib.hid (HB1.out.trans (hb3.mono HB1.out.size))
      clear o3 hb3 I3 CS1 HB1
      go_wp2_with fail
      go_loopg [7, 8, 9, 37] n (fun g a x y i wr => ∃ (j : Nat) (p : Int), i = .int .i64 j ∧ j ≤ n ∧ n - j ≤ g ∧ w3 = wr ∧ a = .int .i64 p ∧ Hid (p = (D.take j).sum))
      case atStart => exact ⟨0, 0, rfl, by omega, by omega, rfl, rfl, Lib.hid (by simp)⟩
      case round =>
        obtain ⟨j, p, rfl, h1, h2, rfl, rfl, hp⟩ := hrel
        by_cases hlt : j < n
        · obtain ⟨b, off, rfl, hb, hc⟩ := HI3.out (by rw [HZ.out]; omega)
          have c1 := hc j (by rw [HZ.out]; exact hlt)
          obtain ⟨bA, offA, rfl, hbA, hcA⟩ := (HA.out.below HB3.out) (by rw [HL.out]; omega)
          have d1 := hcA j (by rw [HL.out]; exact hlt)
          obtain ⟨q1, q2⟩ := HAT.out j hlt
          rw [← hp.out] at q1
          have bs1 := sum_nn (D.take j) (fun y hy => (HBD.out y (List.mem_of_mem_take hy)).1)
          have bs2 := sum_le16 (D.take j) (fun y hy => HBD.out y (List.mem_of_mem_take hy))
          rw [List.length_take, HZ.out, ← hp.out] at bs2
          rw [← hp.out] at bs1
          have bx := HBD.out (nth D j) (by simp only [nth, List.getD, List.getElem?_eq_getElem (show j < D.length by rw [HZ.out]; exact hlt), Option.getD_some]; exact List.getElem_mem _)
          have HP2 : Hid (p + nth D j = (D.take (j + 1)).sum) := Lib.hid (by rw [q2, List.sum_append, ← hp.out]; simp)
          have HQ1 := Lib.hid q1
          have bs3 : p ≤ 16 * n := by omega
          clear hc hcA q1 q2 bs2 hp
          generalize nth D j = x at *
          generalize nth l j = r at *
          obtain ⟨b1, b2⟩ := bx
          have i1 : (0 : Int) ≤ j := by omega
          have i2 : (j : Int) < n := by omega
          by_cases hr : r = 9
          · subst hr
            have hx : x = tleft tab p := by rw [HQ1.out]; unfold csz; rw [if_pos rfl]
            obtain ⟨t3, t4⟩ := tleft_bd t1 bs1 (tab := tab)
            rw [← hx] at t3 t4
            have k3 : decide (x < 1) = false := decide_eq_false (by omega)
            have k4 : decide (tab < x) = false := decide_eq_false (by omega)
            by_cases h64 : p < 64
            · have heq : (p + x) % tab = 0 := by rw [hx]; unfold tleft; rw [if_pos h64]; exact tab_eq t1
              have k5 : ((p + x) % tab != 0) = false := by simpa using heq
              have k6 : ((p + x) % tab == 0) = true := by simpa using heq
              have k7 : decide (64 ≤ p) = false := decide_eq_false (by omega)
              have k8 : decide (p < 64) = true := decide_eq_true h64
              clear heq hx HQ1
              go_wp2_with fail
              go_roundg (gk - 1)
              case measure => omega
              case rel => exact ⟨j + 1, p + x, by go_num, by omega, by omega, rfl, rfl, HP2⟩
            · have hx1 : x = 1 := by rw [hx]; unfold tleft; rw [if_neg h64]
              have k7 : decide (64 ≤ p) = true := decide_eq_true (by omega)
              have k8 : decide (p < 64) = false := decide_eq_false h64
              clear hx HQ1
              subst hx1
              go_wp2_with fail
              go_roundg (gk - 1)
              case measure => omega
              case rel => exact ⟨j + 1, p + 1, by go_num, by omega, by omega, rfl, rfl, HP2⟩
          · have k3 : (r == 9) = false := by simpa using hr
            clear HQ1 hr
            go_wp2_with fail
            go_roundg (gk - 1)
            case measure => omega
            case rel => exact ⟨j + 1, p + x, by go_num, by omega, by omega, rfl, rfl, HP2⟩
        · go_wp2_with fail
          with_reducible refine (CT.out _ HB3.out).mono ?_
          rintro e w8 ⟨rfl, hb8⟩
          have HB8 := Lib.hid (HB3.out.trans (hb8.mono HB3.out.size))
          clear hb8
          go_wp2
          go_ret
          exact ⟨rfl, HB8.out⟩
    · have CR := Lib.hid fun W => rsRight_no tab W g2
      clear g2
      go_enter Tryd.func5, Tryd.ntmps5
      go_wp2_with fail
      with_reducible refine (CR.out _).mono ?_
      rintro e w4 ⟨rfl, hw4⟩
      have hw4 := hw4.symm
      subst hw4
      go_wp2_with fail
      with_reducible refine (CT.out _ (Below.refl _ _)).mono ?_
      rintro e w1 ⟨rfl, hb1⟩
      go_wp2
      go_ret
      exact ⟨rfl, hb1⟩
end Go.Proofs.YtbalafgoengppaaDoor
