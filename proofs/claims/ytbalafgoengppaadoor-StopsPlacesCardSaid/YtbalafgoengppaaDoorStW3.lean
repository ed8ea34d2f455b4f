/- The law StopsThere. -/
import Derived.Test.YtbalafgoengppaaDoorStW2
namespace Go.Proofs.YtbalafgoengppaaDoor
open Go.RowKit
set_option linter.unusedVariables false
theorem pl_there {D : List Int} {j n : Nat} {e : Ending} (hD : D.length = n) (hj : j ≤ n) (hn : ∀ x ∈ D, 0 ≤ x) (h : PlRes D (D.take j).sum e) : ∃ p : Nat, j ≤ p ∧ p ≤ n ∧ e = .returned (.tuple #[.int .i64 (p : Int), .int .i64 0, .int .i64 0]) ∧ (D.take p).sum = (D.take j).sum := by
  have g0 := sum_take_le D 0 j hn (by omega)
  have g1 := sum_take_le D j D.length hn (by omega)
  rw [List.take_of_length_le (Nat.le_refl D.length)] at g1
  simp at g0
  rcases h with ⟨h | h, _⟩ | ⟨_, _, p, hp, he⟩
  · omega
  · omega
  · obtain ⟨h1, h2, h3⟩ := hp
    have hjp : j ≤ p := by
      rcases Nat.lt_or_ge p j with h | h
      · have := h3 j h (by omega); omega
      · exact h
    have g2 := sum_take_le D j p hn hjp
    have e2 : (D.take p).sum = (D.take j).sum := by omega
    exact ⟨p, hjp, by omega, by rw [he, e2, Int.sub_self], e2⟩
theorem pl_more {f : Int → Int} (hf : ∀ r, 0 ≤ f r ∧ f r ≤ 2) {tab q : Int} {l : List Int} {e : Ending} (t1 : 1 ≤ tab) (t2 : tab ≤ 16) (h1 : 0 ≤ q) (h2 : q ≤ (szs f tab 0 l).sum) (h : PlRes (szs f tab 0 l) q e) :
    ∃ (p : Nat) (m : Int), p ≤ l.length ∧ e = .returned (.tuple #[.int .i64 (p : Int), .int .i64 m, .int .i64 0]) ∧ q = ((szs f tab 0 l).take p).sum + m ∧ 0 ≤ m ∧ (m < tab ∨ m ≤ 1) := by
  have hlen := szs_length f tab l 0
  obtain ⟨hbd, _, _⟩ := szs_bd hf t1 t2 l 0 (by omega)
  rcases h with ⟨h | h, _⟩ | ⟨_, _, p, hp, he⟩
  · omega
  · omega
  · obtain ⟨p1, p2, p3⟩ := hp
    refine ⟨p, q - ((szs f tab 0 l).take p).sum, by omega, he, by omega, by omega, ?_⟩
    rcases Nat.lt_or_ge p l.length with hlt | hge
    · have := p3 (p + 1) (by omega) (by omega)
      obtain ⟨q1, q2⟩ := szs_at f tab hlt
      rw [q2, List.sum_append] at this
      simp only [List.sum_cons, List.sum_nil] at this
      have bs1 := sum_nn ((szs f tab 0 l).take p) (fun y hy => (hbd y (List.mem_of_mem_take hy)).1)
      rw [q1] at this
      unfold csz at this
      split at this
      · have := tleft_bd t1 bs1 (tab := tab); omega
      · have := hf (nth l p); omega
    · rw [List.take_of_length_le (by omega)]
      right; omega
set_option maxHeartbeats 8000000 in
set_option maxRecDepth 100000 in
theorem stopsThere_walk (A : Option Addr) (n c : Nat) (l : List Int) (tab : Int) (w : World) (h : Tabs w) (hA : IntsAt .i32 w A l) (hl : l.length = n) (hn : n ≤ maxLen) (hcc : Caps A n c) (_ : ∀ x ∈ l, (Lit.int .i32 x).wf = true) (_ : Lit.wf (.int .i64 tab)) :
    Calls Tryd.prog 6 #[.slice A n c, .int .i64 tab] w fun e w' => e = .returned (.bool true) ∧ Below w.heap.size w w' := by
  unfold maxLen at hn
  have CT := Lib.hid fun W (hb : Below w.heap.size w W) => stTab_any W (h.below hb)
  have CP := Lib.hid fun W (hb : Below w.heap.size w W) => plain_any W (h.below hb)
  have HA := Lib.hid hA
  have HL := Lib.hid hl
  have hnc := hcc.1
  clear h hA hl hcc
  by_cases g1 : 60 < n
  · have k1 : decide ((60 : Int) < (n : Int)) = true := decide_eq_true (by omega)
    have k2 : decide (60 < n) = true := decide_eq_true g1
    go_enter Tryd.func6, Tryd.ntmps6
    go_wp2_with fail
    with_reducible refine (CT.out _ (Below.refl _ _)).mono ?_
    rintro e w1 ⟨rfl, hb1⟩
    go_wp2
    go_ret
    exact ⟨rfl, hb1⟩
  · have k1 : decide ((60 : Int) < (n : Int)) = false := decide_eq_false (by omega)
    have k2 : decide (60 < n) = false := decide_eq_false g1
    by_cases g2 : 1 ≤ tab ∧ tab ≤ 16
    · obtain ⟨t1, t2⟩ := g2
      have CR := Lib.hid fun W => rsRight_yes tab W t1 t2
      have CC := Lib.hid fun tb W k (hb : Below w.heap.size w W) ht (hk : k ≤ n) => sCell_any (.pointer (some ⟨tb, 0, none⟩)) (wid zeroL wideL) A n c l tab k W (TabV.of ht) (HA.out.below hb) HL.out (by omega) hnc t1 t2 hk
      have CQ := Lib.hid fun tb W q (hb : Below w.heap.size w W) ht => sPlace_any (.pointer (some ⟨tb, 0, none⟩)) (wid zeroL wideL) A n c l tab q W (TabV.of ht) (HA.out.below hb) HL.out (by omega) t1 t2
      have hlen := szs_length (wid zeroL wideL) tab l 0
      rw [HL.out] at hlen
      have HZ := Lib.hid hlen
      obtain ⟨hbd, _, hsum⟩ := szs_bd (wid_bd zeroL wideL) t1 t2 l 0 (by omega)
      rw [HL.out] at hsum
      have HBD := Lib.hid hbd
      have HM := Lib.hid fun q e h1 h2 => pl_more (wid_bd zeroL wideL) (tab := tab) (q := q) (l := l) (e := e) t1 t2 h1 h2
      simp only [← szs_take] at CC
      rw [HL.out] at HM
      clear hlen hbd
      generalize szs (wid zeroL wideL) tab 0 l = D at *
      have HD := Lib.hid fun j e (hj : j ≤ n) => pl_there (D := D) (j := j) (n := n) (e := e) HZ.out hj (fun x hx => (HBD.out x hx).1)
      have HSB := Lib.hid fun (k : Nat) => (⟨sum_nn (D.take k) (fun y hy => (HBD.out y (List.mem_of_mem_take hy)).1), sum_take_le D k (max k D.length) (fun x hx => (HBD.out x hx).1) (by omega)⟩ : 0 ≤ (D.take k).sum ∧ (D.take k).sum ≤ (D.take (max k D.length)).sum)
      have HDS := Lib.hid (List.take_of_length_le (Nat.le_refl D.length))
      obtain ⟨E, hE⟩ : ∃ E, E = D.sum := ⟨_, rfl⟩
      rw [← hE] at hsum
      have HE := Lib.hid hE
      have hE0 : 0 ≤ E := by rw [hE]; exact sum_nn D (fun x hx => (HBD.out x hx).1)
      have CC0 := Lib.hid fun tb W hb ht => CC.out tb W n hb ht (Nat.le_refl n)
      rw [List.take_of_length_le (by rw [HZ.out]; exact Nat.le_refl _), ← hE] at CC0
      have HSN := Lib.hid fun k => sum_nn (D.take k) (fun y hy => (HBD.out y (List.mem_of_mem_take hy)).1)
      have HSU := Lib.hid fun k => sum_le16 (D.take k) (fun y hy => HBD.out y (List.mem_of_mem_take hy))
      clear hE
      go_enter Tryd.func6, Tryd.ntmps6
      go_wp2_with fail
      with_reducible refine (CR.out _).mono ?_
      rintro e w4 ⟨rfl, hw4⟩
      have hw4 := hw4.symm
      subst hw4
      go_wp2_with fail
      with_reducible refine (CP.out _ (Below.refl _ _)).mono ?_
      rintro e w1 ⟨tb, rfl, hb1, ht1⟩
      have CC1 := Lib.hid (CC0.out _ _ hb1 ht1)
      have HB1 := Lib.hid hb1
      clear hb1 ht1 CR CC0
      go_wp2_with fail
      with_reducible refine (CC1.out).mono ?_
      rintro e w3 ⟨rfl, hb3⟩
      have HB3 := Lib.hid (HB1.out.trans (hb3.mono HB1.out.size))
      clear hb3 CC1 HB1
      go_wp2_with fail
      go_loopg [7] (n + 1) (fun g a wr => ∃ (j : Nat), a = .int .i64 j ∧ j ≤ n + 1 ∧ n + 1 - j ≤ g ∧ Hid (Below w.heap.size w wr))
      case atStart => exact ⟨0, rfl, by omega, by omega, HB3⟩
      case round =>
        obtain ⟨j, rfl, h1, h2, hb⟩ := hrel
        by_cases hlt : j ≤ n
        · have k3 : decide (j ≤ n) = true := decide_eq_true hlt
          have k4 : decide ((j : Int) ≤ (n : Int)) = true := decide_eq_true (by omega)
          go_wp2_with fail
          with_reducible refine (CP.out _ hb.out).mono ?_
          rintro e w5 ⟨tb5, rfl, hb5, ht5⟩
          have HB5 := Lib.hid (hb.out.trans (hb5.mono hb.out.size))
          have CC5 := Lib.hid (CC.out _ _ j HB5.out ht5 hlt)
          clear hb hb5 ht5
          go_wp2_with fail
          with_reducible refine (CC5.out).mono ?_
          rintro e w6 ⟨rfl, hb6⟩
          have HB6 := Lib.hid (HB5.out.trans (hb6.mono HB5.out.size))
          clear hb6 CC5 HB5
          go_wp2_with fail
          with_reducible refine (CP.out _ HB6.out).mono ?_
          rintro e w7 ⟨tb7, rfl, hb7, ht7⟩
          have HB7 := Lib.hid (HB6.out.trans (hb7.mono HB6.out.size))
          have CQ7 := Lib.hid (CQ.out _ _ (D.take j).sum HB7.out ht7)
          clear hb7 ht7 HB6
          go_wp2_with fail
          with_reducible refine (CQ7.out).mono ?_
          rintro e w8 ⟨hpl, hb8⟩
          obtain ⟨p, p1, p2, rfl, p3⟩ := HD.out j e hlt hpl
          have HP3 := Lib.hid p3
          have HB8 := Lib.hid (HB7.out.trans (hb8.mono HB7.out.size))
          have k5 : decide (p < j) = false := decide_eq_false (by omega)
          have k6 : decide ((p : Int) < (j : Int)) = false := decide_eq_false (by omega)
          clear hb8 CQ7 HB7 hpl p3
          go_wp2_with fail
          with_reducible refine (CP.out _ HB8.out).mono ?_
          rintro e w9 ⟨tb9, rfl, hb9, ht9⟩
          have HB9 := Lib.hid (HB8.out.trans (hb9.mono HB8.out.size))
          have CC9 := Lib.hid (CC.out _ _ p HB9.out ht9 p2)
          rw [HP3.out] at CC9
          clear hb9 ht9 HB8
          go_wp2_with fail
          with_reducible refine (CC9.out).mono ?_
          rintro e w10 ⟨rfl, hb10⟩
          have HB10 := Lib.hid (HB9.out.trans (hb10.mono HB9.out.size))
          clear hb10 CC9 HB9
          go_wp2
          go_roundg (gk - 1)
          case measure => omega
          case rel => exact ⟨j + 1, by go_num, by omega, by omega, HB10⟩
        · have k3 : decide (j ≤ n) = false := decide_eq_false hlt
          have k4 : decide ((j : Int) ≤ (n : Int)) = false := decide_eq_false (by omega)
          go_wp2_with fail
          go_loopg [15] (E.toNat + 1) (fun g a wr => ∃ (q : Int), a = .int .i64 q ∧ 0 ≤ q ∧ q ≤ E + 1 ∧ E + 1 - q ≤ g ∧ Hid (Below w.heap.size w wr))
          case atStart => exact ⟨0, rfl, by omega, by omega, by omega, hb⟩
          case round =>
            clear hb
            obtain ⟨q, rfl, q1, q2, q3, hb⟩ := hrel
            by_cases hq : q ≤ E
            · go_wp2_with fail
              with_reducible refine (CP.out _ hb.out).mono ?_
              rintro e w5 ⟨tb5, rfl, hb5, ht5⟩
              have HB5 := Lib.hid (hb.out.trans (hb5.mono hb.out.size))
              have CQ5 := Lib.hid (CQ.out _ _ q HB5.out ht5)
              clear hb hb5 ht5
              go_wp2_with fail
              with_reducible refine (CQ5.out).mono ?_
              rintro e w8 ⟨hpl, hb8⟩
              obtain ⟨p, m, p1, rfl, p3, p4, p5⟩ := HM.out q e q1 (by rw [← HE.out]; exact hq) hpl
              have HB8 := Lib.hid (HB5.out.trans (hb8.mono HB5.out.size))
              clear hb8 CQ5 HB5 hpl
              go_wp2_with fail
              with_reducible refine (CP.out _ HB8.out).mono ?_
              rintro e w9 ⟨tb9, rfl, hb9, ht9⟩
              have HB9 := Lib.hid (HB8.out.trans (hb9.mono HB8.out.size))
              have CC9 := Lib.hid (CC.out _ _ p HB9.out ht9 p1)
              have s0 := HSN.out p
              clear hb9 ht9 HB8
              generalize (D.take p).sum = s at *
              subst p3
              have k5 : decide (m < 0) = false := decide_eq_false (by omega)
              go_wp2_with fail
              with_reducible refine (CC9.out).mono ?_
              rintro e w10 ⟨rfl, hb10⟩
              have HB10 := Lib.hid (HB9.out.trans (hb10.mono HB9.out.size))
              clear hb10 CC9 HB9
              by_cases hm : m < tab
              · have k6 : decide (tab ≤ m) = false := decide_eq_false (by omega)
                go_wp2
                go_roundg (gk - 1)
                case measure => omega
                case rel => exact ⟨s + m + 1, rfl, by omega, by omega, by omega, HB10⟩
              · have k6 : decide (tab ≤ m) = true := decide_eq_true (by omega)
                have k7 : decide (1 < m) = false := decide_eq_false (by omega)
                go_wp2
                go_roundg (gk - 1)
                case measure => omega
                case rel => exact ⟨s + m + 1, rfl, by omega, by omega, by omega, HB10⟩
            · go_wp2_with fail
              with_reducible refine (CT.out _ hb.out).mono ?_
              rintro e w8 ⟨rfl, hb8⟩
              have HB8 := Lib.hid (hb.out.trans (hb8.mono hb.out.size))
              clear hb8
              go_wp2
              go_ret
              exact ⟨rfl, HB8.out⟩
    · have CR := Lib.hid fun W => rsRight_no tab W g2
      clear g2
      go_enter Tryd.func6, Tryd.ntmps6
      go_wp2_with fail
      with_reducible refine (CR.out _).mono ?_
      rintro e w4 ⟨rfl, hw4⟩
      have hw4 := hw4.symm
      subst hw4
      go_wp2_with fail
      with_reducible refine (CT.out _ (Below.refl _ _)).mono ?_
      rintro e w1 ⟨rfl, hb1⟩
      go_wp2
      go_ret
      exact ⟨rfl, hb1⟩
end Go.Proofs.YtbalafgoengppaaDoor
