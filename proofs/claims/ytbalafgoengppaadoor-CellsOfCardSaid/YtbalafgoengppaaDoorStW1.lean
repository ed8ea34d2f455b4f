/- The laws StopsSizes, StopsNil. -/
import Derived.Test.YtbalafgoengppaaDoorStT
namespace Go.Proofs.YtbalafgoengppaaDoor
open Go.RowKit
set_option linter.unusedVariables false
set_option maxHeartbeats 4000000 in
set_option maxRecDepth 100000 in
theorem stopsSizes_walk (A : Option Addr) (n c : Nat) (l : List Int) (tab : Int) (w : World) (h : Tabs w) (hA : IntsAt .i32 w A l) (hl : l.length = n) (hn : n ≤ maxLen) (_ : Caps A n c) (_ : ∀ x ∈ l, (Lit.int .i32 x).wf = true) (_ : Lit.wf (.int .i64 tab)) :
    Calls Tryd.prog 3 #[.slice A n c, .int .i64 tab] w fun e w' => e = .returned (.bool true) ∧ Below w.heap.size w w' := by
  unfold maxLen at hn
  have CT := Lib.hid fun W (hb : Below w.heap.size w W) => stTab_any W (h.below hb)
  have CP := Lib.hid fun W (hb : Below w.heap.size w W) => plain_any W (h.below hb)
  have HA := Lib.hid hA
  have HL := Lib.hid hl
  clear h hA hl
  by_cases g1 : 500 < n
  · go_enter Tryd.func3, Tryd.ntmps3
    go_wp2_with fail
    with_reducible refine (CT.out _ (Below.refl _ _)).mono ?_
    rintro e w1 ⟨rfl, hb1⟩
    go_wp2
    go_ret
    exact ⟨rfl, hb1⟩
  · have hlen := szs_length (wid zeroL wideL) tab l 0
    rw [HL.out] at hlen
    have HZ := Lib.hid hlen
    clear hlen
    by_cases g2 : 1 ≤ tab ∧ tab ≤ 16
    · obtain ⟨t1, t2⟩ := g2
      have CR := Lib.hid fun W => rsRight_yes tab W t1 t2
      have CS := Lib.hid fun tb W (hb : Below w.heap.size w W) ht => sSizes_any (.pointer (some ⟨tb, 0, none⟩)) (wid zeroL wideL) A n c l tab W (TabV.of ht) (HA.out.below hb) HL.out (by omega) t1 t2
      have CQ := Lib.hid fun tb W (hb : Below w.heap.size w W) ht => rsSizes_any tb zeroL wideL A n c l tab W ht (HA.out.below hb) HL.out (by omega) t1 t2
      generalize szs (wid zeroL wideL) tab 0 l = D at *
      have CI := Lib.hid fun A B c d W hA hB => pints_any A B n c d D W hA hB HZ.out (by omega)
      clear t1 t2
      go_enter Tryd.func3, Tryd.ntmps3
      go_wp2_with fail
      with_reducible refine (CP.out _ (Below.refl _ _)).mono ?_
      rintro e w1 ⟨tb, rfl, hb1, ht1⟩
      have CS1 := Lib.hid (CS.out _ _ hb1 ht1)
      have HB1 := Lib.hid hb1
      clear hb1 ht1 CS
      go_wp2_with fail
      with_reducible refine (CS1.out).mono ?_
      rintro e w3 ⟨v3, rfl, o3, hb3⟩
      obtain ⟨A3, c3, rfl, I3, _, _⟩ := IntsAt.of_own o3
      have HI3 := Lib.hid I3
      have HB3 := Lib.hid (HB1.out.trans (hb3.mono HB1.out.size))
      clear o3 hb3 I3 CS1 HB1
      go_wp2_with fail
      with_reducible refine (CR.out _).mono ?_
      rintro e w4 ⟨rfl, hw4⟩
      have hw4 := hw4.symm
      subst hw4
      go_wp2_with fail
      with_reducible refine (rplain_any _).mono ?_
      rintro e w5 ⟨tb5, rfl, hb5, ht5⟩
      have HI5 := Lib.hid (HI3.out.below hb5)
      have HB5 := Lib.hid (HB3.out.trans (hb5.mono HB3.out.size))
      have CQ5 := Lib.hid (CQ.out _ _ HB5.out ht5)
      clear hb5 ht5 CQ HI3 HB3 CR
      go_wp2_with fail
      with_reducible refine (CQ5.out).mono ?_
      rintro e w6 ⟨v6, rfl, o6, hb6⟩
      obtain ⟨A6, c6, rfl, I6, _, _⟩ := IntsAt.of_own o6
      have CI6 := Lib.hid (CI.out A3 A6 c3 c6 _ (HI5.out.below hb6) I6)
      have HB6 := Lib.hid (HB5.out.trans (hb6.mono HB5.out.size))
      clear hb6 I6 o6 CI CQ5 HB5 HI5
      go_wp2_with fail
      with_reducible refine (CI6.out).mono ?_
      rintro e w7 ⟨rfl, hb7⟩
      have HB7 := Lib.hid (HB6.out.trans (hb7.mono HB6.out.size))
      clear hb7 CI6 HB6
      go_wp2_with fail
      with_reducible refine (CT.out _ HB7.out).mono ?_
      rintro e w8 ⟨rfl, hb8⟩
      have HB8 := Lib.hid (HB7.out.trans (hb8.mono HB7.out.size))
      clear hb8
      go_wp2
      go_ret
      exact ⟨rfl, HB8.out⟩
    · have CR := Lib.hid fun W => rsRight_no tab W g2
      have CS := Lib.hid fun tb W => sSizes_no (.pointer (some ⟨tb, 0, none⟩)) A n c tab W g2
      clear g2
      go_enter Tryd.func3, Tryd.ntmps3
      go_wp2_with fail
      with_reducible refine (CP.out _ (Below.refl _ _)).mono ?_
      rintro e w1 ⟨tb, rfl, hb1, ht1⟩
      have HB1 := Lib.hid hb1
      clear hb1 ht1
      go_wp2_with fail
      with_reducible refine (CS.out _ _).mono ?_
      rintro e w3 ⟨rfl, hb3⟩
      have HB3 := Lib.hid (HB1.out.trans (hb3.mono HB1.out.size))
      clear hb3 HB1
      go_wp2_with fail
      with_reducible refine (CR.out _).mono ?_
      rintro e w4 ⟨rfl, hw4⟩
      have hw4 := hw4.symm
      subst hw4
      go_wp2_with fail
      with_reducible refine (CT.out _ HB3.out).mono ?_
      rintro e w8 ⟨rfl, hb8⟩
      have HB8 := Lib.hid (HB3.out.trans (hb8.mono HB3.out.size))
      clear hb8
      go_wp2
      go_ret
      exact ⟨rfl, HB8.out⟩
theorem szs_one : ∀ (l : List Int) (a : Int), szs (fun _ => 1) 1 a l = List.replicate l.length 1
  | [], _ => rfl
  | r :: l, a => by
    have : csz (fun _ => 1) 1 a r = 1 := by
      unfold csz tleft
      split
      · split
        · have := Int.emod_one a; omega
        · rfl
      · rfl
    rw [szs, this, szs_one l, List.length_cons, List.replicate_succ]
set_option maxHeartbeats 4000000 in
set_option maxRecDepth 100000 in
theorem stopsNil_walk (A : Option Addr) (n c : Nat) (l : List Int) (w : World) (h : Tabs w) (hA : IntsAt .i32 w A l) (hl : l.length = n) (hn : n ≤ maxLen) (_ : Caps A n c) (_ : ∀ x ∈ l, (Lit.int .i32 x).wf = true) :
    Calls Tryd.prog 7 #[.slice A n c] w fun e w' => e = .returned (.bool true) ∧ Below w.heap.size w w' := by
  unfold maxLen at hn
  have CT := Lib.hid fun W (hb : Below w.heap.size w W) => stTab_any W (h.below hb)
  have HA := Lib.hid hA
  have HL := Lib.hid hl
  clear h hA hl
  by_cases g1 : 500 < n
  · go_enter Tryd.func7, Tryd.ntmps7
    go_wp2_with fail
    with_reducible refine (CT.out _ (Below.refl _ _)).mono ?_
    rintro e w1 ⟨rfl, hb1⟩
    go_wp2
    go_ret
    exact ⟨rfl, hb1⟩
  · have CS := Lib.hid (sSizes_any (.pointer none) (fun _ => 1) A n c l 1 w (.inr ⟨rfl, rfl⟩) HA.out HL.out (by omega) (by omega) (by omega))
    rw [szs_one, HL.out] at CS
    go_enter Tryd.func7, Tryd.ntmps7
    go_wp2_with fail
    with_reducible refine (CS.out).mono ?_
    rintro e w3 ⟨v3, rfl, o3, hb3⟩
    obtain ⟨A3, c3, rfl, I3, _, _⟩ := IntsAt.of_own o3
    have HI3 := Lib.hid I3
    have HB3 := Lib.hid hb3
    clear o3 hb3 I3 CS
    go_wp2_with fail
    go_loopg [7, 29] n (fun g x i wr => ∃ (j : Nat), i = .int .i64 j ∧ j ≤ n ∧ n - j ≤ g ∧ w3 = wr)
    case atStart => exact ⟨0, rfl, by omega, by omega, rfl⟩
    case round =>
      obtain ⟨j, rfl, h1, h2, rfl⟩ := hrel
      by_cases hlt : j < n
      · obtain ⟨b, off, rfl, hb, hc⟩ := HI3.out (by rw [List.length_replicate]; omega)
        have c1 := hc j (by rw [List.length_replicate]; exact hlt)
        rw [show nth (List.replicate n 1) j = 1 from by simp [nth, List.getD, hlt]] at c1
        clear hc
        have i1 : (0 : Int) ≤ j := by omega
        have i2 : (j : Int) < n := by omega
        go_wp2_with fail
        go_roundg (gk - 1)
        case measure => omega
        case rel => exact ⟨j + 1, by go_num, by omega, by omega, rfl⟩
      · go_wp2_with fail
        with_reducible refine (CT.out _ HB3.out).mono ?_
        rintro e w8 ⟨rfl, hb8⟩
        have HB8 := Lib.hid (HB3.out.trans (hb8.mono HB3.out.size))
        clear hb8
        go_wp2
        go_ret
        exact ⟨rfl, HB8.out⟩
end Go.Proofs.YtbalafgoengppaaDoor
