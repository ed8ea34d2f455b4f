/- The walks of the laws BreaksFit, BreaksWords. -/
import Derived.Test.YtnlhpbnonmdkdaaBrW2
namespace Go.Proofs.Ytnlhpbnonmdkdaa
open Go.RowKit
set_option linter.unusedVariables false
theorem npos_snoc {l : List Cl} {i : Nat} (h : i < l.length) : npos (l.take (i + 1)) = npos (l.take i) + (if 0 < l[i].wd then 1 else 0) := by
  rw [List.take_succ_eq_append_getElem h]
  unfold npos
  rw [List.filter_append, List.length_append]
  by_cases g : 0 < l[i].wd <;> simp [g]
theorem npos_le (l : List Cl) : npos l ≤ l.length := List.length_filter_le _ _
set_option maxHeartbeats 4000000 in
set_option maxRecDepth 100000 in
theorem breaksFit_walk (A : Option Addr) (n c : Nat) (l : List Cl) (a b : Int) (w : World) (hA : RowsAt encC 4 w A l) (hl : l.length = n) (hn : n ≤ maxLen) (hc : Caps A n c) (hO : ∀ s ∈ l, ClOk s) :
    Calls Try.prog 6 #[.slice A n c, .agg #[.int .i64 a, .int .i64 b]] w fun e w' => e = .returned (.bool true) ∧ Below w.heap.size w w' := by
  obtain ⟨w0, hw0⟩ : ∃ w0, w.alloc (.cells #[.int .i64 a, .int .i64 b] 28) = w0 := ⟨_, rfl⟩
  have x0 : Below w.heap.size w w0 := by rw [← hw0]; exact (Below.refl _ _).alloc (Nat.le_refl _) _
  have R0 : RawAt 28 w0 w.heap.size #[.int .i64 a, .int .i64 b] := by rw [← hw0]; exact heap_alloc_new w _
  have HR0 := Lib.hid R0
  have HX0 := Lib.hid x0
  have hA0 := hA.below x0
  by_cases hr : n ≤ 200 ∧ W02 l
  · have CR := Lib.hid (right19_any A n c l w0 hA0 hl true (by simp [hr]))
    have CA := Lib.hid fun (W : World) (hW : Below w0.heap.size w0 W) => bAll A n c a b l W (hA0.below hW) hl hc (by omega) hr.2
    have hlen := allN_len l a b
    rw [hl] at hlen
    have hn2 : n ≤ 200 := hr.1
    have HA := Lib.hid hA0
    have HL := Lib.hid hl
    have HC := Lib.hid hc
    have HW := Lib.hid hr.2
    obtain ⟨L, hLe⟩ : ∃ L, allN l a b = L := ⟨_, rfl⟩
    have HLE := Lib.hid hLe
    rw [hLe] at hlen CA
    obtain ⟨m, hm⟩ : ∃ m, L.length = m := ⟨_, rfl⟩
    rw [hm] at hlen CA
    have HM := Lib.hid hm
    clear hm hA hl hn hc hO hr x0 R0 hA0 hLe
    go_enter Try.func6, Try.ntmps6
    go_wp2_with (first | (go_at_call 15; refine (CR.out).mono ?_; rintro e w1 ⟨rfl, hb1⟩; have HB1 := Lib.hid hb1; clear hb1; have R1 := RawAt.below HR0.out HB1.out HR0.out.lt; have c2 := RawAt.cell R1 0; have c3 := RawAt.cell R1 1; clear R1; simp at c2 c3) | (go_at_call 22; refine (CA.out _ HB1.out).mono ?_; rintro e w3 ⟨v3, rfl, ho3, hb3⟩; obtain ⟨A5, c5, rfl, hI5, _, _⟩ := IntsAt.of_own (kd := .i64) ho3; have HI5 := Lib.hid hI5; have HB3 := Lib.hid (HB1.out.trans (hb3.mono HB1.out.size)); clear hI5 ho3 hb3))
    clear c2 c3
    go_loopg [5, 23] m (fun g s i wr => ∃ (j t : Nat) (R : List Nat), i = .int .i64 (j : Int) ∧ s = .int .i64 (t : Int) ∧ j ≤ m ∧ m - j ≤ g ∧ t ≤ n ∧ Hid (R = L.drop j) ∧ Hid (j = 0 → R = allN l a b ∧ t = 0) ∧ Hid (0 < j → R = rsts (l.drop t) b) ∧ Hid (Below w3.heap.size w3 wr))
    case atStart => exact ⟨0, 0, L, rfl, rfl, by omega, by omega, by omega, Lib.hid (by simp), Lib.hid (fun _ => ⟨HLE.out.symm, rfl⟩), Lib.hid (fun h => by omega), Lib.hid (Below.refl _ _)⟩
    case round =>
      obtain ⟨j, t, R, rfl, rfl, h1, h2, h3, hR, hz, hs, hb⟩ := hrel
      have HB4 := Lib.hid (HB3.out.trans (hb.out.mono HB3.out.size))
      by_cases hlt : j < m
      · have hjL : j < L.length := by rw [HM.out]; exact hlt
        obtain ⟨bA, off, rfl, hbA, d0⟩ := ints_cell (HI5.out.below hb.out) hjL
        obtain ⟨here, hhere⟩ : ∃ h : Int, h = if j = 0 then a else b := ⟨_, rfl⟩
        obtain ⟨k, hRk, hk1, hk2⟩ := row_next (here := here) HW.out (fun e => ⟨(hz.out e).1, (hz.out e).2, by rw [hhere, if_pos e]⟩) (fun e => ⟨hs.out e, by rw [hhere, if_neg (by omega)]⟩) (R := R) (by rw [hR.out, List.length_drop]; omega)
        have hLk : L[j] = k := by
          have e1 := hR.out.symm.trans hRk
          rw [List.drop_eq_getElem_cons hjL] at e1
          exact (List.cons.inj e1).1
        have hR2 : rsts (l.drop (t + k)) b = L.drop (j + 1) := by
          have e1 := hR.out.symm.trans hRk
          rw [List.drop_eq_getElem_cons hjL] at e1
          exact (List.cons.inj e1).2.symm
        have HR2 := Lib.hid hR2
        rw [List.length_drop, HL.out] at hk1
        have HFIT := Lib.hid hk2
        rw [hLk] at d0
        have HD0 := Lib.hid d0
        clear hR2 hk2 hRk hLk hz hs hR
        have i1 : (0 : Int) ≤ j := by omega
        have i2 : (j : Int) < m := by omega
        have i3 : decide ((k : Int) < 0) = false := decide_eq_false (by omega)
        have i4 : decide ((n : Int) - t < k) = false := decide_eq_false (by omega)
        have htk : t + k ≤ n := by omega
        have hsl : ∀ W, (Instr.slice 22 (.slice A n c) (some (.int .i64 (t : Int))) (some (.int .i64 ((t : Int) + (k : Int)))) none).run Try.prog W = .ok (.slice (cutK A c 4 t) k (c - t)) W := fun W => by
          have := cutK_run cell_slt A n c t (t + k) (by omega) (by have := HC.out.1; omega) W
          rw [show t + k - t = k by omega] at this
          rw [show ((t : Int) + (k : Int)) = ((t + k : Nat) : Int) by omega]
          exact this
        have HROW := Lib.hid fun (W : World) (hW : Below w0.heap.size w0 W) => (HA.out.below hW).cut HL.out HC.out.1 (j := t) (m := k) htk
        have HLK : Hid (((l.drop t).take k).length = k) := Lib.hid (by rw [List.length_take, List.length_drop, HL.out]; omega)
        have CWD := Lib.hid fun (W : World) (hW : Below w0.heap.size w0 W) => r9Width_any (cutK A c 4 t) k (c - t) ((l.drop t).take k) W (HROW.out W hW) HLK.out (by omega) ((HW.out.drop t).take k).wide
        obtain ⟨s, hs⟩ : ∃ s, wsum ((l.drop t).take k) = s := ⟨_, rfl⟩
        rw [hs] at CWD
        have HFIT2 : Hid (1 < npos ((l.drop t).take k) → s ≤ here) := Lib.hid (by rw [← hs]; exact HFIT.out)
        clear hs HFIT
        generalize (l.drop t).take k = lk at *
        have hR5 := RawAt.below HR0.out HB4.out HR0.out.lt
        have c4 := RawAt.cell hR5 0
        have c5' := RawAt.cell hR5 1
        clear hR5
        simp at c4 c5'
        by_cases hj0 : j = 0
        · have k1 : ((j : Int) == 0) = true := by simp [hj0]
          have k2 : decide ((j : Int) = 0) = true := decide_eq_true (by omega)
          rw [if_pos hj0] at hhere
          subst hhere
          clear hj0 HD0
          obtain ⟨AC, hAC⟩ : ∃ x, cutK A c 4 t = x := ⟨_, rfl⟩
          rw [hAC] at HROW CWD
          simp only [hAC] at hsl
          clear hAC
          obtain ⟨gO, hgO⟩ : ∃ g, g = gk := ⟨_, rfl⟩
          obtain ⟨wO, hwO⟩ : ∃ x, x = wr := ⟨_, rfl⟩
          subst hgO
          subst hwO
          go_wp2_with fail
          go_loopg [9, 51] k (fun g p i wq => ∃ (y z : Nat), i = .int .i64 (y : Int) ∧ p = .int .i64 (z : Int) ∧ y ≤ k ∧ k - y ≤ g ∧ z ≤ y ∧ Hid (z = npos (lk.take y)) ∧ Hid (Below wO.heap.size wO wq))
          case atStart => exact ⟨0, 0, rfl, rfl, by omega, by omega, by omega, Lib.hid (by simp [npos]), Lib.hid (Below.refl _ _)⟩
          case round =>
            obtain ⟨y, z, rfl, rfl, y1, y2, y3, hz, hbq⟩ := hrel
            have HBQ := Lib.hid (HB4.out.trans (hbq.out.mono HB4.out.size))
            by_cases hy : y < k
            · have hyl : y < lk.length := by rw [HLK.out]; exact hy
              obtain ⟨bC, offC, rfl, hbC, d0, d1, d2, d3⟩ := (HROW.out _ HBQ.out).cell4 hyl
              have hzn := npos_snoc hyl
              rw [← hz.out] at hzn
              have HZN := Lib.hid hzn
              clear hzn hz
              generalize lk[y] = o at *
              have j1 : (0 : Int) ≤ y := by omega
              have j2 : (y : Int) < k := by omega
              have R3 : RawAt 35 (wr.alloc (.cells #[.int .i32 o.r, .int .i64 o.k, .int .i64 o.wd, .int .i64 o.p] 35)) wr.heap.size #[.int .i32 o.r, .int .i64 o.k, .int .i64 o.wd, .int .i64 o.p] := heap_alloc_new wr _
              have e2 := RawAt.cell R3 2
              simp at e2
              have HQ3 := Lib.hid (hbq.out.trans (((Below.refl _ _).alloc (Nat.le_refl _) (.cells #[.int .i32 o.r, .int .i64 o.k, .int .i64 o.wd, .int .i64 o.p] 35)).mono hbq.out.size))
              clear R3 hbq hsl
              by_cases hp : 0 < o.wd
              · have HZ2 := Lib.hid (HZN.out.trans (by rw [if_pos hp]))
                clear HZN
                go_wp2_with fail
                go_roundg (gk - 1)
                case measure => omega
                case rel => exact ⟨y + 1, z + 1, by go_num, by go_num, by omega, by omega, by omega, Lib.hid HZ2.out.symm, HQ3⟩
              · have HZ2 := Lib.hid (HZN.out.trans (by rw [if_neg hp]))
                have kp : decide (0 < o.wd) = false := decide_eq_false hp
                clear HZN
                go_wp2_with fail
                go_roundg (gk - 1)
                case measure => omega
                case rel => exact ⟨y + 1, z, by go_num, by go_num, by omega, by omega, by omega, Lib.hid (by rw [HZ2.out]; simp), HQ3⟩
            · obtain rfl : y = k := by omega
              have hz2 := hz.out
              rw [List.take_of_length_le (by rw [HLK.out]; omega)] at hz2
              have HBX := Lib.hid (Below.trans hb.out (hbq.out.mono hb.out.size))
              by_cases h1z : 1 < z
              · have hsle := HFIT2.out (by rw [← hz2]; exact h1z)
                have kz : decide ((1 : Int) < z) = true := decide_eq_true (by omega)
                have ks : decide (here < s) = false := decide_eq_false (by omega)
                clear hz2 hz
                go_wp2_with (refine (CWD.out _ HBQ.out).mono ?_; rintro e w8 ⟨rfl, hb8⟩; have HB8 := Lib.hid (HBX.out.trans (hb8.mono HBX.out.size)); clear hb8)
                go_roundg (gO - 1)
                case measure => omega
                case rel => exact ⟨j + 1, t + y, L.drop (j + 1), by go_num, by go_num, by omega, by omega, by omega, Lib.hid rfl, Lib.hid (fun h => by omega), Lib.hid (fun _ => HR2.out.symm), HB8⟩
              · have kz : decide ((1 : Int) < z) = false := decide_eq_false (by omega)
                clear hz2 hz
                go_wp2_with fail
                go_roundg (gO - 1)
                case measure => omega
                case rel => exact ⟨j + 1, t + y, L.drop (j + 1), by go_num, by go_num, by omega, by omega, by omega, Lib.hid rfl, Lib.hid (fun h => by omega), Lib.hid (fun _ => HR2.out.symm), HBX⟩
        · have k1 : ((j : Int) == 0) = false := by simp; omega
          have k2 : decide ((j : Int) = 0) = false := decide_eq_false (by omega)
          have k9 : 0 < j := by omega
          rw [if_neg hj0] at hhere
          subst hhere
          clear hj0 HD0
          obtain ⟨AC, hAC⟩ : ∃ x, cutK A c 4 t = x := ⟨_, rfl⟩
          rw [hAC] at HROW CWD
          simp only [hAC] at hsl
          clear hAC
          obtain ⟨gO, hgO⟩ : ∃ g, g = gk := ⟨_, rfl⟩
          obtain ⟨wO, hwO⟩ : ∃ x, x = wr := ⟨_, rfl⟩
          subst hgO
          subst hwO
          go_wp2_with fail
          go_loopg [9, 51] k (fun g p i wq => ∃ (y z : Nat), i = .int .i64 (y : Int) ∧ p = .int .i64 (z : Int) ∧ y ≤ k ∧ k - y ≤ g ∧ z ≤ y ∧ Hid (z = npos (lk.take y)) ∧ Hid (Below wO.heap.size wO wq))
          case atStart => exact ⟨0, 0, rfl, rfl, by omega, by omega, by omega, Lib.hid (by simp [npos]), Lib.hid (Below.refl _ _)⟩
          case round =>
            obtain ⟨y, z, rfl, rfl, y1, y2, y3, hz, hbq⟩ := hrel
            have HBQ := Lib.hid (HB4.out.trans (hbq.out.mono HB4.out.size))
            by_cases hy : y < k
            · have hyl : y < lk.length := by rw [HLK.out]; exact hy
              obtain ⟨bC, offC, rfl, hbC, d0, d1, d2, d3⟩ := (HROW.out _ HBQ.out).cell4 hyl
              have hzn := npos_snoc hyl
              rw [← hz.out] at hzn
              have HZN := Lib.hid hzn
              clear hzn hz
              generalize lk[y] = o at *
              have j1 : (0 : Int) ≤ y := by omega
              have j2 : (y : Int) < k := by omega
              have R3 : RawAt 35 (wr.alloc (.cells #[.int .i32 o.r, .int .i64 o.k, .int .i64 o.wd, .int .i64 o.p] 35)) wr.heap.size #[.int .i32 o.r, .int .i64 o.k, .int .i64 o.wd, .int .i64 o.p] := heap_alloc_new wr _
              have e2 := RawAt.cell R3 2
              simp at e2
              have HQ3 := Lib.hid (hbq.out.trans (((Below.refl _ _).alloc (Nat.le_refl _) (.cells #[.int .i32 o.r, .int .i64 o.k, .int .i64 o.wd, .int .i64 o.p] 35)).mono hbq.out.size))
              clear R3 hbq hsl
              by_cases hp : 0 < o.wd
              · have HZ2 := Lib.hid (HZN.out.trans (by rw [if_pos hp]))
                clear HZN
                go_wp2_with fail
                go_roundg (gk - 1)
                case measure => omega
                case rel => exact ⟨y + 1, z + 1, by go_num, by go_num, by omega, by omega, by omega, Lib.hid HZ2.out.symm, HQ3⟩
              · have HZ2 := Lib.hid (HZN.out.trans (by rw [if_neg hp]))
                have kp : decide (0 < o.wd) = false := decide_eq_false hp
                clear HZN
                go_wp2_with fail
                go_roundg (gk - 1)
                case measure => omega
                case rel => exact ⟨y + 1, z, by go_num, by go_num, by omega, by omega, by omega, Lib.hid (by rw [HZ2.out]; simp), HQ3⟩
            · obtain rfl : y = k := by omega
              have hz2 := hz.out
              rw [List.take_of_length_le (by rw [HLK.out]; omega)] at hz2
              have HBX := Lib.hid (Below.trans hb.out (hbq.out.mono hb.out.size))
              by_cases h1z : 1 < z
              · have hsle := HFIT2.out (by rw [← hz2]; exact h1z)
                have kz : decide ((1 : Int) < z) = true := decide_eq_true (by omega)
                have ks : decide (here < s) = false := decide_eq_false (by omega)
                clear hz2 hz
                go_wp2_with (refine (CWD.out _ HBQ.out).mono ?_; rintro e w8 ⟨rfl, hb8⟩; have HB8 := Lib.hid (HBX.out.trans (hb8.mono HBX.out.size)); clear hb8)
                go_roundg (gO - 1)
                case measure => omega
                case rel => exact ⟨j + 1, t + y, L.drop (j + 1), by go_num, by go_num, by omega, by omega, by omega, Lib.hid rfl, Lib.hid (fun h => by omega), Lib.hid (fun _ => HR2.out.symm), HB8⟩
              · have kz : decide ((1 : Int) < z) = false := decide_eq_false (by omega)
                clear hz2 hz
                go_wp2_with fail
                go_roundg (gO - 1)
                case measure => omega
                case rel => exact ⟨j + 1, t + y, L.drop (j + 1), by go_num, by go_num, by omega, by omega, by omega, Lib.hid rfl, Lib.hid (fun h => by omega), Lib.hid (fun _ => HR2.out.symm), HBX⟩
      · obtain rfl : j = m := by omega
        go_wp2_with (refine (two19_any _).mono ?_; rintro e w6 ⟨rfl, hb6⟩; have HB6 := Lib.hid (HB4.out.trans (hb6.mono HB4.out.size)); clear hb6)
        go_ret
        exact ⟨rfl, HX0.out.trans (HB6.out.mono HX0.out.size)⟩
  · have CR := Lib.hid (right19_any A n c l w0 hA0 hl false (by simp; intro h; exact fun g => hr ⟨h, g⟩))
    clear hA hl hn hc hO hr hA0
    go_enter Try.func6, Try.ntmps6
    go_wp2_with (first | (go_at_call 15; refine (CR.out).mono ?_; rintro e w1 ⟨rfl, hb1⟩; have HB1 := Lib.hid hb1; clear hb1) | (go_at_call 16; refine (two19_any _).mono ?_; rintro e w6 ⟨rfl, hb6⟩; have HB6 := Lib.hid (HB1.out.trans (hb6.mono HB1.out.size)); clear hb6))
    go_ret
    exact ⟨rfl, HX0.out.trans (HB6.out.mono HX0.out.size)⟩
set_option maxHeartbeats 4000000 in
set_option maxRecDepth 100000 in
theorem breaksWords_walk (A : Option Addr) (n c : Nat) (l : List Cl) (room : Int) (w : World) (hA : RowsAt encC 4 w A l) (hl : l.length = n) (hn : n ≤ maxLen) (hc : Caps A n c) (hO : ∀ s ∈ l, ClOk s) (wf : Lit.wf (.int .i64 room)) :
    Calls Try.prog 7 #[.slice A n c, .int .i64 room] w fun e w' => e = .returned (.bool true) ∧ Below w.heap.size w w' := by
  by_cases hr : n ≤ 200 ∧ W02 l
  · have CR := Lib.hid (right19_any A n c l w hA hl true (by simp [hr]))
    by_cases hn0 : n = 0
    · have k1 : ((n : Int) == 0) = true := by simp [hn0]
      have k2 : decide ((n : Int) = 0) = true := decide_eq_true (by omega)
      clear hA hl hn hc hO wf hr hn0
      go_enter Try.func7, Try.ntmps7
      go_wp2_with (first | (go_at_call 15; refine (CR.out).mono ?_; rintro e w1 ⟨rfl, hb1⟩; have HB1 := Lib.hid hb1; clear hb1) | (go_at_call 16; refine (two19_any _).mono ?_; rintro e w6 ⟨rfl, hb6⟩; have HB6 := Lib.hid (HB1.out.trans (hb6.mono HB1.out.size)); clear hb6))
      go_ret
      exact ⟨rfl, HB6.out⟩
    have k1 : ((n : Int) == 0) = false := by simp; omega
    have k2 : decide ((n : Int) = 0) = false := decide_eq_false (by omega)
    have hq0 : 0 < tak l room := tak_pos (by omega)
    have hq1 := tak_le l room
    rw [hl] at hq1
    obtain ⟨p, hp⟩ : ∃ p, tak l room = p + 1 := ⟨tak l room - 1, by omega⟩
    have CT := Lib.hid fun (W : World) (hW : Below w.heap.size w W) => bTakes A n c l room W (hA.below hW) hl (by omega) hr.2
    rw [hp, show ((p + 1 : Nat) : Int) = (p : Int) + 1 by omega] at CT
    rw [hp] at hq1
    have HA := Lib.hid hA
    have HL := Lib.hid hl
    have HP := Lib.hid hp
    have HC := Lib.hid hc
    have HW := Lib.hid hr.2
    have hn2 := hr.1
    have i0 : (0 : Int) ≤ p := by omega
    have i1 : decide ((p : Int) + 1 < 1) = false := decide_eq_false (by omega)
    have i2 : decide ((n : Int) < (p : Int) + 1) = false := decide_eq_false (by omega)
    clear hA hl hn hc hO wf hr hp hq0
    by_cases hqn : p + 1 = n
    · have k3 : ((p : Int) + 1 == (n : Int)) = true := by simp; omega
      have k4 : decide ((p : Int) + 1 = (n : Int)) = true := decide_eq_true (by omega)
      clear hn0
      go_enter Try.func7, Try.ntmps7
      go_wp2_with (first | (go_at_call 15; refine (CR.out).mono ?_; rintro e w1 ⟨rfl, hb1⟩; have HB1 := Lib.hid hb1; clear hb1) | (go_at_call 17; refine (CT.out _ HB1.out).mono ?_; rintro e w2 ⟨rfl, hb2⟩; have HB2 := Lib.hid (HB1.out.trans (hb2.mono HB1.out.size)); clear hb2) | (go_at_call 16; refine (two19_any _).mono ?_; rintro e w6 ⟨rfl, hb6⟩; have HB6 := Lib.hid (HB2.out.trans (hb6.mono HB2.out.size)); clear hb6))
      go_ret
      exact ⟨rfl, HB6.out⟩
    have k3 : ((p : Int) + 1 == (n : Int)) = false := by simp; omega
    have k4 : decide ((p : Int) + 1 = (n : Int)) = false := decide_eq_false (by omega)
    have hpn : p + 1 < n := by omega
    obtain ⟨r, hr⟩ : ∃ r, bnd l (p + 1) = r := ⟨_, rfl⟩
    have CB := Lib.hid fun (W : World) (hW : Below w.heap.size w W) => r9Bound_any A n c l p r W (HA.out.below hW) HL.out (by omega) hpn hr
    cases r
    · have hwd := tak_words (l := l) (r := room) HW.out (by rw [HL.out]; omega) (by rw [HP.out, HL.out]; exact hqn) (by rw [HP.out]; exact hr)
      rw [HP.out] at hwd
      have HB0 := Lib.hid hwd.1
      have hgt := hwd.2
      have CWD := Lib.hid fun (W : World) (hW : Below w.heap.size w W) => r9Width_any A (p + 1 + 1) c (l.take (p + 1 + 1)) W (rows_takeC (HA.out.below hW) HL.out HC.out.1 (by omega)) (by rw [List.length_take, HL.out]; omega) (by omega) (HW.out.take _).wide
      have hsl : ∀ W, (Instr.slice 22 (.slice A n c) none (some (.int .i64 ((p : Int) + 1 + 1))) none).run Try.prog W = .ok (.slice A (p + 1 + 1) c) W := fun W => by
        have := cutK_hd cell_slt A n c (p + 1 + 1) (by have := HC.out.1; omega) W
        rw [show ((p : Int) + 1 + 1) = ((p + 1 + 1 : Nat) : Int) by omega]
        exact this
      obtain ⟨s, hs⟩ : ∃ s, wsum (l.take (p + 1 + 1)) = s := ⟨_, rfl⟩
      rw [hs] at CWD hgt
      have k5 : decide (room < s) = true := decide_eq_true hgt
      clear hs hwd hr hqn hn0
      go_enter Try.func7, Try.ntmps7
      go_wp2_with (first | (go_at_call 15; refine (CR.out).mono ?_; rintro e w1 ⟨rfl, hb1⟩; have HB1 := Lib.hid hb1; clear hb1) | (go_at_call 17; refine (CT.out _ HB1.out).mono ?_; rintro e w2 ⟨rfl, hb2⟩; have HB2 := Lib.hid (HB1.out.trans (hb2.mono HB1.out.size)); clear hb2) | (go_at_call 25; refine (CB.out _ HB2.out).mono ?_; rintro e w3 ⟨rfl, hb3⟩; have HB3 := Lib.hid (HB2.out.trans (hb3.mono HB2.out.size)); clear hb3))
      go_loopg [6] p (fun g i wr => ∃ (y : Nat), i = .int .i64 ((y : Int) + 1) ∧ y ≤ p ∧ p - y ≤ g ∧ Hid (Below w.heap.size w wr))
      case atStart => exact ⟨0, rfl, by omega, by omega, HB3⟩
      case round =>
        clear HB3
        obtain ⟨y, rfl, y1, y2, hb⟩ := hrel
        by_cases hy : y < p
        · have CY := Lib.hid (r9Bound_any A n c l y false wr (HA.out.below hb.out) HL.out (by omega) (by omega) (HB0.out _ (by omega)))
          have j1 : (y : Int) + 1 < (p : Int) + 1 := by omega
          clear hsl
          go_wp2_with (go_at_call 25; refine (CY.out).mono ?_; rintro e w4 ⟨rfl, hb4⟩; have HB4 := Lib.hid (hb.out.trans (hb4.mono hb.out.size)); clear hb4)
          go_roundg (gk - 1)
          case measure => omega
          case rel => exact ⟨y + 1, by go_num, by omega, by omega, HB4⟩
        · obtain rfl : y = p := by omega
          go_wp2_with (first | (go_at_call 24; refine (CWD.out _ hb.out).mono ?_; rintro e w5 ⟨rfl, hb5⟩; have HB5 := Lib.hid (hb.out.trans (hb5.mono hb.out.size)); clear hb5) | (go_at_call 16; refine (two19_any _).mono ?_; rintro e w6 ⟨rfl, hb6⟩; have HB6 := Lib.hid (HB5.out.trans (hb6.mono HB5.out.size)); clear hb6))
          go_ret
          exact ⟨rfl, HB6.out⟩
    · clear hr hqn hn0
      go_enter Try.func7, Try.ntmps7
      go_wp2_with (first | (go_at_call 15; refine (CR.out).mono ?_; rintro e w1 ⟨rfl, hb1⟩; have HB1 := Lib.hid hb1; clear hb1) | (go_at_call 17; refine (CT.out _ HB1.out).mono ?_; rintro e w2 ⟨rfl, hb2⟩; have HB2 := Lib.hid (HB1.out.trans (hb2.mono HB1.out.size)); clear hb2) | (go_at_call 25; refine (CB.out _ HB2.out).mono ?_; rintro e w3 ⟨rfl, hb3⟩; have HB3 := Lib.hid (HB2.out.trans (hb3.mono HB2.out.size)); clear hb3) | (go_at_call 16; refine (two19_any _).mono ?_; rintro e w6 ⟨rfl, hb6⟩; have HB6 := Lib.hid (HB3.out.trans (hb6.mono HB3.out.size)); clear hb6))
      go_ret
      exact ⟨rfl, HB6.out⟩
  · have CR := Lib.hid (right19_any A n c l w hA hl false (by simp; intro h; exact fun g => hr ⟨h, g⟩))
    clear hA hl hn hc hO wf hr
    go_enter Try.func7, Try.ntmps7
    go_wp2_with (first | (go_at_call 15; refine (CR.out).mono ?_; rintro e w1 ⟨rfl, hb1⟩; have HB1 := Lib.hid hb1; clear hb1) | (go_at_call 16; refine (two19_any _).mono ?_; rintro e w6 ⟨rfl, hb6⟩; have HB6 := Lib.hid (HB1.out.trans (hb6.mono HB1.out.size)); clear hb6))
    go_ret
    exact ⟨rfl, HB6.out⟩
end Go.Proofs.Ytnlhpbnonmdkdaa
