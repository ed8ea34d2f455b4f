/- The walk of the law on shifted sets. -/
import Derived.Test.YtncbhbjhfmbbkaaAWStays
import Derived.Test.YtncbhbjhfmbbkaaAnK
import Derived.Deep.CutBlock
namespace Go.Proofs.Ytncbhbjhfmbbkaa
open Go.RowKit Go.Sort
set_option linter.unusedVariables false
theorem olast_take {l : List Ch} {j : Nat} (h : j < l.length) : olast (l.take (j + 1)) = (cth l j).ob := by
  rw [cth_take h]; simp [olast]
set_option maxHeartbeats 32000000 in
set_option maxRecDepth 100000 in
theorem anchorShifts_walk (a : Int) (A : Option Addr) (m c : Nat) (l : List An) (PA : Option Addr) (pm pc : Nat) (p : List Ch) (w : World) (_wf : (Lit.int .i64 a).wf = true) (hI : RowsAt encA 3 w A l) (hl : l.length = m) (_hn : m ≤ maxLen) (hc : Caps A m c) (hO : ∀ x ∈ l, (Lit.int .i64 x.id).wf = true) (hJ : ChsAt w PA p) (hp : p.length = pm) (_hn2 : pm ≤ maxLen) (_hc2 : Caps PA pm pc) :
    Calls Try.prog 4 #[.int .i64 a, .slice A m c, .slice PA pm pc] w fun e w' => e = .returned (.bool true) ∧ Below w.heap.size w w' := by
  have CB := Lib.hid fun W => aBoth_any W
  have HI := Lib.hid hI
  have HL := Lib.hid hl
  have HC := Lib.hid hc
  have HO := Lib.hid hO
  have HJ := Lib.hid hJ
  have HP := Lib.hid hp
  clear hI hl hc hO hJ hp _wf _hn _hn2 _hc2
  by_cases g1 : 200 < m
  · have k1 : decide (200 < m) = true := decide_eq_true g1
    have k2 : decide ((200 : Int) < (m : Int)) = true := decide_eq_true (by omega)
    go_enter Try.func4, Try.ntmps4
    go_wp2_with fail
    with_reducible refine (CB.out _).mono ?_
    rintro e w40 ⟨rfl, b40⟩
    have Q40 := Lib.hid (b40)
    clear b40
    go_wp2
    go_ret
    exact ⟨by simp, Q40.out⟩
  · have k1 : decide (200 < m) = false := decide_eq_false g1
    have k2 : decide ((200 : Int) < (m : Int)) = false := decide_eq_false (by omega)
    by_cases g2 : 100 < pm
    · have k1' : decide (100 < pm) = true := decide_eq_true g2
      have k2' : decide ((100 : Int) < (pm : Int)) = true := decide_eq_true (by omega)
      go_enter Try.func4, Try.ntmps4
      go_wp2_with fail
      with_reducible refine (CB.out _).mono ?_
      rintro e w40 ⟨rfl, b40⟩
      have Q40 := Lib.hid (b40)
      clear b40
      go_wp2
      go_ret
      exact ⟨by simp, Q40.out⟩
    · have k1' : decide (100 < pm) = false := decide_eq_false g2
      have k2' : decide ((100 : Int) < (pm : Int)) = false := decide_eq_false (by omega)
      obtain ⟨r, hr⟩ : ∃ r, awrong a l = r := ⟨_, rfl⟩
      have CN := Lib.hid fun (W : World) (hW : Below w.heap.size w W) => aNew_any a A m c l W (HI.out.below hW) HC.out HL.out HO.out r hr
      have CRF := Lib.hid fun (W : World) (hW : Below w.heap.size w W) => arefs_any A m c l W (HI.out.below hW) HL.out (by omega)
      have CWR := Lib.hid fun (A' : Option Addr) (c' : Nat) (W : World) (h1 : RowsAt encA 3 W A' l) (h2 : Caps A' m c') => rWrong_any a A' m c' l W h1 h2 HL.out r hr
      by_cases hr0 : r = 0
      · subst hr0
        obtain ⟨z0, z40, z200, hap, hok⟩ := awrong_zero hr
        have HOP := Lib.hid (ord_perm alt alt_swo l)
        have hol : (ord alt l).length = m := by rw [HOP.out.length_eq, HL.out]
        have HOL := Lib.hid hol
        have CRO := Lib.hid fun (A' : Option Addr) (c' : Nat) (W : World) (h1 : RowsAt encA 3 W A' l) => rOrdered_any A' m c' l W h1 HL.out (by omega)
        obtain ⟨rs, hrs⟩ := shIs_ex a p (ord alt l)
        have CS := Lib.hid fun (W : World) (sb : Nat) (hW : Below w.heap.size w W) (hS : ASet W sb a (ord alt l)) => aShift_any hS PA pm pc p (HJ.out.below hW) HP.out (by omega) z0 z40 (fun x hx => hok x (HOP.out.mem_iff.1 hx)) (fun x hx => HO.out x (HOP.out.mem_iff.1 hx)) (by rw [HOL.out]; omega) rs hrs _ rfl
        have CCH := Lib.hid fun (W : World) (hW : Below w.heap.size w W) => achg_any PA pm pc p W (HJ.out.below hW) HP.out (by omega)
        have HOK := Lib.hid hok
        have HAP := Lib.hid hap
        have HRS := Lib.hid hrs
        have HZ := Lib.hid z200
        clear hr hap hok hol hrs z200
        go_enter Try.func4, Try.ntmps4
        go_wp2_with fail
        with_reducible refine (CRF.out _ (Below.refl _ _)).mono ?_
        rintro e1 w1 ⟨v1, rfl, o1, b1⟩
        obtain ⟨A1, c1, rfl, hR1, _, hC1⟩ := rows_of_own encA_len (by omega) o1
        have CW1 := Lib.hid (CWR.out A1 c1 w1 hR1 hC1)
        have B1 := Lib.hid b1
        clear o1 hR1 hC1 b1 CWR
        go_wp2_with fail
        with_reducible refine (CW1.out).mono ?_
        rintro e2 w2 ⟨rfl, b2⟩
        have B2 := Lib.hid (B1.out.trans (b2.mono B1.out.size))
        clear b2 CW1 B1
        go_wp2_with fail
        with_reducible refine (CN.out _ B2.out).mono ?_
        rintro e3 w3 ⟨p3, rfl, _, hp3, b3⟩
        obtain ⟨s3, rfl, h3⟩ := hp3 trivial
        have B3 := Lib.hid (B2.out.trans (b3.mono B2.out.size))
        have H3 := Lib.hid h3
        have CS3 := Lib.hid (CS.out w3 s3 B3.out h3)
        clear b3 B2 h3 hp3 CN CS
        go_wp2_with fail
        with_reducible refine (CS3.out).mono ?_
        rintro e4 w4 ⟨p4, rfl, hq4, hp4, b4⟩
        have B4 := Lib.hid (B3.out.trans (b4.mono B3.out.size))
        have H4 := Lib.hid (H3.out.below b4)
        have HQ4 := Lib.hid hq4
        have HP4 := Lib.hid hp4
        have CAL4 := Lib.hid (aAll_any H4.out (by rw [HOL.out]; omega))
        rw [HOL.out] at CAL4
        clear b4 B3 H3 CS3 hq4 hp4
        go_wp2_with fail
        with_reducible refine (CAL4.out).mono ?_
        rintro e5 w5 ⟨v5, rfl, o5, b5⟩
        rw [← HOL.out] at o5
        obtain ⟨A5, c5, rfl, hR5, _, _⟩ := rows_of_own encA_len (by omega) o5
        rw [HOL.out]
        have HR5 := Lib.hid hR5
        have B5 := Lib.hid (B4.out.trans (b5.mono B4.out.size))
        have Q5 := Lib.hid b5
        clear o5 hR5 b5 B4 CAL4 H4
        go_wp2_with fail
        with_reducible refine (CRF.out _ B5.out).mono ?_
        rintro e6 w6 ⟨v6, rfl, o6, b6⟩
        obtain ⟨A6, c6, rfl, hR6, _, _⟩ := rows_of_own encA_len (by omega) o6
        have CO6 := Lib.hid (CRO.out A6 c6 w6 hR6)
        have B6 := Lib.hid (B5.out.trans (b6.mono B5.out.size))
        have Q6 := Lib.hid (Q5.out.trans (b6.mono Q5.out.size))
        have HR5b := Lib.hid (HR5.out.below b6)
        clear o6 hR6 b6 B5 Q5 HR5 CRO
        go_wp2_with fail
        with_reducible refine (CO6.out).mono ?_
        rintro e7 w7 ⟨v7, rfl, o7, b7⟩
        rw [← HOL.out] at o7
        obtain ⟨A7, c7, rfl, hR7, _, _⟩ := rows_of_own encA_len (by omega) o7
        rw [HOL.out]
        have B7 := Lib.hid (B6.out.trans (b7.mono B6.out.size))
        have Q7 := Lib.hid (Q6.out.trans (b7.mono Q6.out.size))
        have CSM := Lib.hid (asame_any A5 A7 m c5 c7 (ord alt l) w7 (HR5b.out.below b7) hR7 HOL.out (by omega))
        clear o7 hR7 b7 B6 Q6 HR5b CO6
        go_wp2_with fail
        with_reducible refine (CSM.out).mono ?_
        rintro e8 w8 ⟨rfl, b8⟩
        have B8 := Lib.hid (B7.out.trans (b8.mono B7.out.size))
        have Q8 := Lib.hid (Q7.out.trans (b8.mono Q7.out.size))
        clear b8 B7 Q7 CSM
        go_wp2_with fail
        with_reducible refine (CCH.out _ B8.out).mono ?_
        rintro e9 w9 ⟨A9, c9, rfl, hI9, hC9, b9⟩
        have B9 := Lib.hid (B8.out.trans (b9.mono B8.out.size))
        have Q9 := Lib.hid (Q8.out.trans (b9.mono Q8.out.size))
        have CNM := Lib.hid fun (b : Bool) (hb : b = true ↔ nrm M40 0 0 true p) => rNormal_any A9 pm c9 p w9 b hI9 HP.out (by omega) hb
        clear b9 B8 Q8 hI9 hC9
        by_cases hn : nrm M40 0 0 true p
        · have CN9 := Lib.hid (CNM.out true ⟨fun _ => hn, fun _ => rfl⟩)
          have HN := Lib.hid hn
          have hbd := dlt_bd (K := 1099511627776) (by decide) (l := p) (fun x hx => by
            have := nrm_mem hn x hx
            unfold M40 at this
            omega)
          have HBD := Lib.hid fun (j : Nat) => dlt_bd (K := 1099511627776) (by decide) (l := p.take j) (fun x hx => by
            have := nrm_mem HN.out x (List.mem_of_mem_take hx)
            unfold M40 at this
            omega)
          clear CNM hn
          go_wp2_with fail
          with_reducible refine (CN9.out).mono ?_
          rintro e10 w10 ⟨rfl, b10⟩
          have B10 := Lib.hid (B9.out.trans (b10.mono B9.out.size))
          have Q10 := Lib.hid (Q9.out.trans (b10.mono Q9.out.size))
          clear b10 B9 Q9 CN9
          go_wp2_with fail
          go_loopg [11, 12, 73] pm (fun g gr la i wr => ∃ (j : Nat), i = .int .i64 j ∧ gr = .int .i64 (dlt (p.take j)) ∧ la = .int .i64 (olast (p.take j)) ∧ j ≤ pm ∧ pm - j ≤ g ∧ Hid (Below w10.heap.size w10 wr))
          case atStart => exact ⟨0, rfl, rfl, rfl, by omega, by omega, Lib.hid (Below.refl _ _)⟩
          case round =>
            obtain ⟨j, rfl, rfl, rfl, h1, h2, hb⟩ := hrel
            by_cases hlt : j < pm
            · have hjl : j < p.length := by rw [HP.out]; exact hlt
              have HB := Lib.hid (B10.out.trans (hb.out.mono B10.out.size))
              obtain ⟨bA, off, rfl, hbA, d0, d1, d2, d3⟩ := (HJ.out.below HB.out).at1 hjl
              have hdt := Lib.hid (dlt_take hjl)
              have hot := Lib.hid (olast_take hjl)
              have hcm := nrm_mem HN.out _ (cth_mem hjl)
              have hb1 := HBD.out j
              rw [List.length_take, HP.out] at hb1
              have hb2 : (1099511627776 : Int) * ((min j pm : Nat) : Int) ≤ 109951162777600 := by omega
              generalize olast (p.take j) = la at *
              generalize dlt (p.take j) = gr at *
              generalize cth p j = y at *
              obtain ⟨⟨n1, n2, n3⟩, n4, n5, n6⟩ := hcm
              unfold M40 at n3 n6
              have i1 : (0 : Int) ≤ j := by omega
              have i2 : (j : Int) < pm := by omega
              have x3 : Below wr.heap.size wr (wr.alloc (.cells #[.int .i64 y.oa, .int .i64 y.ob, .int .i64 y.na, .int .i64 y.nb] 51)) := (Below.refl _ _).alloc (Nat.le_refl _) _
              have HB3 := Lib.hid (hb.out.trans (x3.mono hb.out.size))
              have u1 : IntKind.i64.wrap (y.nb - y.na) = y.nb - y.na := IntWalk.i64_in _ (by omega)
              have u2 : IntKind.i64.wrap (y.ob - y.oa) = y.ob - y.oa := IntWalk.i64_in _ (by omega)
              have u3 : IntKind.i64.wrap (gr + (y.nb - y.na)) = gr + (y.nb - y.na) := IntWalk.i64_in _ (by omega)
              have u4 : IntKind.i64.wrap (gr + (y.nb - y.na) - (y.ob - y.oa)) = gr + (y.nb - y.na) - (y.ob - y.oa) := IntWalk.i64_in _ (by omega)
              have HG := Lib.hid (show gr + (y.nb - y.na) - (y.ob - y.oa) = dlt (p.take (j + 1)) by rw [hdt.out]; omega)
              clear hb x3
              go_wp2
              go_roundg (gk - 1)
              case measure => omega
              case rel => exact ⟨j + 1, by go_num, by rw [← HG.out], by rw [← hot.out], by omega, by omega, HB3⟩
            · obtain rfl : pm = j := by omega
              have e2 : p.take pm = p := List.take_of_length_le (by rw [HP.out]; exact Nat.le_refl _)
              rw [e2]
              have HB := Lib.hid (B10.out.trans (hb.out.mono B10.out.size))
              have QB := Lib.hid (Q10.out.trans (hb.out.mono Q10.out.size))
              rw [HP.out] at hbd
              have hbd1 : (1099511627776 : Int) * (pm : Int) ≤ 109951162777600 := by omega
              have u5 : IntKind.i64.wrap (a + dlt p) = a + dlt p := IntWalk.i64_in _ (by omega)
              clear hb B10 Q10
              by_cases g3 : a < olast p
              · have k3 : decide (a < olast p) = true := decide_eq_true g3
                obtain rfl : rs = 1 := HRS.out.2.1 HN.out g3
                obtain rfl := HQ4.out (by decide)
                clear HP4 HQ4 HRS
                generalize olast p = ol at *
                go_wp2_with fail
                with_reducible refine (CB.out _).mono ?_
                rintro e w40 ⟨rfl, b40⟩
                have Q40 := Lib.hid (HB.out.trans (b40.mono HB.out.size))
                clear b40
                go_wp2
                go_ret
                exact ⟨by simp, Q40.out⟩
              · have k3 : decide (a < olast p) = false := decide_eq_false g3
                have hrs := HRS.out.2.2 HN.out g3
                rw [ashift_wrong z0 HN.out g3 (by rw [HOL.out]; exact HL.out ▸ HZ.out) (apart_ord HAP.out) (fun x hx => HOK.out x (HOP.out.mem_iff.1 hx))] at hrs
                by_cases g4 : 1099511627776 < a + dlt p
                · have k4 : decide (1099511627776 < a + dlt p) = true := decide_eq_true g4
                  rw [if_pos g4] at hrs
                  subst hrs
                  obtain rfl := HQ4.out (by decide)
                  clear HP4 HQ4 HRS
                  generalize olast p = ol at *
                  generalize dlt p = dl at *
                  go_wp2_with fail
                  with_reducible refine (CB.out _).mono ?_
                  rintro e w40 ⟨rfl, b40⟩
                  have Q40 := Lib.hid (HB.out.trans (b40.mono HB.out.size))
                  clear b40
                  go_wp2
                  go_ret
                  exact ⟨by simp, Q40.out⟩
                · have k4 : decide (1099511627776 < a + dlt p) = false := decide_eq_false g4
                  rw [if_neg g4] at hrs
                  subst hrs
                  obtain ⟨s4, rfl, h4⟩ := HP4.out rfl
                  rw [ord_ashift HAP.out] at h4
                  have hlo : (ord alt (ashift p l)).length = m := by rw [(ord_perm alt alt_swo _).length_eq, ashift_len, HL.out]
                  have HLO := Lib.hid hlo
                  have H4e := Lib.hid (h4.below QB.out)
                  have CAL := Lib.hid (aAll_any H4e.out (by rw [HLO.out]; omega))
                  rw [HLO.out] at CAL
                  have CSH := Lib.hid fun (A' : Option Addr) (c' : Nat) (PA' : Option Addr) (pc' : Nat) (W : World) (h1 : RowsAt encA 3 W A' l) (h2 : ChsAt W PA' p) => rShifted_any A' m c' l PA' pm pc' p W h1 HL.out (by omega) (fun x hx => ⟨(HOK.out x hx).1, by have := (HOK.out x hx).2.1; omega⟩) h2 HP.out (by omega) HN.out
                  clear h4 hlo HQ4 HP4 HRS QB H4e
                  generalize ord alt (ashift p l) = L at *
                  generalize olast p = ol at *
                  generalize dlt p = dl at *
                  go_wp2_with fail
                  with_reducible refine (CAL.out).mono ?_
                  rintro e11 w11 ⟨v11, rfl, o11, b11⟩
                  rw [← HLO.out] at o11
                  obtain ⟨A11, c11, rfl, hR11, _, _⟩ := rows_of_own encA_len (by omega) o11
                  rw [HLO.out]
                  have HR11 := Lib.hid hR11
                  have B11 := Lib.hid (HB.out.trans (b11.mono HB.out.size))
                  clear o11 hR11 b11 HB CAL
                  go_wp2_with fail
                  with_reducible refine (CRF.out _ B11.out).mono ?_
                  rintro e12 w12 ⟨v12, rfl, o12, b12⟩
                  obtain ⟨A12, c12, rfl, hR12, _, _⟩ := rows_of_own encA_len (by omega) o12
                  have HR12 := Lib.hid hR12
                  have HR11b := Lib.hid (HR11.out.below b12)
                  have B12 := Lib.hid (B11.out.trans (b12.mono B11.out.size))
                  clear o12 hR12 b12 B11 HR11
                  go_wp2_with fail
                  with_reducible refine (CCH.out _ B12.out).mono ?_
                  rintro e13 w13 ⟨A13, c13, rfl, hI13, hC13, b13⟩
                  have CS13 := Lib.hid (CSH.out A12 c12 A13 c13 w13 (HR12.out.below b13) hI13)
                  have HR11c := Lib.hid (HR11b.out.below b13)
                  have B13 := Lib.hid (B12.out.trans (b13.mono B12.out.size))
                  clear hI13 hC13 b13 B12 HR11b HR12 CSH CCH CRF
                  go_wp2_with fail
                  with_reducible refine (CS13.out).mono ?_
                  rintro e14 w14 ⟨A14, c14, rfl, hR14, b14⟩
                  have CE14 := Lib.hid (asame_any A11 A14 m c11 c14 L w14 (HR11c.out.below b14) hR14 HLO.out (by omega))
                  have B14 := Lib.hid (B13.out.trans (b14.mono B13.out.size))
                  clear hR14 b14 B13 HR11c CS13
                  go_wp2_with fail
                  with_reducible refine (CE14.out).mono ?_
                  rintro e15 w15 ⟨rfl, b15⟩
                  have B15 := Lib.hid (B14.out.trans (b15.mono B14.out.size))
                  clear b15 B14 CE14
                  go_wp2_with fail
                  with_reducible refine (CB.out _).mono ?_
                  rintro e w40 ⟨rfl, b40⟩
                  have Q40 := Lib.hid (B15.out.trans (b40.mono B15.out.size))
                  clear b40
                  go_wp2
                  go_ret
                  exact ⟨by simp, Q40.out⟩
        · have CN9 := Lib.hid (CNM.out false ⟨fun h => absurd h (by decide), fun h => absurd h hn⟩)
          obtain rfl : rs = 4 := HRS.out.1 hn
          obtain rfl := HQ4.out (by decide)
          clear CNM hn HRS HP4 HQ4 CRF CCH
          go_wp2_with fail
          with_reducible refine (CN9.out).mono ?_
          rintro e10 w10 ⟨rfl, b10⟩
          have B10 := Lib.hid (B9.out.trans (b10.mono B9.out.size))
          clear b10 B9 CN9
          go_wp2_with fail
          with_reducible refine (CB.out _).mono ?_
          rintro e w40 ⟨rfl, b40⟩
          have Q40 := Lib.hid (B10.out.trans (b40.mono B10.out.size))
          clear b40
          go_wp2
          go_ret
          exact ⟨by simp, Q40.out⟩
      · have k5 : (r != 0) = true := by simp [hr0]
        have k6 : (r == 0) = false := by simp [hr0]
        clear hr0 hr CN
        go_enter Try.func4, Try.ntmps4
        go_wp2_with fail
        with_reducible refine (CRF.out _ (Below.refl _ _)).mono ?_
        rintro e1 w1 ⟨v1, rfl, o1, b1⟩
        obtain ⟨A1, c1, rfl, hR1, _, hC1⟩ := rows_of_own encA_len (by omega) o1
        have CW1 := Lib.hid (CWR.out A1 c1 w1 hR1 hC1)
        have B1 := Lib.hid b1
        clear o1 hR1 hC1 b1 CWR CRF
        go_wp2_with fail
        with_reducible refine (CW1.out).mono ?_
        rintro e2 w2 ⟨rfl, b2⟩
        have B2 := Lib.hid (B1.out.trans (b2.mono B1.out.size))
        clear b2 CW1 B1
        go_wp2_with fail
        with_reducible refine (CB.out _).mono ?_
        rintro e w40 ⟨rfl, b40⟩
        have Q40 := Lib.hid (B2.out.trans (b40.mono B2.out.size))
        clear b40
        go_wp2
        go_ret
        exact ⟨by simp, Q40.out⟩
end Go.Proofs.Ytncbhbjhfmbbkaa
