/- Folds: the law FoldsSteps, walked. -/
import Derived.Test.YtnfjleobcfhpnaaFoP2
import Derived.Test.YtnfjleobcfhpnaaFopO
import Derived.Test.YtnfjleobcfhpnaaFoZ
import Derived.Test.YtnfjleobcfhpnaaFoAd
namespace Go.Proofs.Ytnfjleobcfhpnaa
open Go.RowKit Go.Sort
set_option linter.unusedVariables false
theorem cell_farF (w : World) (g i : Nat) (v : Value) (b o : Nat) (h : b ≠ g) : (w.setCell ⟨g, i, none⟩ v).cell? ⟨b, o, none⟩ = w.cell? ⟨b, o, none⟩ := World.cell?_setCell_other w ⟨g, i, none⟩ ⟨b, o, none⟩ v (fun e => h (by injection e with e; exact e.symm))
theorem FSet.apart3 {W : World} {sb : Nat} {n : Int} {o : List Fo} (h : FSet W sb n o) {b : Nat} {cs : Array Value} (r : RawAt 29 W b cs) (u0 u1 u2 : Value) : FSet ((((W.setCell ⟨b, 0, none⟩ u0).setCell ⟨b, 1, none⟩ u1).setCell ⟨b, 2, none⟩ u2)) sb n o :=
  FSet.apart (FSet.apart (FSet.apart h r 0 u0) (r.set_ 0 u0) 1 u1) ((r.set_ 0 u0).set_ 1 u1) 2 u2
theorem rows_apart3F {W : World} {A : Option Addr} {l : List Fo} (h : RowsAt encF 2 W A l) {b : Nat} {x z : Int} {A' : Option Addr} {m' c' : Nat} (r : RawAt 29 W b #[.int .i64 x, .slice A' m' c', .int .i64 z]) (n : Int) (A2 : Option Addr) (m2 c2 : Nat) (u : Int) : RowsAt encF 2 ((((W.setCell ⟨b, 0, none⟩ (.int .i64 n)).setCell ⟨b, 1, none⟩ (.slice A2 m2 c2)).setCell ⟨b, 2, none⟩ (.int .i64 u))) A l :=
  rows_apartF (rows_apartF (rows_apartF h r _ _) (RawAt.of_eq (r.set_ 0 (.int .i64 n)) rfl) _ _) (RawAt.of_eq ((r.set_ 0 (.int .i64 n)).set_ 1 (.slice A2 m2 c2)) rfl) _ _
theorem raw_set3 {W : World} {b : Nat} {x z : Int} {A' : Option Addr} {m' c' : Nat} (r : RawAt 29 W b #[.int .i64 x, .slice A' m' c', .int .i64 z]) (n : Int) (A2 : Option Addr) (m2 c2 : Nat) (u : Int) : RawAt 29 ((((W.setCell ⟨b, 0, none⟩ (.int .i64 n)).setCell ⟨b, 1, none⟩ (.slice A2 m2 c2)).setCell ⟨b, 2, none⟩ (.int .i64 u))) b #[.int .i64 n, .slice A2 m2 c2, .int .i64 u] :=
  RawAt.of_eq (((r.set_ 0 (.int .i64 n)).set_ 1 (.slice A2 m2 c2)).set_ 2 (.int .i64 u)) rfl
theorem raw_apart3 {t : TypeId} {W : World} {b b' : Nat} {cs : Array Value} (h : RawAt t W b' cs) (hne : b' ≠ b) (u0 u1 u2 : Value) : RawAt t ((((W.setCell ⟨b, 0, none⟩ u0).setCell ⟨b, 1, none⟩ u1).setCell ⟨b, 2, none⟩ u2)) b' cs :=
  RawAt.set_other (RawAt.set_other (RawAt.set_other h hne _ _) hne _ _) hne _ _
theorem below_set3 {B : Nat} {w W : World} (h : Below B w W) {b : Nat} (hb : B ≤ b) (u0 u1 u2 : Value) : Below B w ((((W.setCell ⟨b, 0, none⟩ u0).setCell ⟨b, 1, none⟩ u1).setCell ⟨b, 2, none⟩ u2)) :=
  ((h.setCell (p := ⟨b, 0, none⟩) hb u0).setCell (p := ⟨b, 1, none⟩) hb u1).setCell (p := ⟨b, 2, none⟩) hb u2
set_option maxHeartbeats 64000000 in
set_option maxRecDepth 100000 in
theorem foldsSteps_walk (n : Int) (A : Option Addr) (m c : Nat) (l : List Fo) (OA : Option Addr) (on oc : Nat) (ops : List FOp) (w : World) (_wf : (Lit.int .i64 n).wf = true) (hI : RowsAt encF 2 w A l) (hl : l.length = m) (hn : m ≤ maxLen) (hc : Caps A m c) (hO : ∀ s ∈ l, FoOk s) (hI2 : RowsAt focs 4 w OA ops) (hl2 : ops.length = on) (hn2 : on ≤ maxLen) (_hc2 : Caps OA on oc) (hO2 : ∀ s ∈ ops, FOpOk w s) :
    Calls Try.prog 4 #[.int .i64 n, .slice A m c, .slice OA on oc] w fun e w' => e = .returned (.bool true) ∧ Below w.heap.size w w' := by
  have C3 := Lib.hid fun W => fThree_any W
  unfold maxLen at hn hn2
  by_cases g1 : 80 < m
  · have k1 : decide ((80 : Int) < (m : Int)) = true := decide_eq_true (by omega)
    clear hI hI2
    go_enter Try.func4, Try.ntmps4
    go_wp2_with fail
    with_reducible refine (C3.out _).mono ?_
    rintro e w9 ⟨rfl, bb⟩
    have Q9 := Lib.hid ((Below.refl w.heap.size w).trans (bb.mono (Below.refl w.heap.size w).size))
    clear bb
    go_wp2
    go_ret
    exact ⟨rfl, Q9.out⟩
  · have k1 : decide ((80 : Int) < (m : Int)) = false := decide_eq_false (by omega)
    by_cases g2 : 30 < on
    · have k2 : decide ((30 : Int) < (on : Int)) = true := decide_eq_true (by omega)
      clear hI hI2
      go_enter Try.func4, Try.ntmps4
      go_wp2_with fail
      with_reducible refine (C3.out _).mono ?_
      rintro e w9 ⟨rfl, bb⟩
      have Q9 := Lib.hid ((Below.refl w.heap.size w).trans (bb.mono (Below.refl w.heap.size w).size))
      clear bb
      go_wp2
      go_ret
      exact ⟨rfl, Q9.out⟩
    · have k2 : decide ((30 : Int) < (on : Int)) = false := decide_eq_false (by omega)
      have HOPS := Lib.hid hI2
      have HOL2 := Lib.hid hl2
      have HOK := Lib.hid hO2
      clear hI2 hl2 hO2 _hc2
      obtain ⟨r, hr⟩ : ∃ r, r = fwrong n l := ⟨_, rfl⟩
      have CN := Lib.hid (fNew_any n A m c l w hI hc hl hO r hr.symm)
      have CR := Lib.hid fun (W : World) (hW : Below w.heap.size w W) => rNew15 n A m c l W (hI.below hW) hc hl r hr.symm
      have HL := Lib.hid hl
      have HRE := Lib.hid hr
      clear hI hc hl hO
      by_cases hz : r = 0
      · have hr0 : fwrong n l = 0 := hr.symm.trans hz
        have HR0 := Lib.hid hr0
        have hlen := fwrong_len hr0
        have hgood := fgood_ord hr0
        have hol : (ord flt l).length = m := by rw [(ord_perm flt flt_swo l).length_eq]; exact HL.out
        have HINV := Lib.hid (FInv.of_ord hr0)
        obtain ⟨o, ho⟩ : ∃ o, o = ord flt l := ⟨_, rfl⟩
        rw [← ho] at hgood hol HINV
        have HO := Lib.hid ho
        have HG := Lib.hid hgood
        have HOL := Lib.hid hol
        subst hz
        clear hr hr0 hgood hol ho
        go_enter Try.func4, Try.ntmps4
        go_wp2_with fail
        with_reducible refine (CN.out).mono ?_
        rintro e w1 ⟨p1, rfl, _, hp1, bb⟩
        have Q1 := Lib.hid bb
        obtain ⟨s1, rfl, h1⟩ := hp1 (by first | exact trivial | rfl)
        rw [← HO.out] at h1
        have H1 := Lib.hid h1
        clear hp1 h1
        clear bb
        go_wp2_with fail
        with_reducible refine (CR.out _ Q1.out).mono ?_
        rintro e w2 ⟨nn, A2, m2, c2, rfl, hres, bb⟩
        have Q2 := Lib.hid (Q1.out.trans (bb.mono Q1.out.size))
        obtain ⟨y1, y2, hR2, hC2⟩ := hres (by first | exact trivial | rfl)
        rw [HL.out] at y2
        rw [← HO.out] at hR2
        have y1 := y1.symm
        subst y1
        have y2 := y2.symm
        subst y2
        have H2 := Lib.hid (H1.out.below bb)
        have x3 : Below w2.heap.size w2 (w2.alloc (.cells #[.int .i64 n, .slice A2 m c2, .int .i64 0] 29)) := (Below.refl _ _).alloc (Nat.le_refl _) _
        have R3 : RawAt 29 (w2.alloc (.cells #[.int .i64 n, .slice A2 m c2, .int .i64 0] 29)) w2.heap.size #[.int .i64 n, .slice A2 m c2, .int .i64 0] := heap_alloc_new w2 _
        have HR2 := Lib.hid (hR2.below x3)
        have HC2 := Lib.hid hC2
        have H3 := Lib.hid (H2.out.below x3)
        have HR3 := Lib.hid R3
        clear hres hR2 hC2
        clear bb
        have Q3 := Lib.hid (Q2.out.trans (x3.mono Q2.out.size))
        obtain ⟨W3, hW3⟩ : ∃ W3, W3 = w2.alloc (.cells #[.int .i64 n, .slice A2 m c2, .int .i64 0] 29) := ⟨_, rfl⟩
        obtain ⟨b3, hb3⟩ : ∃ b3, b3 = w2.heap.size := ⟨_, rfl⟩
        rw [← hW3] at HR2 H3 HR3 Q3
        rw [← hb3] at HR3
        have HW3 := Lib.hid hW3
        have HB3 := Lib.hid hb3
        have HB3L : Hid (w.heap.size ≤ b3) := Lib.hid (by rw [hb3]; exact Q2.out.size)
        have CI := Lib.hid (fIs_set H3.out A2 m c2 HR2.out HC2.out HOL.out (by omega) HG.out)
        clear x3 R3 hW3 hb3 H1 H2 Q1 Q2
        go_wp2_with fail
        rw [← HW3.out, ← HB3.out]
        clear HW3 HB3
        with_reducible refine CI.out.mono ?_
        rintro e w4 ⟨rfl, bb⟩
        have Q4 := Lib.hid (Q3.out.trans (bb.mono Q3.out.size))
        have H4 := Lib.hid (H3.out.below bb)
        have HR4 := Lib.hid (HR3.out.below bb HR3.out.lt)
        have HA4 := Lib.hid (HR2.out.below bb)
        go_wp2_with fail
        go_loopg [7, 44] on (fun g sp i wr => ∃ (k q sb : Nat) (nn : Int) (o : List Fo) (A : Option Addr) (c : Nat), i = .int .i64 k ∧ k ≤ on ∧ on - k ≤ g ∧ sp = .pointer (some ⟨sb, 0, none⟩) ∧ Hid (Below w.heap.size w wr) ∧ Hid (FSet wr sb nn o) ∧ Hid (RawAt 29 wr b3 #[.int .i64 nn, .slice A q c, .int .i64 0]) ∧ Hid (RowsAt encF 2 wr A o) ∧ Hid (Caps A q c) ∧ Hid (o.length = q) ∧ Hid (FInv nn o))
        case atStart => exact ⟨0, m, s1, n, o, A2, c2, rfl, by omega, by omega, rfl, Q4, H4, HR4, HA4, HC2, HOL, HINV⟩
        case round =>
          clear Q4 H4 HR4 HA4 HC2 HOL HINV
          obtain ⟨k, q, sb, nn, o, A, c, rfl, h1, h2, rfl, hb, hS, hR9, hRA, HCA, HQ, HI⟩ := hrel
          by_cases hlt : k < on
          · have hkl : k < ops.length := by rw [HOL2.out]; exact hlt
            obtain ⟨bO, off, rfl, hbO, hce⟩ := (HOPS.out.below hb.out).at1 hkl
            have f0 := hce 0 (by omega)
            have f1 := hce 1 (by omega)
            have f2 := hce 2 (by omega)
            have f3 := hce 3 (by omega)
            rw [Nat.add_zero] at f0
            obtain ⟨hwx, hlp, hchs⟩ := HOK.out _ (List.getElem_mem hkl)
            clear hce
            generalize ops[k] = op at *
            obtain ⟨wh, x, PA, pn, pc, pl⟩ := op
            dsimp only at hlp hchs hwx
            simp [focs] at f0 f1 f2 f3
            have i1 : (0 : Int) ≤ k := by omega
            have i2 : (k : Int) < on := by omega
            have x3 : Below wr.heap.size wr (wr.alloc (.cells #[.int .i64 wh, .int .i64 x.f, .int .i64 x.t, .slice PA pn pc] 41)) := (Below.refl _ _).alloc (Nat.le_refl _) _
            have R3 : RawAt 41 (wr.alloc (.cells #[.int .i64 wh, .int .i64 x.f, .int .i64 x.t, .slice PA pn pc] 41)) wr.heap.size #[.int .i64 wh, .int .i64 x.f, .int .i64 x.t, .slice PA pn pc] := heap_alloc_new wr _
            have x4 : Below (wr.alloc (.cells #[.int .i64 wh, .int .i64 x.f, .int .i64 x.t, .slice PA pn pc] 41)).heap.size (wr.alloc (.cells #[.int .i64 wh, .int .i64 x.f, .int .i64 x.t, .slice PA pn pc] 41)) ((wr.alloc (.cells #[.int .i64 wh, .int .i64 x.f, .int .i64 x.t, .slice PA pn pc] 41)).alloc (.cells #[.int .i64 nn, .slice A q c, .int .i64 0] 29)) := (Below.refl _ _).alloc (Nat.le_refl _) _
            have R4 : RawAt 29 ((wr.alloc (.cells #[.int .i64 wh, .int .i64 x.f, .int .i64 x.t, .slice PA pn pc] 41)).alloc (.cells #[.int .i64 nn, .slice A q c, .int .i64 0] 29)) (wr.alloc (.cells #[.int .i64 wh, .int .i64 x.f, .int .i64 x.t, .slice PA pn pc] 41)).heap.size #[.int .i64 nn, .slice A q c, .int .i64 0] := heap_alloc_new _ _
            rw [show (wr.alloc (.cells #[.int .i64 wh, .int .i64 x.f, .int .i64 x.t, .slice PA pn pc] 41)).heap.size = wr.heap.size + 1 by simp] at R4
            have x34 := x3.trans (x4.mono x3.size)
            have H11T := Lib.hid (R3.below x4 R3.lt)
            have H13T := Lib.hid R4
            have HBT := Lib.hid (hb.out.trans (x34.mono hb.out.size))
            have HST := Lib.hid (hS.out.below x34)
            have H9T := Lib.hid (hR9.out.below x34 hR9.out.lt)
            have HRAT := Lib.hid (hRA.out.below x34)
            have HCHS := Lib.hid (hchs.below HBT.out)
            have HB13L : Hid (w.heap.size ≤ (wr.heap.size + 1)) := Lib.hid (by have := hb.out.size; omega)
            have HNE : Hid (b3 ≠ (wr.heap.size + 1)) := Lib.hid (by have := hR9.out.lt; omega)
            have c9 := hR9.out.below x3 hR9.out.lt
            have cc0 := RawAt.cell c9 0
            have cc1 := RawAt.cell c9 1
            have cc2 := RawAt.cell c9 2
            simp at cc0 cc1 cc2
            clear hchs hb hS hR9 hRA x3 x4 x34 R3 R4 c9
            by_cases p0 : wh = 0
            · subst wh
              obtain ⟨r, hr⟩ : ∃ r, r = fwrong nn (o ++ [x]) := ⟨_, rfl⟩
              have CA := Lib.hid (fAdd_any HST.out (by have := HI.out.len; omega) x (fun a ha => by rcases List.mem_append.1 ha with g | g; exact HI.out.wf a g; rw [List.mem_singleton.1 g]; exact hwx) r hr.symm)
              have CB := Lib.hid fun (W : World) (hW : RowsAt encF 2 W A o) => rAdd15 nn 0 A q c o x W hW HCA.out HQ.out (by have := HI.out.len; have := HQ.out; omega) r hr.symm
              go_wp2_with fail
              with_reducible refine CA.out.mono ?_
              rintro e w5 ⟨p5, rfl, hnil, hok, b5⟩
              have HB5 := Lib.hid (HBT.out.trans (b5.mono HBT.out.size))
              have HS5 := Lib.hid (HST.out.below b5)
              have H95 := Lib.hid (H9T.out.below b5 H9T.out.lt)
              have HRA5 := Lib.hid (HRAT.out.below b5)
              have H115 := Lib.hid (H11T.out.below b5 H11T.out.lt)
              have H135 := Lib.hid (H13T.out.below b5 H13T.out.lt)
              have cc0 := RawAt.cell H95.out 0
              have cc1 := RawAt.cell H95.out 1
              have cc2 := RawAt.cell H95.out 2
              simp at cc0 cc1 cc2
              have d1 := RawAt.cell H115.out 1
              have d2 := RawAt.cell H115.out 2
              simp at d1 d2
              by_cases hz : r = 0
              · have HI27 : Hid (FInv nn (ord flt (o ++ [x]))) := Lib.hid (FInv.of_ord (hr.symm.trans hz))
                subst hz
                obtain ⟨sb2, rfl, hS2⟩ := hok rfl
                have HS25 := Lib.hid hS2
                clear hnil hok b5 hS2 CA HBT HST H9T HRAT H11T H13T hr
                go_wp2_with fail
                with_reducible refine (CB.out _ HRA5.out).mono ?_
                rintro e w6 ⟨n2, A2, m2, c2, rfl, hres, b6⟩
                obtain ⟨e2, em, hR26, hC2⟩ := hres (by first | exact trivial | rfl)
                have e2 := e2.symm
                subst e2
                obtain ⟨o2, ho2⟩ : ∃ o2, o2 = ord flt (o ++ [x]) := ⟨_, rfl⟩
                have hS26 := HS25.out.below b6
                rw [← ho2] at hR26 hS26 HI27
                have HC27 := Lib.hid hC2
                have HQ27 : Hid (o2.length = m2) := Lib.hid (by rw [ho2, (ord_perm flt flt_swo _).length_eq, em])
                have hB6 := HB5.out.trans (b6.mono HB5.out.size)
                have hS6 := HS5.out.below b6
                have h96 := H95.out.below b6 H95.out.lt
                have hRA6 := HRA5.out.below b6
                have h136 := H135.out.below b6 H135.out.lt
                clear hres hC2 ho2 b6 CB em HB5 HS5 H95 HRA5 H115 H135 HS25
                have z0 := RawAt.cell h136 0
                have z1 := RawAt.cell h136 1
                have z2 := RawAt.cell h136 2
                simp at z0 z1 z2
                have f0 := RawAt.free h136 0
                have f1 := RawAt.free h136 1
                have f2 := RawAt.free h136 2
                have h137 := raw_set3 h136 nn A2 m2 c2 0
                have y0 := RawAt.cell h137 0
                have y1 := RawAt.cell h137 1
                have y2 := RawAt.cell h137 2
                simp at y0 y1 y2
                have hB7 := below_set3 hB6 HB13L.out (.int .i64 nn) (.slice A2 m2 c2) (.int .i64 0)
                have hS7 := FSet.apart3 hS6 h136 (.int .i64 nn) (.slice A2 m2 c2) (.int .i64 0)
                have h97 := raw_apart3 h96 HNE.out (.int .i64 nn) (.slice A2 m2 c2) (.int .i64 0)
                have hRA7 := rows_apart3F hRA6 h136 nn A2 m2 c2 0
                have v0 := RawAt.cell h97 0
                have v1 := RawAt.cell h97 1
                have v2 := RawAt.cell h97 2
                simp at v0 v1 v2
                have hS27 := FSet.apart3 hS26 h136 (.int .i64 nn) (.slice A2 m2 c2) (.int .i64 0)
                have hR27 := rows_apart3F hR26 h136 nn A2 m2 c2 0
                obtain ⟨W7, hW7⟩ : ∃ W7, W7 = ((((w6.setCell ⟨(wr.heap.size + 1), 0, none⟩ (.int .i64 nn)).setCell ⟨(wr.heap.size + 1), 1, none⟩ (.slice A2 m2 c2)).setCell ⟨(wr.heap.size + 1), 2, none⟩ (.int .i64 0))) := ⟨_, rfl⟩
                rw [← hW7] at hB7 hS7 h97 hRA7 h137 hS27 hR27
                have HB7 := Lib.hid hB7
                have HS7 := Lib.hid hS7
                have H97 := Lib.hid h97
                have HRA7 := Lib.hid hRA7
                have H137 := Lib.hid h137
                have HS27 := Lib.hid hS27
                have HR27 := Lib.hid hR27
                have HW7 := Lib.hid hW7
                clear hW7 hB7 hS7 h97 hRA7 h137 hS27 hR27 hB6 hS6 h96 hRA6 h136 hS26 hR26
                have CI1 := Lib.hid (fIs_set HS27.out _ m2 c2 HR27.out HC27.out HQ27.out (by have := HI27.out.len; have := HQ27.out; omega) HI27.out.good)
                go_wp2_with fail
                rw [← HW7.out]
                clear HW7
                with_reducible refine CI1.out.mono ?_
                rintro e w8 ⟨rfl, b8⟩
                have hB8 := HB7.out.trans (b8.mono HB7.out.size)
                have hS8 := HS7.out.below b8
                have h98 := H97.out.below b8 H97.out.lt
                have h138 := H137.out.below b8 H137.out.lt
                have hRA8 := HRA7.out.below b8
                have hS28 := HS27.out.below b8
                have hR28 := HR27.out.below b8
                have CI2 := Lib.hid (fIs_set hS8 A q c hRA8 HCA.out HQ.out (by have := HI.out.len; have := HQ.out; omega) HI.out.good)
                have cc0 := RawAt.cell h98 0
                have cc1 := RawAt.cell h98 1
                have cc2 := RawAt.cell h98 2
                simp at cc0 cc1 cc2
                have HB8 := Lib.hid hB8
                have H98 := Lib.hid h98
                have H138 := Lib.hid h138
                have HS28 := Lib.hid hS28
                have HR28 := Lib.hid hR28
                clear hB8 hS8 h98 h138 hRA8 hS28 hR28 b8 CI1 HB7 HS7 H97 H137 HRA7 HS27 HR27
                go_wp2_with fail
                with_reducible refine CI2.out.mono ?_
                rintro e w9 ⟨rfl, b9⟩
                have hB9 := HB8.out.trans (b9.mono HB8.out.size)
                have h99 := H98.out.below b9 H98.out.lt
                have h139 := H138.out.below b9 H138.out.lt
                have hS29 := HS28.out.below b9
                have hR29 := HR28.out.below b9
                have y0 := RawAt.cell h139 0
                have y1 := RawAt.cell h139 1
                have y2 := RawAt.cell h139 2
                simp at y0 y1 y2
                have z0 := RawAt.cell h99 0
                have z1 := RawAt.cell h99 1
                have z2 := RawAt.cell h99 2
                simp at z0 z1 z2
                have f0 := RawAt.free h99 0
                have f1 := RawAt.free h99 1
                have f2 := RawAt.free h99 2
                have HB10 := Lib.hid (below_set3 hB9 HB3L.out (.int .i64 nn) (.slice A2 m2 c2) (.int .i64 0))
                have H910 := Lib.hid (raw_set3 h99 nn A2 m2 c2 0)
                have HS10 := Lib.hid (FSet.apart3 hS29 h99 (.int .i64 nn) (.slice A2 m2 c2) (.int .i64 0))
                have HR10 := Lib.hid (rows_apart3F hR29 h99 nn A2 m2 c2 0)
                clear hB9 h99 h139 hS29 hR29 b9 CI2 HB8 H98 H138 HS28 HR28
                go_wp2
                go_roundg (gk - 1)
                case measure => omega
                case rel => exact ⟨k + 1, m2, sb2, nn, o2, A2, c2, by go_num, by omega, by omega, rfl, HB10, HS10, H910, HR10, HC27, HQ27, HI27⟩
              · have HZ := Lib.hid hz
                have hp5 := hnil hz
                subst hp5
                clear hnil hok b5 CA HBT HST H9T HRAT H11T H13T hr hz
                go_wp2_with fail
                with_reducible refine (CB.out _ HRA5.out).mono ?_
                rintro e w6 ⟨n2, A2, m2, c2, rfl, _, b6⟩
                have hB6 := HB5.out.trans (b6.mono HB5.out.size)
                have hS6 := HS5.out.below b6
                have h96 := H95.out.below b6 H95.out.lt
                have hRA6 := HRA5.out.below b6
                have h136 := H135.out.below b6 H135.out.lt
                clear b6 CB HB5 HS5 H95 HRA5 H115 H135
                have z0 := RawAt.cell h136 0
                have z1 := RawAt.cell h136 1
                have z2 := RawAt.cell h136 2
                simp at z0 z1 z2
                have f0 := RawAt.free h136 0
                have f1 := RawAt.free h136 1
                have f2 := RawAt.free h136 2
                have h137 := raw_set3 h136 n2 A2 m2 c2 r
                have y0 := RawAt.cell h137 0
                have y1 := RawAt.cell h137 1
                have y2 := RawAt.cell h137 2
                simp at y0 y1 y2
                have hB7 := below_set3 hB6 HB13L.out (.int .i64 n2) (.slice A2 m2 c2) (.int .i64 r)
                have hS7 := FSet.apart3 hS6 h136 (.int .i64 n2) (.slice A2 m2 c2) (.int .i64 r)
                have h97 := raw_apart3 h96 HNE.out (.int .i64 n2) (.slice A2 m2 c2) (.int .i64 r)
                have hRA7 := rows_apart3F hRA6 h136 n2 A2 m2 c2 r
                have v0 := RawAt.cell h97 0
                have v1 := RawAt.cell h97 1
                have v2 := RawAt.cell h97 2
                simp at v0 v1 v2
                obtain ⟨W7, hW7⟩ : ∃ W7, W7 = ((((w6.setCell ⟨(wr.heap.size + 1), 0, none⟩ (.int .i64 n2)).setCell ⟨(wr.heap.size + 1), 1, none⟩ (.slice A2 m2 c2)).setCell ⟨(wr.heap.size + 1), 2, none⟩ (.int .i64 r))) := ⟨_, rfl⟩
                rw [← hW7] at hB7 hS7 h97 hRA7 h137
                have HB7 := Lib.hid hB7
                have HS7 := Lib.hid hS7
                have H97 := Lib.hid h97
                have HRA7 := Lib.hid hRA7
                have H137 := Lib.hid h137
                have HW7 := Lib.hid hW7
                clear hW7 hB7 hS7 h97 hRA7 h137 hB6 hS6 h96 hRA6 h136
                have CI1 := Lib.hid fun (W : World) => fIs_none n2 r A2 m2 c2 W HZ.out
                have k5 : (r != (0 : Int)) = true := by first | decide | simp [HZ.out]
                have k6 : (r == (0 : Int)) = false := by first | decide | simp [HZ.out]
                have k7 : decide (r = (0 : Int)) = false := decide_eq_false HZ.out
                go_wp2_with fail
                rw [← HW7.out]
                clear HW7
                with_reducible refine (CI1.out _).mono ?_
                rintro e w8 ⟨rfl, b8⟩
                have hB8 := HB7.out.trans (b8.mono HB7.out.size)
                have hS8 := HS7.out.below b8
                have h98 := H97.out.below b8 H97.out.lt
                have hRA8 := HRA7.out.below b8
                have CI2 := Lib.hid (fIs_set hS8 A q c hRA8 HCA.out HQ.out (by have := HI.out.len; have := HQ.out; omega) HI.out.good)
                have cc0 := RawAt.cell h98 0
                have cc1 := RawAt.cell h98 1
                have cc2 := RawAt.cell h98 2
                simp at cc0 cc1 cc2
                have HB8 := Lib.hid hB8
                have H98 := Lib.hid h98
                have HS8 := Lib.hid hS8
                have HRA8 := Lib.hid hRA8
                clear hB8 hS8 h98 hRA8 b8 CI1 HB7 HS7 H97 H137 HRA7
                go_wp2_with fail
                with_reducible refine CI2.out.mono ?_
                rintro e w9 ⟨rfl, b9⟩
                have HB9 := Lib.hid (HB8.out.trans (b9.mono HB8.out.size))
                have H99 := Lib.hid (H98.out.below b9 H98.out.lt)
                have HS9 := Lib.hid (HS8.out.below b9)
                have HRA9 := Lib.hid (HRA8.out.below b9)
                clear b9 CI2 HB8 H98 HS8 HRA8
                go_wp2
                go_roundg (gk - 1)
                case measure => omega
                case rel => exact ⟨k + 1, q, sb, nn, o, A, c, by go_num, by omega, by omega, rfl, HB9, HS9, H99, HRA9, HCA, HQ, HI⟩
            · by_cases p1 : wh = 1
              · subst wh
                obtain ⟨r, hr⟩ : ∃ r, r = fwrong nn (o ++ [x]) := ⟨_, rfl⟩
                have CA := Lib.hid (fAdd_any HST.out (by have := HI.out.len; omega) x (fun a ha => by rcases List.mem_append.1 ha with g | g; exact HI.out.wf a g; rw [List.mem_singleton.1 g]; exact hwx) r hr.symm)
                have CB := Lib.hid fun (W : World) (hW : RowsAt encF 2 W A o) => rAdd15 nn 0 A q c o x W hW HCA.out HQ.out (by have := HI.out.len; have := HQ.out; omega) r hr.symm
                go_wp2_with fail
                with_reducible refine CA.out.mono ?_
                rintro e w5 ⟨p5, rfl, hnil, hok, b5⟩
                have HB5 := Lib.hid (HBT.out.trans (b5.mono HBT.out.size))
                have HS5 := Lib.hid (HST.out.below b5)
                have H95 := Lib.hid (H9T.out.below b5 H9T.out.lt)
                have HRA5 := Lib.hid (HRAT.out.below b5)
                have H115 := Lib.hid (H11T.out.below b5 H11T.out.lt)
                have H135 := Lib.hid (H13T.out.below b5 H13T.out.lt)
                have cc0 := RawAt.cell H95.out 0
                have cc1 := RawAt.cell H95.out 1
                have cc2 := RawAt.cell H95.out 2
                simp at cc0 cc1 cc2
                have d1 := RawAt.cell H115.out 1
                have d2 := RawAt.cell H115.out 2
                simp at d1 d2
                by_cases hz : r = 0
                · have HI27 : Hid (FInv nn (ord flt (o ++ [x]))) := Lib.hid (FInv.of_ord (hr.symm.trans hz))
                  subst hz
                  obtain ⟨sb2, rfl, hS2⟩ := hok rfl
                  have HS25 := Lib.hid hS2
                  clear hnil hok b5 hS2 CA HBT HST H9T HRAT H11T H13T hr
                  go_wp2_with fail
                  with_reducible refine (CB.out _ HRA5.out).mono ?_
                  rintro e w6 ⟨n2, A2, m2, c2, rfl, hres, b6⟩
                  obtain ⟨e2, em, hR26, hC2⟩ := hres (by first | exact trivial | rfl)
                  have e2 := e2.symm
                  subst e2
                  obtain ⟨o2, ho2⟩ : ∃ o2, o2 = ord flt (o ++ [x]) := ⟨_, rfl⟩
                  have hS26 := HS25.out.below b6
                  rw [← ho2] at hR26 hS26 HI27
                  have HC27 := Lib.hid hC2
                  have HQ27 : Hid (o2.length = m2) := Lib.hid (by rw [ho2, (ord_perm flt flt_swo _).length_eq, em])
                  have hB6 := HB5.out.trans (b6.mono HB5.out.size)
                  have hS6 := HS5.out.below b6
                  have h96 := H95.out.below b6 H95.out.lt
                  have hRA6 := HRA5.out.below b6
                  have h136 := H135.out.below b6 H135.out.lt
                  clear hres hC2 ho2 b6 CB em HB5 HS5 H95 HRA5 H115 H135 HS25
                  have z0 := RawAt.cell h136 0
                  have z1 := RawAt.cell h136 1
                  have z2 := RawAt.cell h136 2
                  simp at z0 z1 z2
                  have f0 := RawAt.free h136 0
                  have f1 := RawAt.free h136 1
                  have f2 := RawAt.free h136 2
                  have h137 := raw_set3 h136 nn A2 m2 c2 0
                  have y0 := RawAt.cell h137 0
                  have y1 := RawAt.cell h137 1
                  have y2 := RawAt.cell h137 2
                  simp at y0 y1 y2
                  have hB7 := below_set3 hB6 HB13L.out (.int .i64 nn) (.slice A2 m2 c2) (.int .i64 0)
                  have hS7 := FSet.apart3 hS6 h136 (.int .i64 nn) (.slice A2 m2 c2) (.int .i64 0)
                  have h97 := raw_apart3 h96 HNE.out (.int .i64 nn) (.slice A2 m2 c2) (.int .i64 0)
                  have hRA7 := rows_apart3F hRA6 h136 nn A2 m2 c2 0
                  have v0 := RawAt.cell h97 0
                  have v1 := RawAt.cell h97 1
                  have v2 := RawAt.cell h97 2
                  simp at v0 v1 v2
                  have hS27 := FSet.apart3 hS26 h136 (.int .i64 nn) (.slice A2 m2 c2) (.int .i64 0)
                  have hR27 := rows_apart3F hR26 h136 nn A2 m2 c2 0
                  obtain ⟨W7, hW7⟩ : ∃ W7, W7 = ((((w6.setCell ⟨(wr.heap.size + 1), 0, none⟩ (.int .i64 nn)).setCell ⟨(wr.heap.size + 1), 1, none⟩ (.slice A2 m2 c2)).setCell ⟨(wr.heap.size + 1), 2, none⟩ (.int .i64 0))) := ⟨_, rfl⟩
                  rw [← hW7] at hB7 hS7 h97 hRA7 h137 hS27 hR27
                  have HB7 := Lib.hid hB7
                  have HS7 := Lib.hid hS7
                  have H97 := Lib.hid h97
                  have HRA7 := Lib.hid hRA7
                  have H137 := Lib.hid h137
                  have HS27 := Lib.hid hS27
                  have HR27 := Lib.hid hR27
                  have HW7 := Lib.hid hW7
                  clear hW7 hB7 hS7 h97 hRA7 h137 hS27 hR27 hB6 hS6 h96 hRA6 h136 hS26 hR26
                  have CI1 := Lib.hid (fIs_set HS27.out _ m2 c2 HR27.out HC27.out HQ27.out (by have := HI27.out.len; have := HQ27.out; omega) HI27.out.good)
                  go_wp2_with fail
                  rw [← HW7.out]
                  clear HW7
                  with_reducible refine CI1.out.mono ?_
                  rintro e w8 ⟨rfl, b8⟩
                  have hB8 := HB7.out.trans (b8.mono HB7.out.size)
                  have hS8 := HS7.out.below b8
                  have h98 := H97.out.below b8 H97.out.lt
                  have h138 := H137.out.below b8 H137.out.lt
                  have hRA8 := HRA7.out.below b8
                  have hS28 := HS27.out.below b8
                  have hR28 := HR27.out.below b8
                  have CI2 := Lib.hid (fIs_set hS8 A q c hRA8 HCA.out HQ.out (by have := HI.out.len; have := HQ.out; omega) HI.out.good)
                  have cc0 := RawAt.cell h98 0
                  have cc1 := RawAt.cell h98 1
                  have cc2 := RawAt.cell h98 2
                  simp at cc0 cc1 cc2
                  have HB8 := Lib.hid hB8
                  have H98 := Lib.hid h98
                  have H138 := Lib.hid h138
                  have HS28 := Lib.hid hS28
                  have HR28 := Lib.hid hR28
                  clear hB8 hS8 h98 h138 hRA8 hS28 hR28 b8 CI1 HB7 HS7 H97 H137 HRA7 HS27 HR27
                  go_wp2_with fail
                  with_reducible refine CI2.out.mono ?_
                  rintro e w9 ⟨rfl, b9⟩
                  have hB9 := HB8.out.trans (b9.mono HB8.out.size)
                  have h99 := H98.out.below b9 H98.out.lt
                  have h139 := H138.out.below b9 H138.out.lt
                  have hS29 := HS28.out.below b9
                  have hR29 := HR28.out.below b9
                  have y0 := RawAt.cell h139 0
                  have y1 := RawAt.cell h139 1
                  have y2 := RawAt.cell h139 2
                  simp at y0 y1 y2
                  have z0 := RawAt.cell h99 0
                  have z1 := RawAt.cell h99 1
                  have z2 := RawAt.cell h99 2
                  simp at z0 z1 z2
                  have f0 := RawAt.free h99 0
                  have f1 := RawAt.free h99 1
                  have f2 := RawAt.free h99 2
                  have HB10 := Lib.hid (below_set3 hB9 HB3L.out (.int .i64 nn) (.slice A2 m2 c2) (.int .i64 0))
                  have H910 := Lib.hid (raw_set3 h99 nn A2 m2 c2 0)
                  have HS10 := Lib.hid (FSet.apart3 hS29 h99 (.int .i64 nn) (.slice A2 m2 c2) (.int .i64 0))
                  have HR10 := Lib.hid (rows_apart3F hR29 h99 nn A2 m2 c2 0)
                  clear hB9 h99 h139 hS29 hR29 b9 CI2 HB8 H98 H138 HS28 HR28
                  go_wp2
                  go_roundg (gk - 1)
                  case measure => omega
                  case rel => exact ⟨k + 1, m2, sb2, nn, o2, A2, c2, by go_num, by omega, by omega, rfl, HB10, HS10, H910, HR10, HC27, HQ27, HI27⟩
                · have HZ := Lib.hid hz
                  have hp5 := hnil hz
                  subst hp5
                  clear hnil hok b5 CA HBT HST H9T HRAT H11T H13T hr hz
                  go_wp2_with fail
                  with_reducible refine (CB.out _ HRA5.out).mono ?_
                  rintro e w6 ⟨n2, A2, m2, c2, rfl, _, b6⟩
                  have hB6 := HB5.out.trans (b6.mono HB5.out.size)
                  have hS6 := HS5.out.below b6
                  have h96 := H95.out.below b6 H95.out.lt
                  have hRA6 := HRA5.out.below b6
                  have h136 := H135.out.below b6 H135.out.lt
                  clear b6 CB HB5 HS5 H95 HRA5 H115 H135
                  have z0 := RawAt.cell h136 0
                  have z1 := RawAt.cell h136 1
                  have z2 := RawAt.cell h136 2
                  simp at z0 z1 z2
                  have f0 := RawAt.free h136 0
                  have f1 := RawAt.free h136 1
                  have f2 := RawAt.free h136 2
                  have h137 := raw_set3 h136 n2 A2 m2 c2 r
                  have y0 := RawAt.cell h137 0
                  have y1 := RawAt.cell h137 1
                  have y2 := RawAt.cell h137 2
                  simp at y0 y1 y2
                  have hB7 := below_set3 hB6 HB13L.out (.int .i64 n2) (.slice A2 m2 c2) (.int .i64 r)
                  have hS7 := FSet.apart3 hS6 h136 (.int .i64 n2) (.slice A2 m2 c2) (.int .i64 r)
                  have h97 := raw_apart3 h96 HNE.out (.int .i64 n2) (.slice A2 m2 c2) (.int .i64 r)
                  have hRA7 := rows_apart3F hRA6 h136 n2 A2 m2 c2 r
                  have v0 := RawAt.cell h97 0
                  have v1 := RawAt.cell h97 1
                  have v2 := RawAt.cell h97 2
                  simp at v0 v1 v2
                  obtain ⟨W7, hW7⟩ : ∃ W7, W7 = ((((w6.setCell ⟨(wr.heap.size + 1), 0, none⟩ (.int .i64 n2)).setCell ⟨(wr.heap.size + 1), 1, none⟩ (.slice A2 m2 c2)).setCell ⟨(wr.heap.size + 1), 2, none⟩ (.int .i64 r))) := ⟨_, rfl⟩
                  rw [← hW7] at hB7 hS7 h97 hRA7 h137
                  have HB7 := Lib.hid hB7
                  have HS7 := Lib.hid hS7
                  have H97 := Lib.hid h97
                  have HRA7 := Lib.hid hRA7
                  have H137 := Lib.hid h137
                  have HW7 := Lib.hid hW7
                  clear hW7 hB7 hS7 h97 hRA7 h137 hB6 hS6 h96 hRA6 h136
                  have CI1 := Lib.hid fun (W : World) => fIs_none n2 r A2 m2 c2 W HZ.out
                  have k5 : (r != (0 : Int)) = true := by first | decide | simp [HZ.out]
                  have k6 : (r == (0 : Int)) = false := by first | decide | simp [HZ.out]
                  have k7 : decide (r = (0 : Int)) = false := decide_eq_false HZ.out
                  go_wp2_with fail
                  rw [← HW7.out]
                  clear HW7
                  with_reducible refine (CI1.out _).mono ?_
                  rintro e w8 ⟨rfl, b8⟩
                  have hB8 := HB7.out.trans (b8.mono HB7.out.size)
                  have hS8 := HS7.out.below b8
                  have h98 := H97.out.below b8 H97.out.lt
                  have hRA8 := HRA7.out.below b8
                  have CI2 := Lib.hid (fIs_set hS8 A q c hRA8 HCA.out HQ.out (by have := HI.out.len; have := HQ.out; omega) HI.out.good)
                  have cc0 := RawAt.cell h98 0
                  have cc1 := RawAt.cell h98 1
                  have cc2 := RawAt.cell h98 2
                  simp at cc0 cc1 cc2
                  have HB8 := Lib.hid hB8
                  have H98 := Lib.hid h98
                  have HS8 := Lib.hid hS8
                  have HRA8 := Lib.hid hRA8
                  clear hB8 hS8 h98 hRA8 b8 CI1 HB7 HS7 H97 H137 HRA7
                  go_wp2_with fail
                  with_reducible refine CI2.out.mono ?_
                  rintro e w9 ⟨rfl, b9⟩
                  have HB9 := Lib.hid (HB8.out.trans (b9.mono HB8.out.size))
                  have H99 := Lib.hid (H98.out.below b9 H98.out.lt)
                  have HS9 := Lib.hid (HS8.out.below b9)
                  have HRA9 := Lib.hid (HRA8.out.below b9)
                  clear b9 CI2 HB8 H98 HS8 HRA8
                  go_wp2
                  go_roundg (gk - 1)
                  case measure => omega
                  case rel => exact ⟨k + 1, q, sb, nn, o, A, c, by go_num, by omega, by omega, rfl, HB9, HS9, H99, HRA9, HCA, HQ, HI⟩
              · by_cases p2 : wh = 2
                · subst wh
                  by_cases hf : fsp x nn
                  · have CA := Lib.hid (fRemove_any HST.out (by have := HI.out.len; omega) x)
                    rw [if_pos hf] at CA
                    have CB := Lib.hid fun (W : World) (hW : RowsAt encF 2 W A o) => rRemove15 nn 0 A q c o x W hW HQ.out (by have := HI.out.len; have := HQ.out; omega) 0 (by rw [if_pos hf]; exact (HI.out.keep x).ok.symm)
                    go_wp2_with fail
                    with_reducible refine CA.out.mono ?_
                    rintro e w5 ⟨p5, kk, rfl, hok, hno, b5⟩
                    have HB5 := Lib.hid (HBT.out.trans (b5.mono HBT.out.size))
                    have HS5 := Lib.hid (HST.out.below b5)
                    have H95 := Lib.hid (H9T.out.below b5 H9T.out.lt)
                    have HRA5 := Lib.hid (HRAT.out.below b5)
                    have H115 := Lib.hid (H11T.out.below b5 H11T.out.lt)
                    have H135 := Lib.hid (H13T.out.below b5 H13T.out.lt)
                    have cc0 := RawAt.cell H95.out 0
                    have cc1 := RawAt.cell H95.out 1
                    have cc2 := RawAt.cell H95.out 2
                    simp at cc0 cc1 cc2
                    have d1 := RawAt.cell H115.out 1
                    have d2 := RawAt.cell H115.out 2
                    simp at d1 d2
                    obtain ⟨hkk0, sb2, rfl, hS2⟩ := hok hf
                    clear hno
                    have HI27 : Hid (FInv nn (ord flt (fkeep x o))) := Lib.hid (by rw [(HI.out.keep x).srt]; exact HI.out.keep x)
                    have HS25 : Hid (FSet w5 sb2 nn (ord flt (fkeep x o))) := Lib.hid (by rw [(HI.out.keep x).srt]; exact hS2)
                    have HKK : Hid (kk = (o.length : Int) - ((fkeep x o).length : Int)) := Lib.hid hkk0
                    clear hkk0
                    clear hok b5 hS2 CA HBT HST H9T HRAT H11T H13T hf
                    go_wp2_with fail
                    with_reducible refine (CB.out _ HRA5.out).mono ?_
                    rintro e w6 ⟨n2, A2, m2, c2, rfl, hres, b6⟩
                    obtain ⟨e2, em, hR26, hC2⟩ := hres (by first | exact trivial | rfl)
                    have e2 := e2.symm
                    subst e2
                    obtain ⟨o2, ho2⟩ : ∃ o2, o2 = ord flt (fkeep x o) := ⟨_, rfl⟩
                    have hS26 := HS25.out.below b6
                    rw [← ho2] at hR26 hS26 HI27
                    have HC27 := Lib.hid hC2
                    have HQ27 : Hid (o2.length = m2) := Lib.hid (by rw [ho2, (ord_perm flt flt_swo _).length_eq, em])
                    have hB6 := HB5.out.trans (b6.mono HB5.out.size)
                    have hS6 := HS5.out.below b6
                    have h96 := H95.out.below b6 H95.out.lt
                    have hRA6 := HRA5.out.below b6
                    have h136 := H135.out.below b6 H135.out.lt
                    clear hres hC2 ho2 b6 CB HB5 HS5 H95 HRA5 H115 H135 HS25
                    have hkk := HKK.out
                    rw [← em, HQ.out] at hkk
                    have hkl2 := fkeep_len x o
                    rw [← em, HQ.out] at hkl2
                    have hq60 := HI.out.len
                    rw [HQ.out] at hq60
                    have hwr : IntKind.i64.wrap ((q : Int) - (m2 : Int)) = (q : Int) - (m2 : Int) := IntWalk.i64_in _ (by omega)
                    subst hkk
                    clear em hkl2 hq60 HKK
                    have z0 := RawAt.cell h136 0
                    have z1 := RawAt.cell h136 1
                    have z2 := RawAt.cell h136 2
                    simp at z0 z1 z2
                    have f0 := RawAt.free h136 0
                    have f1 := RawAt.free h136 1
                    have f2 := RawAt.free h136 2
                    have h137 := raw_set3 h136 nn A2 m2 c2 0
                    have y0 := RawAt.cell h137 0
                    have y1 := RawAt.cell h137 1
                    have y2 := RawAt.cell h137 2
                    simp at y0 y1 y2
                    have hB7 := below_set3 hB6 HB13L.out (.int .i64 nn) (.slice A2 m2 c2) (.int .i64 0)
                    have hS7 := FSet.apart3 hS6 h136 (.int .i64 nn) (.slice A2 m2 c2) (.int .i64 0)
                    have h97 := raw_apart3 h96 HNE.out (.int .i64 nn) (.slice A2 m2 c2) (.int .i64 0)
                    have hRA7 := rows_apart3F hRA6 h136 nn A2 m2 c2 0
                    have v0 := RawAt.cell h97 0
                    have v1 := RawAt.cell h97 1
                    have v2 := RawAt.cell h97 2
                    simp at v0 v1 v2
                    have hS27 := FSet.apart3 hS26 h136 (.int .i64 nn) (.slice A2 m2 c2) (.int .i64 0)
                    have hR27 := rows_apart3F hR26 h136 nn A2 m2 c2 0
                    obtain ⟨W7, hW7⟩ : ∃ W7, W7 = ((((w6.setCell ⟨(wr.heap.size + 1), 0, none⟩ (.int .i64 nn)).setCell ⟨(wr.heap.size + 1), 1, none⟩ (.slice A2 m2 c2)).setCell ⟨(wr.heap.size + 1), 2, none⟩ (.int .i64 0))) := ⟨_, rfl⟩
                    rw [← hW7] at hB7 hS7 h97 hRA7 h137 hS27 hR27
                    have HB7 := Lib.hid hB7
                    have HS7 := Lib.hid hS7
                    have H97 := Lib.hid h97
                    have HRA7 := Lib.hid hRA7
                    have H137 := Lib.hid h137
                    have HS27 := Lib.hid hS27
                    have HR27 := Lib.hid hR27
                    have HW7 := Lib.hid hW7
                    clear hW7 hB7 hS7 h97 hRA7 h137 hS27 hR27 hB6 hS6 h96 hRA6 h136 hS26 hR26
                    have CI1 := Lib.hid (fIs_set HS27.out _ m2 c2 HR27.out HC27.out HQ27.out (by have := HI27.out.len; have := HQ27.out; omega) HI27.out.good)
                    go_wp2_with fail
                    rw [← HW7.out]
                    clear HW7
                    with_reducible refine CI1.out.mono ?_
                    rintro e w8 ⟨rfl, b8⟩
                    have hB8 := HB7.out.trans (b8.mono HB7.out.size)
                    have hS8 := HS7.out.below b8
                    have h98 := H97.out.below b8 H97.out.lt
                    have h138 := H137.out.below b8 H137.out.lt
                    have hRA8 := HRA7.out.below b8
                    have hS28 := HS27.out.below b8
                    have hR28 := HR27.out.below b8
                    have CI2 := Lib.hid (fIs_set hS8 A q c hRA8 HCA.out HQ.out (by have := HI.out.len; have := HQ.out; omega) HI.out.good)
                    have cc0 := RawAt.cell h98 0
                    have cc1 := RawAt.cell h98 1
                    have cc2 := RawAt.cell h98 2
                    simp at cc0 cc1 cc2
                    have HB8 := Lib.hid hB8
                    have H98 := Lib.hid h98
                    have H138 := Lib.hid h138
                    have HS28 := Lib.hid hS28
                    have HR28 := Lib.hid hR28
                    clear hB8 hS8 h98 h138 hRA8 hS28 hR28 b8 CI1 HB7 HS7 H97 H137 HRA7 HS27 HR27
                    go_wp2_with fail
                    with_reducible refine CI2.out.mono ?_
                    rintro e w9 ⟨rfl, b9⟩
                    have hB9 := HB8.out.trans (b9.mono HB8.out.size)
                    have h99 := H98.out.below b9 H98.out.lt
                    have h139 := H138.out.below b9 H138.out.lt
                    have hS29 := HS28.out.below b9
                    have hR29 := HR28.out.below b9
                    have y0 := RawAt.cell h139 0
                    have y1 := RawAt.cell h139 1
                    have y2 := RawAt.cell h139 2
                    simp at y0 y1 y2
                    have z0 := RawAt.cell h99 0
                    have z1 := RawAt.cell h99 1
                    have z2 := RawAt.cell h99 2
                    simp at z0 z1 z2
                    have f0 := RawAt.free h99 0
                    have f1 := RawAt.free h99 1
                    have f2 := RawAt.free h99 2
                    have HB10 := Lib.hid (below_set3 hB9 HB3L.out (.int .i64 nn) (.slice A2 m2 c2) (.int .i64 0))
                    have H910 := Lib.hid (raw_set3 h99 nn A2 m2 c2 0)
                    have HS10 := Lib.hid (FSet.apart3 hS29 h99 (.int .i64 nn) (.slice A2 m2 c2) (.int .i64 0))
                    have HR10 := Lib.hid (rows_apart3F hR29 h99 nn A2 m2 c2 0)
                    clear hB9 h99 h139 hS29 hR29 b9 CI2 HB8 H98 H138 HS28 HR28
                    go_wp2
                    go_roundg (gk - 1)
                    case measure => omega
                    case rel => exact ⟨k + 1, m2, sb2, nn, o2, A2, c2, by go_num, by omega, by omega, rfl, HB10, HS10, H910, HR10, HC27, HQ27, HI27⟩
                  · have CA := Lib.hid (fRemove_any HST.out (by have := HI.out.len; omega) x)
                    rw [if_neg hf] at CA
                    have CB := Lib.hid fun (W : World) (hW : RowsAt encF 2 W A o) => rRemove15 nn 0 A q c o x W hW HQ.out (by have := HI.out.len; have := HQ.out; omega) 1 (by rw [if_neg hf])
                    have HZ : Hid ((1 : Int) ≠ 0) := Lib.hid (by decide)
                    go_wp2_with fail
                    with_reducible refine CA.out.mono ?_
                    rintro e w5 ⟨p5, kk, rfl, _, hno, b5⟩
                    have HB5 := Lib.hid (HBT.out.trans (b5.mono HBT.out.size))
                    have HS5 := Lib.hid (HST.out.below b5)
                    have H95 := Lib.hid (H9T.out.below b5 H9T.out.lt)
                    have HRA5 := Lib.hid (HRAT.out.below b5)
                    have H115 := Lib.hid (H11T.out.below b5 H11T.out.lt)
                    have H135 := Lib.hid (H13T.out.below b5 H13T.out.lt)
                    have cc0 := RawAt.cell H95.out 0
                    have cc1 := RawAt.cell H95.out 1
                    have cc2 := RawAt.cell H95.out 2
                    simp at cc0 cc1 cc2
                    have d1 := RawAt.cell H115.out 1
                    have d2 := RawAt.cell H115.out 2
                    simp at d1 d2
                    obtain ⟨rfl, rfl⟩ := hno hf
                    clear hno b5 CA HBT HST H9T HRAT H11T H13T hf
                    go_wp2_with fail
                    with_reducible refine (CB.out _ HRA5.out).mono ?_
                    rintro e w6 ⟨n2, A2, m2, c2, rfl, _, b6⟩
                    have hB6 := HB5.out.trans (b6.mono HB5.out.size)
                    have hS6 := HS5.out.below b6
                    have h96 := H95.out.below b6 H95.out.lt
                    have hRA6 := HRA5.out.below b6
                    have h136 := H135.out.below b6 H135.out.lt
                    clear b6 CB HB5 HS5 H95 HRA5 H115 H135
                    have z0 := RawAt.cell h136 0
                    have z1 := RawAt.cell h136 1
                    have z2 := RawAt.cell h136 2
                    simp at z0 z1 z2
                    have f0 := RawAt.free h136 0
                    have f1 := RawAt.free h136 1
                    have f2 := RawAt.free h136 2
                    have h137 := raw_set3 h136 n2 A2 m2 c2 1
                    have y0 := RawAt.cell h137 0
                    have y1 := RawAt.cell h137 1
                    have y2 := RawAt.cell h137 2
                    simp at y0 y1 y2
                    have hB7 := below_set3 hB6 HB13L.out (.int .i64 n2) (.slice A2 m2 c2) (.int .i64 1)
                    have hS7 := FSet.apart3 hS6 h136 (.int .i64 n2) (.slice A2 m2 c2) (.int .i64 1)
                    have h97 := raw_apart3 h96 HNE.out (.int .i64 n2) (.slice A2 m2 c2) (.int .i64 1)
                    have hRA7 := rows_apart3F hRA6 h136 n2 A2 m2 c2 1
                    have v0 := RawAt.cell h97 0
                    have v1 := RawAt.cell h97 1
                    have v2 := RawAt.cell h97 2
                    simp at v0 v1 v2
                    obtain ⟨W7, hW7⟩ : ∃ W7, W7 = ((((w6.setCell ⟨(wr.heap.size + 1), 0, none⟩ (.int .i64 n2)).setCell ⟨(wr.heap.size + 1), 1, none⟩ (.slice A2 m2 c2)).setCell ⟨(wr.heap.size + 1), 2, none⟩ (.int .i64 1))) := ⟨_, rfl⟩
                    rw [← hW7] at hB7 hS7 h97 hRA7 h137
                    have HB7 := Lib.hid hB7
                    have HS7 := Lib.hid hS7
                    have H97 := Lib.hid h97
                    have HRA7 := Lib.hid hRA7
                    have H137 := Lib.hid h137
                    have HW7 := Lib.hid hW7
                    clear hW7 hB7 hS7 h97 hRA7 h137 hB6 hS6 h96 hRA6 h136
                    have CI1 := Lib.hid fun (W : World) => fIs_none n2 1 A2 m2 c2 W HZ.out
                    have k5 : (1 != (0 : Int)) = true := by first | decide | simp [HZ.out]
                    have k6 : (1 == (0 : Int)) = false := by first | decide | simp [HZ.out]
                    have k7 : decide (1 = (0 : Int)) = false := decide_eq_false HZ.out
                    go_wp2_with fail
                    rw [← HW7.out]
                    clear HW7
                    with_reducible refine (CI1.out _).mono ?_
                    rintro e w8 ⟨rfl, b8⟩
                    have hB8 := HB7.out.trans (b8.mono HB7.out.size)
                    have hS8 := HS7.out.below b8
                    have h98 := H97.out.below b8 H97.out.lt
                    have hRA8 := HRA7.out.below b8
                    have CI2 := Lib.hid (fIs_set hS8 A q c hRA8 HCA.out HQ.out (by have := HI.out.len; have := HQ.out; omega) HI.out.good)
                    have cc0 := RawAt.cell h98 0
                    have cc1 := RawAt.cell h98 1
                    have cc2 := RawAt.cell h98 2
                    simp at cc0 cc1 cc2
                    have HB8 := Lib.hid hB8
                    have H98 := Lib.hid h98
                    have HS8 := Lib.hid hS8
                    have HRA8 := Lib.hid hRA8
                    clear hB8 hS8 h98 hRA8 b8 CI1 HB7 HS7 H97 H137 HRA7
                    go_wp2_with fail
                    with_reducible refine CI2.out.mono ?_
                    rintro e w9 ⟨rfl, b9⟩
                    have HB9 := Lib.hid (HB8.out.trans (b9.mono HB8.out.size))
                    have H99 := Lib.hid (H98.out.below b9 H98.out.lt)
                    have HS9 := Lib.hid (HS8.out.below b9)
                    have HRA9 := Lib.hid (HRA8.out.below b9)
                    clear b9 CI2 HB8 H98 HS8 HRA8
                    go_wp2
                    go_roundg (gk - 1)
                    case measure => omega
                    case rel => exact ⟨k + 1, q, sb, nn, o, A, c, by go_num, by omega, by omega, rfl, HB9, HS9, H99, HRA9, HCA, HQ, HI⟩
                · by_cases p3 : wh = 3
                  · subst wh
                    by_cases g3 : 100 < pn
                    · have k3 : decide ((100 : Int) < (pn : Int)) = true := decide_eq_true (by omega)
                      clear HST H9T HRAT H13T
                      go_wp2_with fail
                      with_reducible refine (C3.out _).mono ?_
                      rintro e w8 ⟨rfl, bb⟩
                      have Q9 := Lib.hid (HBT.out.trans (bb.mono HBT.out.size))
                      clear bb
                      go_wp2
                      go_ret
                      exact ⟨rfl, Q9.out⟩
                    · have k3 : decide ((100 : Int) < (pn : Int)) = false := decide_eq_false (by omega)
                      obtain ⟨r, hr⟩ := FShIs.ex nn pl o
                      obtain ⟨nd, hnd⟩ : ∃ nd, nd = nn + dlt pl := ⟨_, rfl⟩
                      have hq60 := HI.out.len
                      have CA := Lib.hid (fShift_any HST.out PA pn pc pl HCHS.out hlp (by omega) hq60.2.1 hq60.2.2 HI.out.mem hq60.1 r hr nd hnd)
                      have CG := Lib.hid fun (W : World) (hW : Below (((wr.alloc (.cells #[.int .i64 3, .int .i64 x.f, .int .i64 x.t, .slice PA pn pc] 41)).alloc (.cells #[.int .i64 nn, .slice A q c, .int .i64 0] 29))).heap.size ((wr.alloc (.cells #[.int .i64 3, .int .i64 x.f, .int .i64 x.t, .slice PA pn pc] 41)).alloc (.cells #[.int .i64 nn, .slice A q c, .int .i64 0] 29)) W) => fchg_any PA pn pc pl W (HCHS.out.below hW) hlp (by omega)
                      have CB := Lib.hid fun (PG : Option Addr) (pg : Nat) (W : World) (hW : RowsAt encF 2 W A o) (hP : ChsAt W PG pl) => rShift15 nn 0 A q c o PG pn pg pl W hW HQ.out (by have := HQ.out; omega) hq60.2.1 hq60.2.2 HI.out.mem hP hlp (by omega) r hr
                      rw [← hnd] at CB
                      clear hq60
                      go_wp2_with fail
                      with_reducible refine CA.out.mono ?_
                      rintro e w5 ⟨p5, rfl, hnil, hok, b5⟩
                      have HT5 := Lib.hid b5
                      have HB5 := Lib.hid (HBT.out.trans (b5.mono HBT.out.size))
                      have HS5 := Lib.hid (HST.out.below b5)
                      have H95 := Lib.hid (H9T.out.below b5 H9T.out.lt)
                      have HRA5 := Lib.hid (HRAT.out.below b5)
                      have H115 := Lib.hid (H11T.out.below b5 H11T.out.lt)
                      have H135 := Lib.hid (H13T.out.below b5 H13T.out.lt)
                      by_cases hz : r = 0
                      · subst hz
                        have HI27 : Hid (FInv nd (ord flt (fshift pl o))) := Lib.hid (by rw [hnd]; exact hr.inv)
                        obtain ⟨sb2, rfl, hS2⟩ := hok rfl
                        have HS25 := Lib.hid hS2
                        clear hnil hok b5 hS2 CA HBT HST H9T HRAT H11T H13T hr hnd k3
                        have MK : Hid (∀ W : World, Below w5.heap.size w5 W → (fun W => W.cell? ⟨b3, 0, none⟩ = some (.int .i64 nn) ∧ W.cell? ⟨b3, 1, none⟩ = some (.slice A q c) ∧ W.cell? ⟨b3, 2, none⟩ = some (.int .i64 0) ∧ W.cell? ⟨wr.heap.size, 3, none⟩ = some (.slice PA pn pc)) W) := Lib.hid fun W hW => ⟨RawAt.cell (RawAt.below H95.out hW H95.out.lt) 0, RawAt.cell (RawAt.below H95.out hW H95.out.lt) 1, RawAt.cell (RawAt.below H95.out hW H95.out.lt) 2, RawAt.cell (RawAt.below H115.out hW H115.out.lt) 3⟩
                        have hW2 : Below w5.heap.size w5 w5.drew := (Below.refl _ _).drew
                        go_wp2_with fail
                        refine wp_region_noPanic ?_
                        refine wp_region_held_drew (S := (fun W => W.cell? ⟨b3, 0, none⟩ = some (.int .i64 nn) ∧ W.cell? ⟨b3, 1, none⟩ = some (.slice A q c) ∧ W.cell? ⟨b3, 2, none⟩ = some (.int .i64 0) ∧ W.cell? ⟨wr.heap.size, 3, none⟩ = some (.slice PA pn pc))) (by kernel_rfl) (MK.out _ hW2) (fun hHeld => ?_)
                        refine wpAnyH_take (i := 0) (v := ?_) rfl (by kernel_rfl) (by kernel_rfl) (by kernel_rfl) (fun _ _ _ h => h) (Or.inl ⟨by rfl, ?_⟩) hHeld ?_
                        rotate_left
                        · intro w hSw
                          (try dsimp only at hSw)
                          go_simp
                          try with_reducible rfl
                        go_simp
                        refine wpAnyH_take (i := 1) (v := ?_) rfl (by kernel_rfl) (by kernel_rfl) (by kernel_rfl) (fun _ _ _ h => h) (Or.inl ⟨by rfl, ?_⟩) hHeld ?_
                        rotate_left
                        · intro w hSw
                          (try dsimp only at hSw)
                          go_simp
                          try with_reducible rfl
                        go_simp
                        refine wpAnyH_take (i := 2) (v := ?_) rfl (by kernel_rfl) (by kernel_rfl) (by kernel_rfl) (fun _ _ _ h => h) (Or.inl ⟨by rfl, ?_⟩) hHeld ?_
                        rotate_left
                        · intro w hSw
                          (try dsimp only at hSw)
                          go_simp
                          try with_reducible rfl
                        go_simp
                        refine wpAnyH_ready (rs := [3]) (by kernel_rfl) (by simp) ?_
                        refine AllReadyH.cons rfl (fun K hK => ?_) AllReadyH.nil
                        go_simp
                        go_wp2_with (go_at_call 22; (with_reducible refine (CG.out _ ?_).mono ?_); (· exact HT5.out.trans (hW2.mono HT5.out.size)); rintro e wg ⟨PG, pg, rfl, hPG, _, bg⟩; have hW2 := hW2.trans (bg.mono hW2.size); have HPG := Lib.hid hPG; clear hPG)
                        refine hK.out _ _ (MK.out _ hW2) (fun hHeld => ?_)
                        clear hK K
                        go_simp
                        have HRAg := Lib.hid (HRA5.out.below hW2)
                        refine wpAnyH_ready (rs := [4]) (by kernel_rfl) (by simp) ?_
                        refine AllReadyH.cons rfl (fun K hK => ?_) AllReadyH.nil
                        go_simp
                        go_wp2_with (go_at_call 21; (with_reducible refine (CB.out PG pg _ HRAg.out HPG.out).mono ?_); rintro e w6 ⟨n2, A2, m2, c2, rfl, hres, bs⟩; have hW2 := hW2.trans (bs.mono hW2.size); have HRES := Lib.hid hres; clear hres)
                        refine hK.out _ _ (MK.out _ hW2) (fun hHeld => ?_)
                        clear hK K
                        go_simp
                        have b6 := hW2
                        have HE0 := Lib.hid (MK.out _ hW2)
                        clear MK hW2 HRAg
                        have hres := HRES.out
                        obtain ⟨e2, em, hR26, hC2⟩ := hres (by first | exact trivial | rfl)
                        have e2 := e2.symm
                        subst e2
                        obtain ⟨o2, ho2⟩ : ∃ o2, o2 = ord flt (fshift pl o) := ⟨_, rfl⟩
                        have hS26 := HS25.out.below b6
                        rw [← ho2] at hR26 hS26 HI27
                        have HC27 := Lib.hid hC2
                        have HQ27 : Hid (o2.length = m2) := Lib.hid (by rw [ho2, (ord_perm flt flt_swo _).length_eq, em])
                        have hB6 := HB5.out.trans (b6.mono HB5.out.size)
                        have hS6 := HS5.out.below b6
                        have h96 := H95.out.below b6 H95.out.lt
                        have hRA6 := HRA5.out.below b6
                        have h136 := H135.out.below b6 H135.out.lt
                        clear hres hC2 ho2 b6 CB CG HT5 bs em HB5 HS5 H95 HRA5 H115 H135 HS25
                        have z0 := RawAt.cell h136 0
                        have z1 := RawAt.cell h136 1
                        have z2 := RawAt.cell h136 2
                        simp at z0 z1 z2
                        have f0 := RawAt.free h136 0
                        have f1 := RawAt.free h136 1
                        have f2 := RawAt.free h136 2
                        have h137 := raw_set3 h136 nd A2 m2 c2 0
                        have y0 := RawAt.cell h137 0
                        have y1 := RawAt.cell h137 1
                        have y2 := RawAt.cell h137 2
                        simp at y0 y1 y2
                        have hB7 := below_set3 hB6 HB13L.out (.int .i64 nd) (.slice A2 m2 c2) (.int .i64 0)
                        have hS7 := FSet.apart3 hS6 h136 (.int .i64 nd) (.slice A2 m2 c2) (.int .i64 0)
                        have h97 := raw_apart3 h96 HNE.out (.int .i64 nd) (.slice A2 m2 c2) (.int .i64 0)
                        have hRA7 := rows_apart3F hRA6 h136 nd A2 m2 c2 0
                        have v0 := RawAt.cell h97 0
                        have v1 := RawAt.cell h97 1
                        have v2 := RawAt.cell h97 2
                        simp at v0 v1 v2
                        have hS27 := FSet.apart3 hS26 h136 (.int .i64 nd) (.slice A2 m2 c2) (.int .i64 0)
                        have hR27 := rows_apart3F hR26 h136 nd A2 m2 c2 0
                        obtain ⟨W7, hW7⟩ : ∃ W7, W7 = ((((w6.setCell ⟨(wr.heap.size + 1), 0, none⟩ (.int .i64 nd)).setCell ⟨(wr.heap.size + 1), 1, none⟩ (.slice A2 m2 c2)).setCell ⟨(wr.heap.size + 1), 2, none⟩ (.int .i64 0))) := ⟨_, rfl⟩
                        rw [← hW7] at hB7 hS7 h97 hRA7 h137 hS27 hR27
                        have HB7 := Lib.hid hB7
                        have HS7 := Lib.hid hS7
                        have H97 := Lib.hid h97
                        have HRA7 := Lib.hid hRA7
                        have H137 := Lib.hid h137
                        have HS27 := Lib.hid hS27
                        have HR27 := Lib.hid hR27
                        have HS30 : Hid ((fun W => W.cell? ⟨b3, 0, none⟩ = some (.int .i64 nn) ∧ W.cell? ⟨b3, 1, none⟩ = some (.slice A q c) ∧ W.cell? ⟨b3, 2, none⟩ = some (.int .i64 0) ∧ W.cell? ⟨wr.heap.size, 3, none⟩ = some (.slice PA pn pc)) W7) := Lib.hid ⟨by rw [hW7, cell_farF _ _ _ _ _ _ HNE.out, cell_farF _ _ _ _ _ _ HNE.out, cell_farF _ _ _ _ _ _ HNE.out]; exact HE0.out.1, by rw [hW7, cell_farF _ _ _ _ _ _ HNE.out, cell_farF _ _ _ _ _ _ HNE.out, cell_farF _ _ _ _ _ _ HNE.out]; exact HE0.out.2.1, by rw [hW7, cell_farF _ _ _ _ _ _ HNE.out, cell_farF _ _ _ _ _ _ HNE.out, cell_farF _ _ _ _ _ _ HNE.out]; exact HE0.out.2.2.1, by rw [hW7, cell_farF _ _ _ _ _ _ (by omega), cell_farF _ _ _ _ _ _ (by omega), cell_farF _ _ _ _ _ _ (by omega)]; exact HE0.out.2.2.2⟩
                        have HW7 := Lib.hid hW7
                        clear hW7 hB7 hS7 h97 hRA7 h137 hS27 hR27 hB6 hS6 h96 hRA6 h136 hS26 hR26
                        refine wpAnyH_ready (rs := [5]) (by kernel_rfl) (by simp) ?_
                        refine AllReadyH.cons rfl (fun K hK => ?_) AllReadyH.nil
                        go_simp
                        go_wp2_with fail
                        rw [← HW7.out]
                        refine hK.out _ _ HS30.out (fun hHeld => ?_)
                        clear hK K
                        go_simp
                        refine wpAnyH_done (by kernel_rfl) ?_ _
                        refine NoPanic.normal ?_
                        clear HW7 hHeld HS30 HE0
                        have y0 := RawAt.cell H137.out 0
                        have y1 := RawAt.cell H137.out 1
                        have y2 := RawAt.cell H137.out 2
                        simp at y0 y1 y2
                        have v0 := RawAt.cell H97.out 0
                        have v1 := RawAt.cell H97.out 1
                        have v2 := RawAt.cell H97.out 2
                        simp at v0 v1 v2
                        have CI1 := Lib.hid (fIs_set HS27.out _ m2 c2 HR27.out HC27.out HQ27.out (by have := HI27.out.len; have := HQ27.out; omega) HI27.out.good)
                        go_wp2_with fail
                        with_reducible refine CI1.out.mono ?_
                        rintro e w8 ⟨rfl, b8⟩
                        have hB8 := HB7.out.trans (b8.mono HB7.out.size)
                        have hS8 := HS7.out.below b8
                        have h98 := H97.out.below b8 H97.out.lt
                        have h138 := H137.out.below b8 H137.out.lt
                        have hRA8 := HRA7.out.below b8
                        have hS28 := HS27.out.below b8
                        have hR28 := HR27.out.below b8
                        have CI2 := Lib.hid (fIs_set hS8 A q c hRA8 HCA.out HQ.out (by have := HI.out.len; have := HQ.out; omega) HI.out.good)
                        have cc0 := RawAt.cell h98 0
                        have cc1 := RawAt.cell h98 1
                        have cc2 := RawAt.cell h98 2
                        simp at cc0 cc1 cc2
                        have HB8 := Lib.hid hB8
                        have H98 := Lib.hid h98
                        have H138 := Lib.hid h138
                        have HS28 := Lib.hid hS28
                        have HR28 := Lib.hid hR28
                        clear hB8 hS8 h98 h138 hRA8 hS28 hR28 b8 CI1 HB7 HS7 H97 H137 HRA7 HS27 HR27
                        go_wp2_with fail
                        with_reducible refine CI2.out.mono ?_
                        rintro e w9 ⟨rfl, b9⟩
                        have hB9 := HB8.out.trans (b9.mono HB8.out.size)
                        have h99 := H98.out.below b9 H98.out.lt
                        have h139 := H138.out.below b9 H138.out.lt
                        have hS29 := HS28.out.below b9
                        have hR29 := HR28.out.below b9
                        have y0 := RawAt.cell h139 0
                        have y1 := RawAt.cell h139 1
                        have y2 := RawAt.cell h139 2
                        simp at y0 y1 y2
                        have z0 := RawAt.cell h99 0
                        have z1 := RawAt.cell h99 1
                        have z2 := RawAt.cell h99 2
                        simp at z0 z1 z2
                        have f0 := RawAt.free h99 0
                        have f1 := RawAt.free h99 1
                        have f2 := RawAt.free h99 2
                        have HB10 := Lib.hid (below_set3 hB9 HB3L.out (.int .i64 nd) (.slice A2 m2 c2) (.int .i64 0))
                        have H910 := Lib.hid (raw_set3 h99 nd A2 m2 c2 0)
                        have HS10 := Lib.hid (FSet.apart3 hS29 h99 (.int .i64 nd) (.slice A2 m2 c2) (.int .i64 0))
                        have HR10 := Lib.hid (rows_apart3F hR29 h99 nd A2 m2 c2 0)
                        clear hB9 h99 h139 hS29 hR29 b9 CI2 HB8 H98 H138 HS28 HR28
                        go_wp2
                        go_roundg (gk - 1)
                        case measure => omega
                        case rel => exact ⟨k + 1, m2, sb2, nd, o2, A2, c2, by go_num, by omega, by omega, rfl, HB10, HS10, H910, HR10, HC27, HQ27, HI27⟩
                      · have HZ := Lib.hid hz
                        have hp5 := hnil hz
                        subst hp5
                        clear hnil hok b5 CA HBT HST H9T HRAT H11T H13T hr hnd hz k3
                        have MK : Hid (∀ W : World, Below w5.heap.size w5 W → (fun W => W.cell? ⟨b3, 0, none⟩ = some (.int .i64 nn) ∧ W.cell? ⟨b3, 1, none⟩ = some (.slice A q c) ∧ W.cell? ⟨b3, 2, none⟩ = some (.int .i64 0) ∧ W.cell? ⟨wr.heap.size, 3, none⟩ = some (.slice PA pn pc)) W) := Lib.hid fun W hW => ⟨RawAt.cell (RawAt.below H95.out hW H95.out.lt) 0, RawAt.cell (RawAt.below H95.out hW H95.out.lt) 1, RawAt.cell (RawAt.below H95.out hW H95.out.lt) 2, RawAt.cell (RawAt.below H115.out hW H115.out.lt) 3⟩
                        have hW2 : Below w5.heap.size w5 w5.drew := (Below.refl _ _).drew
                        go_wp2_with fail
                        refine wp_region_noPanic ?_
                        refine wp_region_held_drew (S := (fun W => W.cell? ⟨b3, 0, none⟩ = some (.int .i64 nn) ∧ W.cell? ⟨b3, 1, none⟩ = some (.slice A q c) ∧ W.cell? ⟨b3, 2, none⟩ = some (.int .i64 0) ∧ W.cell? ⟨wr.heap.size, 3, none⟩ = some (.slice PA pn pc))) (by kernel_rfl) (MK.out _ hW2) (fun hHeld => ?_)
                        refine wpAnyH_take (i := 0) (v := ?_) rfl (by kernel_rfl) (by kernel_rfl) (by kernel_rfl) (fun _ _ _ h => h) (Or.inl ⟨by rfl, ?_⟩) hHeld ?_
                        rotate_left
                        · intro w hSw
                          (try dsimp only at hSw)
                          go_simp
                          try with_reducible rfl
                        go_simp
                        refine wpAnyH_take (i := 1) (v := ?_) rfl (by kernel_rfl) (by kernel_rfl) (by kernel_rfl) (fun _ _ _ h => h) (Or.inl ⟨by rfl, ?_⟩) hHeld ?_
                        rotate_left
                        · intro w hSw
                          (try dsimp only at hSw)
                          go_simp
                          try with_reducible rfl
                        go_simp
                        refine wpAnyH_take (i := 2) (v := ?_) rfl (by kernel_rfl) (by kernel_rfl) (by kernel_rfl) (fun _ _ _ h => h) (Or.inl ⟨by rfl, ?_⟩) hHeld ?_
                        rotate_left
                        · intro w hSw
                          (try dsimp only at hSw)
                          go_simp
                          try with_reducible rfl
                        go_simp
                        refine wpAnyH_ready (rs := [3]) (by kernel_rfl) (by simp) ?_
                        refine AllReadyH.cons rfl (fun K hK => ?_) AllReadyH.nil
                        go_simp
                        go_wp2_with (go_at_call 22; (with_reducible refine (CG.out _ ?_).mono ?_); (· exact HT5.out.trans (hW2.mono HT5.out.size)); rintro e wg ⟨PG, pg, rfl, hPG, _, bg⟩; have hW2 := hW2.trans (bg.mono hW2.size); have HPG := Lib.hid hPG; clear hPG)
                        refine hK.out _ _ (MK.out _ hW2) (fun hHeld => ?_)
                        clear hK K
                        go_simp
                        have HRAg := Lib.hid (HRA5.out.below hW2)
                        refine wpAnyH_ready (rs := [4]) (by kernel_rfl) (by simp) ?_
                        refine AllReadyH.cons rfl (fun K hK => ?_) AllReadyH.nil
                        go_simp
                        go_wp2_with (go_at_call 21; (with_reducible refine (CB.out PG pg _ HRAg.out HPG.out).mono ?_); rintro e w6 ⟨n2, A2, m2, c2, rfl, hres, bs⟩; have hW2 := hW2.trans (bs.mono hW2.size); have HRES := Lib.hid hres; clear hres)
                        refine hK.out _ _ (MK.out _ hW2) (fun hHeld => ?_)
                        clear hK K
                        go_simp
                        have b6 := hW2
                        have HE0 := Lib.hid (MK.out _ hW2)
                        clear MK hW2 HRAg
                        have hB6 := HB5.out.trans (b6.mono HB5.out.size)
                        have hS6 := HS5.out.below b6
                        have h96 := H95.out.below b6 H95.out.lt
                        have hRA6 := HRA5.out.below b6
                        have h136 := H135.out.below b6 H135.out.lt
                        clear HRES bs b6 CB CG HT5 HB5 HS5 H95 HRA5 H115 H135
                        have z0 := RawAt.cell h136 0
                        have z1 := RawAt.cell h136 1
                        have z2 := RawAt.cell h136 2
                        simp at z0 z1 z2
                        have f0 := RawAt.free h136 0
                        have f1 := RawAt.free h136 1
                        have f2 := RawAt.free h136 2
                        have h137 := raw_set3 h136 n2 A2 m2 c2 r
                        have y0 := RawAt.cell h137 0
                        have y1 := RawAt.cell h137 1
                        have y2 := RawAt.cell h137 2
                        simp at y0 y1 y2
                        have hB7 := below_set3 hB6 HB13L.out (.int .i64 n2) (.slice A2 m2 c2) (.int .i64 r)
                        have hS7 := FSet.apart3 hS6 h136 (.int .i64 n2) (.slice A2 m2 c2) (.int .i64 r)
                        have h97 := raw_apart3 h96 HNE.out (.int .i64 n2) (.slice A2 m2 c2) (.int .i64 r)
                        have hRA7 := rows_apart3F hRA6 h136 n2 A2 m2 c2 r
                        have v0 := RawAt.cell h97 0
                        have v1 := RawAt.cell h97 1
                        have v2 := RawAt.cell h97 2
                        simp at v0 v1 v2
                        obtain ⟨W7, hW7⟩ : ∃ W7, W7 = ((((w6.setCell ⟨(wr.heap.size + 1), 0, none⟩ (.int .i64 n2)).setCell ⟨(wr.heap.size + 1), 1, none⟩ (.slice A2 m2 c2)).setCell ⟨(wr.heap.size + 1), 2, none⟩ (.int .i64 r))) := ⟨_, rfl⟩
                        rw [← hW7] at hB7 hS7 h97 hRA7 h137
                        have HB7 := Lib.hid hB7
                        have HS7 := Lib.hid hS7
                        have H97 := Lib.hid h97
                        have HRA7 := Lib.hid hRA7
                        have H137 := Lib.hid h137
                        have HS30 : Hid ((fun W => W.cell? ⟨b3, 0, none⟩ = some (.int .i64 nn) ∧ W.cell? ⟨b3, 1, none⟩ = some (.slice A q c) ∧ W.cell? ⟨b3, 2, none⟩ = some (.int .i64 0) ∧ W.cell? ⟨wr.heap.size, 3, none⟩ = some (.slice PA pn pc)) W7) := Lib.hid ⟨by rw [hW7, cell_farF _ _ _ _ _ _ HNE.out, cell_farF _ _ _ _ _ _ HNE.out, cell_farF _ _ _ _ _ _ HNE.out]; exact HE0.out.1, by rw [hW7, cell_farF _ _ _ _ _ _ HNE.out, cell_farF _ _ _ _ _ _ HNE.out, cell_farF _ _ _ _ _ _ HNE.out]; exact HE0.out.2.1, by rw [hW7, cell_farF _ _ _ _ _ _ HNE.out, cell_farF _ _ _ _ _ _ HNE.out, cell_farF _ _ _ _ _ _ HNE.out]; exact HE0.out.2.2.1, by rw [hW7, cell_farF _ _ _ _ _ _ (by omega), cell_farF _ _ _ _ _ _ (by omega), cell_farF _ _ _ _ _ _ (by omega)]; exact HE0.out.2.2.2⟩
                        have HW7 := Lib.hid hW7
                        clear hW7 hB7 hS7 h97 hRA7 h137 hB6 hS6 h96 hRA6 h136
                        refine wpAnyH_ready (rs := [5]) (by kernel_rfl) (by simp) ?_
                        refine AllReadyH.cons rfl (fun K hK => ?_) AllReadyH.nil
                        go_simp
                        go_wp2_with fail
                        rw [← HW7.out]
                        refine hK.out _ _ HS30.out (fun hHeld => ?_)
                        clear hK K
                        go_simp
                        refine wpAnyH_done (by kernel_rfl) ?_ _
                        refine NoPanic.normal ?_
                        clear HW7 hHeld HS30 HE0
                        have y0 := RawAt.cell H137.out 0
                        have y1 := RawAt.cell H137.out 1
                        have y2 := RawAt.cell H137.out 2
                        simp at y0 y1 y2
                        have v0 := RawAt.cell H97.out 0
                        have v1 := RawAt.cell H97.out 1
                        have v2 := RawAt.cell H97.out 2
                        simp at v0 v1 v2
                        have CI1 := Lib.hid fun (W : World) => fIs_none n2 r A2 m2 c2 W HZ.out
                        have k5 : (r != (0 : Int)) = true := by first | decide | simp [HZ.out]
                        have k6 : (r == (0 : Int)) = false := by first | decide | simp [HZ.out]
                        have k7 : decide (r = (0 : Int)) = false := decide_eq_false HZ.out
                        go_wp2_with fail
                        with_reducible refine (CI1.out _).mono ?_
                        rintro e w8 ⟨rfl, b8⟩
                        have hB8 := HB7.out.trans (b8.mono HB7.out.size)
                        have hS8 := HS7.out.below b8
                        have h98 := H97.out.below b8 H97.out.lt
                        have hRA8 := HRA7.out.below b8
                        have CI2 := Lib.hid (fIs_set hS8 A q c hRA8 HCA.out HQ.out (by have := HI.out.len; have := HQ.out; omega) HI.out.good)
                        have cc0 := RawAt.cell h98 0
                        have cc1 := RawAt.cell h98 1
                        have cc2 := RawAt.cell h98 2
                        simp at cc0 cc1 cc2
                        have HB8 := Lib.hid hB8
                        have H98 := Lib.hid h98
                        have HS8 := Lib.hid hS8
                        have HRA8 := Lib.hid hRA8
                        clear hB8 hS8 h98 hRA8 b8 CI1 HB7 HS7 H97 H137 HRA7
                        go_wp2_with fail
                        with_reducible refine CI2.out.mono ?_
                        rintro e w9 ⟨rfl, b9⟩
                        have HB9 := Lib.hid (HB8.out.trans (b9.mono HB8.out.size))
                        have H99 := Lib.hid (H98.out.below b9 H98.out.lt)
                        have HS9 := Lib.hid (HS8.out.below b9)
                        have HRA9 := Lib.hid (HRA8.out.below b9)
                        clear b9 CI2 HB8 H98 HS8 HRA8
                        go_wp2
                        go_roundg (gk - 1)
                        case measure => omega
                        case rel => exact ⟨k + 1, q, sb, nn, o, A, c, by go_num, by omega, by omega, rfl, HB9, HS9, H99, HRA9, HCA, HQ, HI⟩
                  · have ka0 : decide (wh = 0) = false := decide_eq_false p0
                    have kb0 : (wh == 0) = false := by simp [p0]
                    have ka1 : decide (wh = 1) = false := decide_eq_false p1
                    have kb1 : (wh == 1) = false := by simp [p1]
                    have ka2 : decide (wh = 2) = false := decide_eq_false p2
                    have kb2 : (wh == 2) = false := by simp [p2]
                    have ka3 : decide (wh = 3) = false := decide_eq_false p3
                    have kb3 : (wh == 3) = false := by simp [p3]
                    have HB7 := HBT
                    have HS7 := HST
                    have H97 := H9T
                    have HRA7 := HRAT
                    have H137 := H13T
                    have HS27 := HST
                    have HR27 := HRAT
                    have HC27 := HCA
                    have HQ27 := HQ
                    have HI27 := HI
                    clear HBT HST H9T HRAT H13T H11T
                    have CI1 := Lib.hid (fIs_set HS27.out _ q c HR27.out HC27.out HQ27.out (by have := HI27.out.len; have := HQ27.out; omega) HI27.out.good)
                    go_wp2_with fail
                    with_reducible refine CI1.out.mono ?_
                    rintro e w8 ⟨rfl, b8⟩
                    have hB8 := HB7.out.trans (b8.mono HB7.out.size)
                    have hS8 := HS7.out.below b8
                    have h98 := H97.out.below b8 H97.out.lt
                    have h138 := H137.out.below b8 H137.out.lt
                    have hRA8 := HRA7.out.below b8
                    have hS28 := HS27.out.below b8
                    have hR28 := HR27.out.below b8
                    have CI2 := Lib.hid (fIs_set hS8 A q c hRA8 HCA.out HQ.out (by have := HI.out.len; have := HQ.out; omega) HI.out.good)
                    have cc0 := RawAt.cell h98 0
                    have cc1 := RawAt.cell h98 1
                    have cc2 := RawAt.cell h98 2
                    simp at cc0 cc1 cc2
                    have HB8 := Lib.hid hB8
                    have H98 := Lib.hid h98
                    have H138 := Lib.hid h138
                    have HS28 := Lib.hid hS28
                    have HR28 := Lib.hid hR28
                    clear hB8 hS8 h98 h138 hRA8 hS28 hR28 b8 CI1 HB7 HS7 H97 H137 HRA7 HS27 HR27
                    go_wp2_with fail
                    with_reducible refine CI2.out.mono ?_
                    rintro e w9 ⟨rfl, b9⟩
                    have hB9 := HB8.out.trans (b9.mono HB8.out.size)
                    have h99 := H98.out.below b9 H98.out.lt
                    have h139 := H138.out.below b9 H138.out.lt
                    have hS29 := HS28.out.below b9
                    have hR29 := HR28.out.below b9
                    have y0 := RawAt.cell h139 0
                    have y1 := RawAt.cell h139 1
                    have y2 := RawAt.cell h139 2
                    simp at y0 y1 y2
                    have z0 := RawAt.cell h99 0
                    have z1 := RawAt.cell h99 1
                    have z2 := RawAt.cell h99 2
                    simp at z0 z1 z2
                    have f0 := RawAt.free h99 0
                    have f1 := RawAt.free h99 1
                    have f2 := RawAt.free h99 2
                    have HB10 := Lib.hid (below_set3 hB9 HB3L.out (.int .i64 nn) (.slice A q c) (.int .i64 0))
                    have H910 := Lib.hid (raw_set3 h99 nn A q c 0)
                    have HS10 := Lib.hid (FSet.apart3 hS29 h99 (.int .i64 nn) (.slice A q c) (.int .i64 0))
                    have HR10 := Lib.hid (rows_apart3F hR29 h99 nn A q c 0)
                    clear hB9 h99 h139 hS29 hR29 b9 CI2 HB8 H98 H138 HS28 HR28
                    go_wp2
                    go_roundg (gk - 1)
                    case measure => omega
                    case rel => exact ⟨k + 1, q, sb, nn, o, A, c, by go_num, by omega, by omega, rfl, HB10, HS10, H910, HR10, HC27, HQ27, HI27⟩
          · obtain rfl : k = on := by omega
            go_wp2_with fail
            with_reducible refine (C3.out _).mono ?_
            rintro e w8 ⟨rfl, bb⟩
            have Q9 := Lib.hid (hb.out.trans (bb.mono hb.out.size))
            clear bb
            go_wp2
            go_ret
            exact ⟨rfl, Q9.out⟩
      · have k5 : (r != 0) = true := by simp [hz]
        have k6 : (r == 0) = false := by simp [hz]
        have k7 : decide (r = 0) = false := decide_eq_false hz
        have HZ := Lib.hid hz
        clear hz hr
        go_enter Try.func4, Try.ntmps4
        go_wp2_with fail
        with_reducible refine (CN.out).mono ?_
        rintro e w1 ⟨p1, rfl, hp1, _, bb⟩
        have Q1 := Lib.hid bb
        have hp := hp1 HZ.out
        subst hp
        clear hp1
        clear bb
        go_wp2_with fail
        with_reducible refine (CR.out _ Q1.out).mono ?_
        rintro e w2 ⟨nn, A2, m2, c2, rfl, _, bb⟩
        have Q2 := Lib.hid (Q1.out.trans (bb.mono Q1.out.size))
        have HQ2 := Lib.hid (Q2.out.alloc Q2.out.size (.cells #[.int .i64 nn, .slice A2 m2 c2, .int .i64 r] 29))
        have CI := Lib.hid fun (W : World) => fIs_none nn r A2 m2 c2 W HZ.out
        clear bb
        go_wp2_with fail
        with_reducible refine (CI.out _).mono ?_
        rintro e w3 ⟨rfl, bb⟩
        have Q3 := Lib.hid (HQ2.out.trans (bb.mono HQ2.out.size))
        clear bb
        go_wp2_with fail
        with_reducible refine (C3.out _).mono ?_
        rintro e w9 ⟨rfl, bb⟩
        have Q9 := Lib.hid (Q3.out.trans (bb.mono Q3.out.size))
        clear bb
        go_wp2
        go_ret
        exact ⟨rfl, Q9.out⟩
end Go.Proofs.Ytnfjleobcfhpnaa
