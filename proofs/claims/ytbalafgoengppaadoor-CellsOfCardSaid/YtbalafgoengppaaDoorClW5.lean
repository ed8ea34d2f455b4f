/- The law CellsOf. -/
import Derived.Test.YtbalafgoengppaaDoorClW2
import Derived.Test.YtbalafgoengppaaDoorClI
import Derived.Test.YtbalafgoengppaaDoorPlC
namespace Go.Proofs.YtbalafgoengppaaDoor
open Go.RowKit
set_option linter.unusedVariables false
set_option maxHeartbeats 8000000 in
set_option maxRecDepth 100000 in
theorem cellsOf_walk (A : Option Addr) (n c : Nat) (l : List PtV) (tab : Int) (w : World) (h : Tabs w) (hA : RowsAt ptcs 3 w A l) (hl : l.length = n) (hn : n ≤ maxLen) (_ : Caps A n c) (hok : ∀ s ∈ l, PtOk w s) (_ : Lit.wf (.int .i64 tab)) :
    Calls Tryd.prog 8 #[.slice A n c, .int .i64 tab] w fun e w' => e = .returned (.bool true) ∧ Below w.heap.size w w' := by
  unfold maxLen at hn
  have C4 := Lib.hid fun W (hb : Below w.heap.size w W) => four_any W (h.below hb)
  have CP := Lib.hid fun W (hb : Below w.heap.size w W) => plain_any W (h.below hb)
  have HA := Lib.hid hA
  have HL := Lib.hid hl
  have HOK := Lib.hid hok
  clear h hA hl hok
  by_cases hS : ShortP l
  · have CLG := Lib.hid (long18_any A n c l false w HA.out HL.out ⟨fun h => absurd h Bool.false_ne_true, fun h => absurd hS h⟩)
    obtain ⟨s1, s2, s3⟩ := hS
    rw [HL.out] at s1
    have HS2 := Lib.hid s2
    have HT := Lib.hid (short_bound l s3 (fun s hs => (HOK.out s hs).1) (by rw [HL.out]; exact s1))
    have CRF := Lib.hid fun W (hb : Below w.heap.size w W) => refs18_any A n c l W (HA.out.below hb) HL.out (by omega)
    clear s2 s3
    by_cases g2 : 1 ≤ tab ∧ tab ≤ 16
    · obtain ⟨t1, t2⟩ := g2
      have CO := Lib.hid fun tb W (hb : Below w.heap.size w W) ht => cOf_any (.pointer (some ⟨tb, 0, none⟩)) (wid zeroL wideL) A n c l tab W (TabV.of ht) (HA.out.below hb) HL.out (by omega) (fun s hs => (HOK.out s hs).below hb) (fun s hs => ⟨(HS2.out s hs).2.1, (HS2.out s hs).2.2, by have := (HS2.out s hs).1; omega⟩) HT.out t1 t2
      have HW0 : Hid (kok l → wrong18 l tab = 0) := Lib.hid fun h => by unfold wrong18; rw [if_neg (by simp; omega), if_pos ((kok_all l).1 h)]
      have HW4 : Hid (¬ kok l → wrong18 l tab = 4) := Lib.hid fun h => by unfold wrong18; rw [if_neg (by simp; omega), if_neg (fun hh => h ((kok_all l).2 hh))]
      go_enter Tryd.func8, Tryd.ntmps8
      go_wp2_with fail
      with_reducible refine (CLG.out).mono ?_
      rintro e w0 ⟨rfl, hb0⟩
      have HB0 := Lib.hid hb0
      clear hb0 CLG
      go_wp2_with fail
      with_reducible refine (CP.out _ HB0.out).mono ?_
      rintro e w1 ⟨tb, rfl, hb1, ht1⟩
      have HB1 := Lib.hid (HB0.out.trans (hb1.mono HB0.out.size))
      have CO1 := Lib.hid (CO.out tb w1 HB1.out ht1)
      clear hb1 ht1 CO CP HB0
      go_wp2_with fail
      with_reducible refine (CO1.out).mono ?_
      rintro e w2 ⟨hres, hb2⟩
      have HB2 := Lib.hid (HB1.out.trans (hb2.mono HB1.out.size))
      rcases hres with ⟨hk, m, v, rfl, ho⟩ | ⟨hk, rfl⟩
      · obtain ⟨A2, c2, rfl, hR2, hL2, hC2⟩ := rows_of_own encC_len (by omega) ho
        have HK := Lib.hid hk
        have HR2 := Lib.hid hR2
        have HL2 := Lib.hid hL2
        clear ho hR2 hL2 hC2 hb2 hk CO1
        have hm2 : m ≤ 1000000 := by
          obtain ⟨hzb, _, _⟩ := szs_bd (wid_bd zeroL wideL) t1 t2 ((bareL (l.map pt)).map (·.r)) 0 (by omega)
          have a := putL_len (bareL (l.map pt)) _ (fun x hx => (hzb x hx).2)
          rw [show putL (bareL (l.map pt)) (szs (wid zeroL wideL) tab 0 ((bareL (l.map pt)).map (·.r))) = ofL (wid zeroL wideL) tab (l.map pt) from rfl, HL2.out] at a
          have := HT.out
          omega
        have HWR := Lib.hid (HW0.out HK.out)
        clear HW0 HW4
        go_wp2_with fail
        with_reducible refine (CRF.out _ HB2.out).mono ?_
        rintro e w3 ⟨A3, c3, rfl, R3, hb3⟩
        have HB3 := Lib.hid (HB2.out.trans (hb3.mono HB2.out.size))
        have CW := Lib.hid (rWrong18_any A3 n c3 l tab w3 R3 HL.out (by omega))
        rw [HWR.out] at CW
        have HQ3 := Lib.hid (HR2.out.below hb3)
        clear R3 hb3
        go_wp2_with fail
        with_reducible refine (CW.out).mono ?_
        rintro e w4 ⟨rfl, hb4⟩
        have HB4 := Lib.hid (HB3.out.trans (hb4.mono HB3.out.size))
        have HQ4 := Lib.hid (HQ3.out.below hb4)
        clear hb4
        go_wp2_with fail
        with_reducible refine (rplain_any _).mono ?_
        rintro e w5 ⟨tb5, rfl, hb5, ht5⟩
        have HB5 := Lib.hid (HB4.out.trans (hb5.mono HB4.out.size))
        have HT5 := Lib.hid ht5
        have HQ5 := Lib.hid (HQ4.out.below hb5)
        clear hb5 ht5
        go_wp2_with fail
        with_reducible refine (CRF.out _ HB5.out).mono ?_
        rintro e w6 ⟨A6, c6, rfl, R6, hb6⟩
        have HB6 := Lib.hid (HB5.out.trans (hb6.mono HB5.out.size))
        have CRO := Lib.hid (rOf18_any tb5 zeroL wideL A6 n c6 l tab w6 (HT5.out.below hb6) R6 HL.out (by omega) (fun s hs => (HOK.out s hs).below HB6.out) (fun s hs => ⟨(HS2.out s hs).2.1, (HS2.out s hs).2.2, by have := (HS2.out s hs).1; omega⟩) HT.out t1 t2)
        have HQ6 := Lib.hid (HQ5.out.below hb6)
        clear R6 hb6
        generalize ofL (wid zeroL wideL) tab (l.map pt) = cs at *
        go_wp2_with fail
        with_reducible refine (CRO.out).mono ?_
        rintro e w7 ⟨m7, v7, rfl, o7, hb7⟩
        obtain ⟨A7, c7, rfl, R7, hl7, _⟩ := rows_of_own encC_len (by omega) o7
        obtain rfl : m = m7 := by rw [← hl7]; exact HL2.out.symm
        have HB7 := Lib.hid (HB6.out.trans (hb7.mono HB6.out.size))
        have CPC := Lib.hid (plcells_any A2 A7 m c2 c7 cs w7 (HQ6.out.below hb7) R7 HL2.out hm2)
        clear o7 R7 hb7 hl7 CRO
        go_wp2_with fail
        with_reducible refine (CPC.out).mono ?_
        rintro e w8 ⟨rfl, hb8⟩
        have HB8 := Lib.hid (HB7.out.trans (hb8.mono HB7.out.size))
        clear hb8
        go_wp2_with fail
        with_reducible refine (C4.out _ HB8.out).mono ?_
        rintro e w18 ⟨rfl, hb18⟩
        have HB18 := Lib.hid (HB8.out.trans (hb18.mono HB8.out.size))
        clear hb18
        go_wp2
        go_ret
        exact ⟨rfl, HB18.out⟩
      · have HWR := Lib.hid (HW4.out hk)
        clear hk hb2 CO1 HW0 HW4
        go_wp2_with fail
        with_reducible refine (CRF.out _ HB2.out).mono ?_
        rintro e w3 ⟨A3, c3, rfl, R3, hb3⟩
        have HB3 := Lib.hid (HB2.out.trans (hb3.mono HB2.out.size))
        have CW := Lib.hid (rWrong18_any A3 n c3 l tab w3 R3 HL.out (by omega))
        rw [HWR.out] at CW
        clear R3 hb3
        go_wp2_with fail
        with_reducible refine (CW.out).mono ?_
        rintro e w4 ⟨rfl, hb4⟩
        have HB4 := Lib.hid (HB3.out.trans (hb4.mono HB3.out.size))
        clear hb4
        go_wp2_with fail
        with_reducible refine (C4.out _ HB4.out).mono ?_
        rintro e w18 ⟨rfl, hb18⟩
        have HB18 := Lib.hid (HB4.out.trans (hb18.mono HB4.out.size))
        clear hb18
        go_wp2
        go_ret
        exact ⟨rfl, HB18.out⟩
    · have CO := Lib.hid fun tb W => cOf_bad (.pointer (some ⟨tb, 0, none⟩)) A n c tab W g2
      have HWR : Hid (wrong18 l tab = 1) := Lib.hid (by unfold wrong18; rw [if_pos g2])
      clear g2
      go_enter Tryd.func8, Tryd.ntmps8
      go_wp2_with fail
      with_reducible refine (CLG.out).mono ?_
      rintro e w0 ⟨rfl, hb0⟩
      have HB0 := Lib.hid hb0
      clear hb0 CLG
      go_wp2_with fail
      with_reducible refine (CP.out _ HB0.out).mono ?_
      rintro e w1 ⟨tb, rfl, hb1, ht1⟩
      have HB1 := Lib.hid (HB0.out.trans (hb1.mono HB0.out.size))
      clear hb1 ht1 CP HB0
      go_wp2_with fail
      with_reducible refine (CO.out _ _).mono ?_
      rintro e w2 ⟨rfl, hb2⟩
      have HB2 := Lib.hid (HB1.out.trans (hb2.mono HB1.out.size))
      clear hb2 CO HB1
      go_wp2_with fail
      with_reducible refine (CRF.out _ HB2.out).mono ?_
      rintro e w3 ⟨A3, c3, rfl, R3, hb3⟩
      have HB3 := Lib.hid (HB2.out.trans (hb3.mono HB2.out.size))
      have CW := Lib.hid (rWrong18_any A3 n c3 l tab w3 R3 HL.out (by omega))
      rw [HWR.out] at CW
      clear R3 hb3
      go_wp2_with fail
      with_reducible refine (CW.out).mono ?_
      rintro e w4 ⟨rfl, hb4⟩
      have HB4 := Lib.hid (HB3.out.trans (hb4.mono HB3.out.size))
      clear hb4
      go_wp2_with fail
      with_reducible refine (C4.out _ HB4.out).mono ?_
      rintro e w18 ⟨rfl, hb18⟩
      have HB18 := Lib.hid (HB4.out.trans (hb18.mono HB4.out.size))
      clear hb18
      go_wp2
      go_ret
      exact ⟨rfl, HB18.out⟩
  · have CLG := Lib.hid (long18_any A n c l true w HA.out HL.out ⟨fun _ => hS, fun _ => rfl⟩)
    clear hS
    go_enter Tryd.func8, Tryd.ntmps8
    go_wp2_with fail
    with_reducible refine (CLG.out).mono ?_
    rintro e w0 ⟨rfl, hb0⟩
    have HB0 := Lib.hid hb0
    clear hb0 CLG
    go_wp2_with fail
    with_reducible refine (C4.out _ HB0.out).mono ?_
    rintro e w18 ⟨rfl, hb18⟩
    have HB18 := Lib.hid (HB0.out.trans (hb18.mono HB0.out.size))
    clear hb18
    go_wp2
    go_ret
    exact ⟨rfl, HB18.out⟩
end Go.Proofs.YtbalafgoengppaaDoor
