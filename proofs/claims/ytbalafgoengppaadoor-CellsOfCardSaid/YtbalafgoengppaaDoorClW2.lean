/- The law CellsFirst. -/
import Derived.Test.YtbalafgoengppaaDoorClW1
namespace Go.Proofs.YtbalafgoengppaaDoor
open Go.RowKit
set_option linter.unusedVariables false
theorem short_bound : ∀ (l : List PtV), (l.map (·.n)).sum ≤ 600 → (∀ s ∈ l, s.rs.length = s.n) → l.length ≤ 60 → (bareL (l.map pt)).length ≤ 10000 := by
  intro l h1 h2 h3
  have h4 : ∀ (l : List PtV), (∀ s ∈ l, s.rs.length = s.n) → (bareL (l.map pt)).length ≤ (l.map (·.n)).sum + l.length := by
    intro l
    induction l with
    | nil => intro _; simp [bareL]
    | cons x l ih =>
      intro h
      have a := ih (fun s hs => h s (by simp [hs]))
      have b : (shown (pt x)).length ≤ x.n + 1 := by
        unfold shown pt
        simp only
        split
        · simp
        · rw [h x (by simp)]; omega
      rw [show bareL ((x :: l).map pt) = bareP (pt x) ++ bareL (l.map pt) from rfl, List.length_append, bareP_length]
      simp only [List.map_cons, List.sum_cons, List.length_cons]
      omega
  have := h4 l h2
  omega
theorem placed_k (x : Pt) : ∀ (rs : List Int) (n : Nat), ∀ y ∈ placed x n rs, y.k = x.k
  | [], _, y, h => absurd h (by simp [placed])
  | r :: rs, n, y, h => by
    rw [placed] at h
    rcases List.mem_cons.1 h with rfl | h
    · rfl
    · exact placed_k x rs _ y h
theorem bareL_k {l : List PtV} (hk : kok l) : ∀ y ∈ bareL (l.map pt), 1 ≤ y.k ∧ y.k ≤ 3 := by
  intro y hy
  obtain ⟨x, hx, hy⟩ := List.mem_flatMap.1 hy
  obtain ⟨s, hs, rfl⟩ := List.mem_map.1 hx
  rw [placed_k _ _ _ y hy]
  exact hk s hs
theorem first_cell {l : List PtV} {f : Int → Int} {tab : Int} (hk : kok l) : ∀ x, (ofL f tab (l.map pt))[0]? = some x → x.k = 1 ∨ x.k = 2 ∨ x.k = 3 := by
  intro x hx
  unfold ofL at hx
  have h := bareL_k hk
  generalize bareL (l.map pt) = cs at *
  generalize szs f tab 0 (cs.map (·.r)) = ns at hx
  cases cs with
  | nil => simp [putL] at hx
  | cons c cs =>
    cases ns with
    | nil => simp [putL] at hx
    | cons n ns =>
      have hc := h c (by simp)
      rw [putL] at hx
      have : x.k = c.k := by
        unfold putC at hx
        split at hx
        · simp at hx; rw [← hx]
        · simp at hx; rw [← hx]
      omega
set_option maxHeartbeats 8000000 in
set_option maxRecDepth 100000 in
theorem cellsFirst_walk (A : Option Addr) (n c : Nat) (l : List PtV) (tab : Int) (w : World) (h : Tabs w) (hA : RowsAt ptcs 3 w A l) (hl : l.length = n) (hn : n ≤ maxLen) (_ : Caps A n c) (hok : ∀ s ∈ l, PtOk w s) (_ : Lit.wf (.int .i64 tab)) :
    Calls Tryd.prog 12 #[.slice A n c, .int .i64 tab] w fun e w' => e = .returned (.bool true) ∧ Below w.heap.size w w' := by
  unfold maxLen at hn
  have C4 := Lib.hid fun W (hb : Below w.heap.size w W) => four_any W (h.below hb)
  have CP := Lib.hid fun W (hb : Below w.heap.size w W) => plain_any W (h.below hb)
  have HA := Lib.hid hA
  have HL := Lib.hid hl
  have HOK := Lib.hid hok
  clear h hA hl hok
  by_cases hS : ShortP l
  · have CLG := Lib.hid (long18_any A n c l false w HA.out HL.out ⟨fun h => absurd h Bool.false_ne_true, fun h => absurd hS h⟩)
    obtain ⟨s1, s2, s3⟩ := hS
    rw [HL.out] at s1
    have HS2 := Lib.hid s2
    have HT := Lib.hid (short_bound l s3 (fun s hs => (HOK.out s hs).1) (by rw [HL.out]; exact s1))
    have CRF := Lib.hid fun W (hb : Below w.heap.size w W) => refs18_any A n c l W (HA.out.below hb) HL.out (by omega)
    clear s2 s3
    by_cases g2 : 1 ≤ tab ∧ tab ≤ 16
    · obtain ⟨t1, t2⟩ := g2
      have CO := Lib.hid fun tb W (hb : Below w.heap.size w W) ht => cOf_any (.pointer (some ⟨tb, 0, none⟩)) (wid zeroL wideL) A n c l tab W (TabV.of ht) (HA.out.below hb) HL.out (by omega) (fun s hs => (HOK.out s hs).below hb) (fun s hs => ⟨(HS2.out s hs).2.1, (HS2.out s hs).2.2, by have := (HS2.out s hs).1; omega⟩) HT.out t1 t2
      have HW0 : Hid (kok l → wrong18 l tab = 0) := Lib.hid fun h => by unfold wrong18; rw [if_neg (by simp; omega), if_pos ((kok_all l).1 h)]
      have HW4 : Hid (¬ kok l → wrong18 l tab = 4) := Lib.hid fun h => by unfold wrong18; rw [if_neg (by simp; omega), if_neg (fun hh => h ((kok_all l).2 hh))]
      go_enter Tryd.func12, Tryd.ntmps12
      go_wp2_with fail
      with_reducible refine (CLG.out).mono ?_
      rintro e w0 ⟨rfl, hb0⟩
      have HB0 := Lib.hid hb0
      clear hb0 CLG
      go_wp2_with fail
      with_reducible refine (CP.out _ HB0.out).mono ?_
      rintro e w1 ⟨tb, rfl, hb1, ht1⟩
      have HB1 := Lib.hid (HB0.out.trans (hb1.mono HB0.out.size))
      have CO1 := Lib.hid (CO.out tb w1 HB1.out ht1)
      clear hb1 ht1 CO CP HB0
      go_wp2_with fail
      with_reducible refine (CO1.out).mono ?_
      rintro e w2 ⟨hres, hb2⟩
      have HB2 := Lib.hid (HB1.out.trans (hb2.mono HB1.out.size))
      rcases hres with ⟨hk, m, v, rfl, ho⟩ | ⟨hk, rfl⟩
      · obtain ⟨A2, c2, rfl, hR2, hL2, hC2⟩ := rows_of_own encC_len (by omega) ho
        have HK := Lib.hid hk
        have HR2 := Lib.hid hR2
        have HL2 := Lib.hid hL2
        clear ho hR2 hL2 hC2 hb2 hk CO1
        have HOF : Hid (ofL (wid zeroL wideL) tab (l.map pt) = putL (bareL (l.map pt)) (szs (wid zeroL wideL) tab 0 ((bareL (l.map pt)).map (·.r)))) := Lib.hid rfl
        have HFI : Hid (∀ x, (ofL (wid zeroL wideL) tab (l.map pt))[0]? = some x → x.k = 1 ∨ x.k = 2 ∨ x.k = 3) := Lib.hid (first_cell HK.out)
        have hm2 : m ≤ 1000000 := by
          obtain ⟨hzb, _, _⟩ := szs_bd (wid_bd zeroL wideL) t1 t2 ((bareL (l.map pt)).map (·.r)) 0 (by omega)
          have a := putL_len (bareL (l.map pt)) _ (fun x hx => (hzb x hx).2)
          rw [← HOF.out, HL2.out] at a
          have := HT.out
          omega
        clear HOF HW0 HW4
        generalize ofL (wid zeroL wideL) tab (l.map pt) = cs at *
        have CST := Lib.hid (cStops_any A2 m c2 cs w2 HR2.out HL2.out hm2)
        go_wp2_with fail
        with_reducible refine (CST.out).mono ?_
        rintro e w5 ⟨v5, rfl, o5, hb5⟩
        obtain ⟨A5, c5, rfl, R5, _, _⟩ := bools_of_own o5
        have HR5 := Lib.hid R5
        have HB5 := Lib.hid (HB2.out.trans (hb5.mono HB2.out.size))
        have HR25 := Lib.hid (HR2.out.below hb5)
        clear o5 R5 hb5 CST
        go_wp2_with fail
        go_loopg [8, 9, 34] m (fun g x y i wr => ∃ (j : Nat), i = .int .i64 j ∧ j ≤ m ∧ m - j ≤ g ∧ Hid (Below w5.heap.size w5 wr))
        case atStart => exact ⟨0, rfl, by omega, by omega, Lib.hid (Below.refl _ _)⟩
        case round =>
          obtain ⟨j, rfl, h1, h2, hb⟩ := hrel
          by_cases hlt : j < m
          · have hjl : j < cs.length := by rw [HL2.out]; exact hlt
            obtain ⟨bA, off, rfl, hbA, d0, d1, d2, d3⟩ := (HR25.out.below hb.out).cell4 hjl
            obtain ⟨bS, offS, rfl, hbS, es⟩ := bool_at (HR5.out.below hb.out) (stL_at hjl)
            have HF4 : Hid (cs[j].k = 4 → stopAt cs j = false) := Lib.hid fun h => by unfold stopAt; rw [clth_eq hjl, h]; simp
            generalize cs[j] = o at *
            generalize stopAt cs j = sb at *
            obtain ⟨r, kd, wd, p⟩ := o
            simp only at d0 d1 d2 d3 HF4
            have i1 : (0 : Int) ≤ j := by omega
            have i2 : (j : Int) < m := by omega
            have HB6 := Lib.hid (hb.out.trans (((Below.refl wr.heap.size wr).alloc (Nat.le_refl _) (.cells #[.int .i32 r, .int .i64 kd, .int .i64 wd, .int .i64 p] 58)).mono hb.out.size))
            clear hb
            by_cases k4 : kd = 4
            · have hsb := HF4.out k4
              subst hsb
              subst k4
              clear HF4
              go_wp2
              go_roundg (gk - 1)
              case measure => omega
              case rel => exact ⟨j + 1, by go_num, by omega, by omega, HB6⟩
            · have k5 : (kd == 4) = false := by simpa using k4
              clear HF4 k4
              go_wp2
              go_roundg (gk - 1)
              case measure => omega
              case rel => exact ⟨j + 1, by go_num, by omega, by omega, HB6⟩
          · obtain rfl : j = m := by omega
            have HB7 := Lib.hid (HB5.out.trans (hb.out.mono HB5.out.size))
            have HBW := Lib.hid hb.out
            clear hb
            by_cases hj0 : j = 0
            · subst hj0
              go_wp2_with fail
              with_reducible refine (C4.out _ HB7.out).mono ?_
              rintro e w18 ⟨rfl, hb18⟩
              have HB18 := Lib.hid (HB7.out.trans (hb18.mono HB7.out.size))
              clear hb18
              go_wp2
              go_ret
              exact ⟨rfl, HB18.out⟩
            · have hjp : 0 < cs.length := by rw [HL2.out]; omega
              have hst : stopAt cs 0 = true := by
                have := HFI.out _ (List.getElem?_eq_getElem hjp)
                unfold stopAt
                rw [clth_eq hjp]
                rcases this with h | h | h <;> simp [h]
              obtain ⟨bS, offS, rfl, hbS, es⟩ := bool_at (HR5.out.below HBW.out) (stL_at hjp)
              rw [hst] at es
              rw [Nat.add_zero] at es
              have k6 : ((j : Int) == 0) = false := by simpa using hj0
              have i3 : (0 : Int) < j := by omega
              clear hst
              go_wp2_with fail
              with_reducible refine (C4.out _ HB7.out).mono ?_
              rintro e w18 ⟨rfl, hb18⟩
              have HB18 := Lib.hid (HB7.out.trans (hb18.mono HB7.out.size))
              clear hb18
              go_wp2
              go_ret
              exact ⟨rfl, HB18.out⟩
      · have HWR := Lib.hid (HW4.out hk)
        clear hk hb2 CO1 HW0 HW4
        go_wp2_with fail
        with_reducible refine (CRF.out _ HB2.out).mono ?_
        rintro e w3 ⟨A3, c3, rfl, R3, hb3⟩
        have HB3 := Lib.hid (HB2.out.trans (hb3.mono HB2.out.size))
        have CW := Lib.hid (rWrong18_any A3 n c3 l tab w3 R3 HL.out (by omega))
        rw [HWR.out] at CW
        clear R3 hb3
        go_wp2_with fail
        with_reducible refine (CW.out).mono ?_
        rintro e w4 ⟨rfl, hb4⟩
        have HB4 := Lib.hid (HB3.out.trans (hb4.mono HB3.out.size))
        clear hb4
        go_wp2_with fail
        with_reducible refine (C4.out _ HB4.out).mono ?_
        rintro e w18 ⟨rfl, hb18⟩
        have HB18 := Lib.hid (HB4.out.trans (hb18.mono HB4.out.size))
        clear hb18
        go_wp2
        go_ret
        exact ⟨rfl, HB18.out⟩
    · have CO := Lib.hid fun tb W => cOf_bad (.pointer (some ⟨tb, 0, none⟩)) A n c tab W g2
      have HWR : Hid (wrong18 l tab = 1) := Lib.hid (by unfold wrong18; rw [if_pos g2])
      clear g2
      go_enter Tryd.func12, Tryd.ntmps12
      go_wp2_with fail
      with_reducible refine (CLG.out).mono ?_
      rintro e w0 ⟨rfl, hb0⟩
      have HB0 := Lib.hid hb0
      clear hb0 CLG
      go_wp2_with fail
      with_reducible refine (CP.out _ HB0.out).mono ?_
      rintro e w1 ⟨tb, rfl, hb1, ht1⟩
      have HB1 := Lib.hid (HB0.out.trans (hb1.mono HB0.out.size))
      clear hb1 ht1 CP HB0
      go_wp2_with fail
      with_reducible refine (CO.out _ _).mono ?_
      rintro e w2 ⟨rfl, hb2⟩
      have HB2 := Lib.hid (HB1.out.trans (hb2.mono HB1.out.size))
      clear hb2 CO HB1
      go_wp2_with fail
      with_reducible refine (CRF.out _ HB2.out).mono ?_
      rintro e w3 ⟨A3, c3, rfl, R3, hb3⟩
      have HB3 := Lib.hid (HB2.out.trans (hb3.mono HB2.out.size))
      have CW := Lib.hid (rWrong18_any A3 n c3 l tab w3 R3 HL.out (by omega))
      rw [HWR.out] at CW
      clear R3 hb3
      go_wp2_with fail
      with_reducible refine (CW.out).mono ?_
      rintro e w4 ⟨rfl, hb4⟩
      have HB4 := Lib.hid (HB3.out.trans (hb4.mono HB3.out.size))
      clear hb4
      go_wp2_with fail
      with_reducible refine (C4.out _ HB4.out).mono ?_
      rintro e w18 ⟨rfl, hb18⟩
      have HB18 := Lib.hid (HB4.out.trans (hb18.mono HB4.out.size))
      clear hb18
      go_wp2
      go_ret
      exact ⟨rfl, HB18.out⟩
  · have CLG := Lib.hid (long18_any A n c l true w HA.out HL.out ⟨fun _ => hS, fun _ => rfl⟩)
    clear hS
    go_enter Tryd.func12, Tryd.ntmps12
    go_wp2_with fail
    with_reducible refine (CLG.out).mono ?_
    rintro e w0 ⟨rfl, hb0⟩
    have HB0 := Lib.hid hb0
    clear hb0 CLG
    go_wp2_with fail
    with_reducible refine (C4.out _ HB0.out).mono ?_
    rintro e w18 ⟨rfl, hb18⟩
    have HB18 := Lib.hid (HB0.out.trans (hb18.mono HB0.out.size))
    clear hb18
    go_wp2
    go_ret
    exact ⟨rfl, HB18.out⟩
end Go.Proofs.YtbalafgoengppaaDoor
