/- The law CellsPlain. -/
import Derived.Test.YtbalafgoengppaaDoorClW2
namespace Go.Proofs.YtbalafgoengppaaDoor
open Go.RowKit
set_option linter.unusedVariables false
/-- Runes at their places. -/
def plx (p : Int) : Nat → List Int → List (Int × Int)
  | _, [] => []
  | n, r :: rs => (r, p + (n : Int)) :: plx p (n + 1) rs
theorem pls_placed (x : Pt) (hk : x.k = 1) : ∀ (rs : List Int) (n : Nat), pls (placed x n rs) = plx x.p n rs
  | [], _ => rfl
  | r :: rs, n => by
    have ih := pls_placed x hk rs (n + 1)
    rw [placed, plx, show ∀ (a : Cl) (b : List Cl), a :: b = [a] ++ b from fun _ _ => rfl, pls_append, ih, hk]
    simp [pls]
theorem pls_plain (p : Int) (rs : List Int) (x : PtV) (hx : pt x = ⟨1, p, rs⟩) : pls (bareP (pt x)) = plx p 0 rs := by
  rw [hx]
  exact pls_placed ⟨1, p, rs⟩ rfl _ 0
theorem pls_other (x : Pt) (hk : x.k ≠ 1) : pls (bareP x) = [] := by
  unfold pls
  rw [List.map_eq_nil_iff, List.filter_eq_nil_iff]
  intro y hy
  rw [placed_k x _ _ y hy]
  simpa using hk
theorem pls_drop_no {cs : List Cl} {p : Nat} (h : p < cs.length) (hk : cs[p].k ≠ 1) : pls (cs.drop p) = pls (cs.drop (p + 1)) := by
  rw [List.drop_eq_getElem_cons h]
  unfold pls
  rw [List.filter_cons, if_neg (by simpa using hk)]
theorem pls_drop_yes {cs : List Cl} {p : Nat} (h : p < cs.length) (hk : cs[p].k = 1) : pls (cs.drop p) = (cs[p].r, cs[p].p) :: pls (cs.drop (p + 1)) := by
  rw [List.drop_eq_getElem_cons h]
  unfold pls
  rw [List.filter_cons, if_pos (by simpa using hk)]
  rfl
set_option maxHeartbeats 8000000 in
set_option maxRecDepth 100000 in
theorem cellsPlain_walk (A : Option Addr) (n c : Nat) (l : List PtV) (tab : Int) (w : World) (h : Tabs w) (hA : RowsAt ptcs 3 w A l) (hl : l.length = n) (hn : n ≤ maxLen) (_ : Caps A n c) (hok : ∀ s ∈ l, PtOk w s) (_ : Lit.wf (.int .i64 tab)) :
    Calls Tryd.prog 10 #[.slice A n c, .int .i64 tab] w fun e w' => e = .returned (.bool true) ∧ Below w.heap.size w w' := by
  unfold maxLen at hn
  have C4 := Lib.hid fun W (hb : Below w.heap.size w W) => four_any W (h.below hb)
  have CP := Lib.hid fun W (hb : Below w.heap.size w W) => plain_any W (h.below hb)
  have HA := Lib.hid hA
  have HL := Lib.hid hl
  have HOK := Lib.hid hok
  clear h hA hl hok
  by_cases hS : ShortP l
  · have CLG := Lib.hid (long18_any A n c l false w HA.out HL.out ⟨fun h => absurd h Bool.false_ne_true, fun h => absurd hS h⟩)
    obtain ⟨s1, s2, s3⟩ := hS
    rw [HL.out] at s1
    have HS2 := Lib.hid s2
    have HT := Lib.hid (short_bound l s3 (fun s hs => (HOK.out s hs).1) (by rw [HL.out]; exact s1))
    have CRF := Lib.hid fun W (hb : Below w.heap.size w W) => refs18_any A n c l W (HA.out.below hb) HL.out (by omega)
    clear s2 s3
    by_cases g2 : 1 ≤ tab ∧ tab ≤ 16
    · obtain ⟨t1, t2⟩ := g2
      have CO := Lib.hid fun tb W (hb : Below w.heap.size w W) ht => cOf_any (.pointer (some ⟨tb, 0, none⟩)) (wid zeroL wideL) A n c l tab W (TabV.of ht) (HA.out.below hb) HL.out (by omega) (fun s hs => (HOK.out s hs).below hb) (fun s hs => ⟨(HS2.out s hs).2.1, (HS2.out s hs).2.2, by have := (HS2.out s hs).1; omega⟩) HT.out t1 t2
      have HW0 : Hid (kok l → wrong18 l tab = 0) := Lib.hid fun h => by unfold wrong18; rw [if_neg (by simp; omega), if_pos ((kok_all l).1 h)]
      have HW4 : Hid (¬ kok l → wrong18 l tab = 4) := Lib.hid fun h => by unfold wrong18; rw [if_neg (by simp; omega), if_neg (fun hh => h ((kok_all l).2 hh))]
      go_enter Tryd.func10, Tryd.ntmps10
      go_wp2_with fail
      with_reducible refine (CLG.out).mono ?_
      rintro e w0 ⟨rfl, hb0⟩
      have HB0 := Lib.hid hb0
      clear hb0 CLG
      go_wp2_with fail
      with_reducible refine (CP.out _ HB0.out).mono ?_
      rintro e w1 ⟨tb, rfl, hb1, ht1⟩
      have HB1 := Lib.hid (HB0.out.trans (hb1.mono HB0.out.size))
      have CO1 := Lib.hid (CO.out tb w1 HB1.out ht1)
      clear hb1 ht1 CO CP HB0
      go_wp2_with fail
      with_reducible refine (CO1.out).mono ?_
      rintro e w2 ⟨hres, hb2⟩
      have HB2 := Lib.hid (HB1.out.trans (hb2.mono HB1.out.size))
      rcases hres with ⟨hk, m, v, rfl, ho⟩ | ⟨hk, rfl⟩
      · obtain ⟨A2, c2, rfl, hR2, hL2, hC2⟩ := rows_of_own encC_len (by omega) ho
        have HK := Lib.hid hk
        have HR2 := Lib.hid hR2
        have HL2 := Lib.hid hL2
        clear ho hR2 hL2 hC2 hb2 hk CO1
        have HPL : Hid (pls (ofL (wid zeroL wideL) tab (l.map pt)) = pls (bareL (l.map pt))) := Lib.hid (pls_putL _ _ (by rw [szs_length, List.length_map]))
        have hm2 : m ≤ 1000000 := by
          obtain ⟨hzb, _, _⟩ := szs_bd (wid_bd zeroL wideL) t1 t2 ((bareL (l.map pt)).map (·.r)) 0 (by omega)
          have a := putL_len (bareL (l.map pt)) _ (fun x hx => (hzb x hx).2)
          rw [show putL (bareL (l.map pt)) (szs (wid zeroL wideL) tab 0 ((bareL (l.map pt)).map (·.r))) = ofL (wid zeroL wideL) tab (l.map pt) from rfl, HL2.out] at a
          have := HT.out
          omega
        clear HW0 HW4
        generalize ofL (wid zeroL wideL) tab (l.map pt) = cs at *
        have hA0 : 0 < m → ∃ bC offC, A2 = some ⟨bC, offC, none⟩ := fun h0 => by obtain ⟨b, o, e, _⟩ := HR2.out (by rw [HL2.out]; exact h0); exact ⟨b, o, e⟩
        have HA0 := Lib.hid hA0
        clear hA0
        go_wp2_with fail
        go_loopg [7, 9, 10, 11, 34] n (fun g q x y z i wr => ∃ (j p : Nat), i = .int .i64 j ∧ j ≤ n ∧ n - j ≤ g ∧ q = .int .i64 (p : Int) ∧ p ≤ m ∧ Hid (Below w2.heap.size w2 wr) ∧ Hid (pls (cs.drop p) = pls (bareL ((l.drop j).map pt))))
        case atStart => exact ⟨0, 0, rfl, by omega, by omega, rfl, by omega, Lib.hid (Below.refl _ _), Lib.hid (by simpa using HPL.out)⟩
        case round =>
          obtain ⟨j, p, rfl, h1, h2, rfl, hp, hb, hpl⟩ := hrel
          by_cases hlt : j < n
          · have hjl : j < l.length := by rw [HL.out]; exact hlt
            have hbw := HB2.out.trans (hb.out.mono HB2.out.size)
            obtain ⟨bA, off, rfl, hbA, e0, e1, e2⟩ := (HA.out.below hbw).part3 hjl
            obtain ⟨o1, o2, o3, o4, o5, o6⟩ := (HOK.out _ (List.getElem_mem hjl)).below hbw
            obtain ⟨p1, p2, p3⟩ := HS2.out _ (List.getElem_mem hjl)
            have hps := hpl.out
            rw [List.drop_eq_getElem_cons hjl, List.map_cons, show ∀ (x : Pt) (y : List Pt), bareL (x :: y) = bareP x ++ bareL y from fun _ _ => rfl, pls_append] at hps
            have HK1 := Lib.hid (HK.out _ (List.getElem_mem hjl))
            clear hbw hpl
            generalize l[j] = s at *
            obtain ⟨k, pp, As, ns, cs', rs⟩ := s
            simp only at e0 e1 e2 o1 o2 o3 o4 o5 o6 p1 p2 p3 HK1
            have i1 : (0 : Int) ≤ j := by omega
            have i2 : (j : Int) < n := by omega
            have x1 : Below wr.heap.size wr (wr.alloc (.cells #[.int .i64 k, .int .i64 pp, .slice As ns cs'] 64)) := (Below.refl _ _).alloc (Nat.le_refl _) _
            have HRP : Hid (RawAt 64 (wr.alloc (.cells #[.int .i64 k, .int .i64 pp, .slice As ns cs'] 64)) wr.heap.size #[.int .i64 k, .int .i64 pp, .slice As ns cs']) := Lib.hid (heap_alloc_new wr _)
            have HIS := Lib.hid (o4.below x1)
            have HB1 := Lib.hid (hb.out.trans (x1.mono hb.out.size))
            have HNW := Lib.hid HRP.out.lt
            have HRL := Lib.hid o1
            obtain ⟨G, hG⟩ : ∃ G, G = gk := ⟨_, rfl⟩
            subst hG
            clear hb x1 o1 o2 o3 o4 o5 o6
            by_cases k1 : k = 1
            · subst k1
              have HPS : Hid (pls (cs.drop p) = plx pp 0 rs ++ pls (bareL ((l.drop (j + 1)).map pt))) := Lib.hid (by rw [hps]; congr 1; exact pls_plain pp rs _ rfl)
              clear hps
              go_wp2_with fail
              generalize wr.alloc (.cells #[.int .i64 1, .int .i64 pp, .slice As ns cs'] 64) = W1 at *
              clear e0 e1 e2 hbA
              generalize wr.heap.size = N at *
              go_loopg [7, 10, 11, 41] ns (fun g q x y i wr => ∃ (i' p : Nat), i = .int .i64 i' ∧ i' ≤ ns ∧ ns - i' ≤ g ∧ q = .int .i64 (p : Int) ∧ p ≤ m ∧ Hid (Below W1.heap.size W1 wr) ∧ Hid (pls (cs.drop p) = plx pp i' (rs.drop i') ++ pls (bareL ((l.drop (j + 1)).map pt))))
              case atStart => exact ⟨0, p, rfl, by omega, by omega, rfl, hp, Lib.hid (Below.refl _ _), Lib.hid (by simpa using HPS.out)⟩
              case round =>
                clear HPS hp
                obtain ⟨i', p, rfl, h3, h4, rfl, hp, hb1, hpl⟩ := hrel
                have hR := HRP.out.below hb1.out HNW.out
                have c0 := RawAt.cell hR 0
                have c1 := RawAt.cell hR 1
                simp at c0 c1
                by_cases hl2 : i' < ns
                · have hil : i' < rs.length := by rw [HRL.out]; exact hl2
                  obtain ⟨bR, offR, rfl, hbR, hcR⟩ := (HIS.out.below hb1.out) (by omega)
                  have r0 := hcR i' hil
                  have hps := hpl.out
                  rw [List.drop_eq_getElem_cons hil, plx, List.cons_append] at hps
                  rw [← nth_flat hil] at hps
                  have HPS := Lib.hid hps
                  have i3 : (0 : Int) ≤ i' := by omega
                  have i4 : (i' : Int) < ns := by omega
                  have HR' := Lib.hid hR
                  clear hcR hps hpl hR
                  generalize nth rs i' = r at *
                  obtain ⟨G2, hG2⟩ : ∃ G2, G2 = gk := ⟨_, rfl⟩
                  subst hG2
                  have c0 := RawAt.cell HR'.out 0
                  simp at c0
                  obtain ⟨W5, hW5⟩ : ∃ W5, W5 = wr := ⟨_, rfl⟩
                  subst hW5
                  have HB5 := Lib.hid (HB1.out.trans (hb1.out.mono HB1.out.size))
                  go_wp2_with fail
                  clear c0 r0
                  go_loopg [7] (m + 1) (fun g q wr => ∃ (p : Nat), q = .int .i64 (p : Int) ∧ p ≤ m ∧ m - p < g ∧ W5 = wr ∧ Hid (pls (cs.drop p) = (r, pp + (i' : Int)) :: (plx pp (i' + 1) (rs.drop (i' + 1)) ++ pls (bareL ((l.drop (j + 1)).map pt)))))
                  case atStart => exact ⟨p, rfl, hp, by omega, rfl, HPS⟩
                  case round =>
                    clear HPS hp
                    obtain ⟨p, rfl, hp, h5, rfl, hpq⟩ := hrel
                    have hpm : p < m := by
                      rcases Nat.lt_or_ge p m with h | h
                      · exact h
                      · have := hpq.out
                        rw [List.drop_of_length_le (by rw [HL2.out]; exact h)] at this
                        exact absurd this (by simp [pls])
                    have hpl2 : p < cs.length := by rw [HL2.out]; exact hpm
                    obtain ⟨bC, offC, hAe, hbC, d0, d1, d2, d3⟩ := (HR2.out.below HB5.out).cell4 hpl2
                    subst hAe
                    have i5 : (0 : Int) ≤ p := by omega
                    have i6 : (p : Int) < m := by omega
                    by_cases hkp : cs[p].k = 1
                    · have hy := hpq.out
                      rw [pls_drop_yes hpl2 hkp, List.cons.injEq, Prod.mk.injEq] at hy
                      obtain ⟨⟨y1, y2⟩, y3⟩ := hy
                      rw [hkp] at d1
                      rw [y1] at d0
                      rw [y2] at d3
                      have HY3 := Lib.hid y3
                      have k7 : ((p : Int) == (m : Int)) = false := by simp; omega
                      have k8 : decide ((p : Int) = (m : Int)) = false := by simp; omega
                      have hwr : IntKind.i64.wrap (pp + (i' : Int)) = pp + (i' : Int) := IntWalk.i64_in _ (by omega)
                      have c1 : W5.cell? ⟨N, 1, none⟩ = some (.int .i64 pp) := RawAt.cell HR'.out 1
                      have D0 := Lib.hid d0
                      have D3 := Lib.hid d3
                      clear y1 y2 y3 hpq hkp d2
                      go_wp2_with fail
                      refine wp_region_noPanic ?_
                      refine wp_region_held_drew (S := (fun W => W.cell? ⟨bC, offC + p * 4, none⟩ = some (.int .i32 r) ∧ W.cell? ⟨bC, offC + p * 4 + 3, none⟩ = some (.int .i64 (pp + (i' : Int))) ∧ W.cell? ⟨N, 1, none⟩ = some (.int .i64 pp))) (by kernel_rfl) (⟨D0.out, D3.out, c1⟩) (fun hHeld => ?_)
                      refine wpAnyH_take (i := 0) (v := ?_) rfl (by kernel_rfl) (by kernel_rfl) (by kernel_rfl) (fun _ _ _ h => h) (Or.inl ⟨by rfl, ?_⟩) hHeld ?_
                      rotate_left
                      · intro w hSw
                        (try dsimp only at hSw)
                        go_simp
                        try with_reducible rfl
                      go_simp
                      refine wpAnyH_take (i := 1) (v := ?_) rfl (by kernel_rfl) (by kernel_rfl) (by kernel_rfl) (fun _ _ _ h => h) (Or.inl ⟨by rfl, ?_⟩) hHeld ?_
                      rotate_left
                      · intro w hSw
                        (try dsimp only at hSw)
                        go_simp
                        try with_reducible rfl
                      go_simp
                      refine wpAnyH_take (i := 2) (v := ?_) rfl (by kernel_rfl) (by kernel_rfl) (by kernel_rfl) (fun _ _ _ h => h) (Or.inl ⟨by rfl, ?_⟩) hHeld ?_
                      rotate_left
                      · intro w hSw
                        (try dsimp only at hSw)
                        go_simp
                        try with_reducible rfl
                      go_simp
                      refine wpAnyH_take (i := 3) (v := ?_) rfl (by kernel_rfl) (by kernel_rfl) (by kernel_rfl) (fun _ _ _ h => h) (Or.inl ⟨by rfl, ?_⟩) hHeld ?_
                      rotate_left
                      · intro w hSw
                        (try dsimp only at hSw)
                        go_simp
                        try with_reducible rfl
                      go_simp
                      refine wpAnyH_take (i := 4) (v := ?_) rfl (by kernel_rfl) (by kernel_rfl) (by kernel_rfl) (fun _ _ _ h => h) (Or.inl ⟨by rfl, ?_⟩) hHeld ?_
                      rotate_left
                      · intro w hSw
                        (try dsimp only at hSw)
                        go_simp
                        try with_reducible rfl
                      go_simp
                      refine wpAnyH_take (i := 5) (v := ?_) rfl (by kernel_rfl) (by kernel_rfl) (by kernel_rfl) (fun _ _ _ h => h) (Or.inl ⟨by rfl, ?_⟩) hHeld ?_
                      rotate_left
                      · intro w hSw
                        (try dsimp only at hSw)
                        go_simp
                        try with_reducible rfl
                      go_simp
                      refine wpAnyH_take (i := 6) (v := ?_) rfl (by kernel_rfl) (by kernel_rfl) (by kernel_rfl) (fun _ _ _ h => h) (Or.inl ⟨by rfl, ?_⟩) hHeld ?_
                      rotate_left
                      · intro w hSw
                        (try dsimp only at hSw)
                        go_simp
                        try with_reducible rfl
                      go_simp
                      refine wpAnyH_take (i := 7) (v := ?_) rfl (by kernel_rfl) (by kernel_rfl) (by kernel_rfl) (fun _ _ _ h => h) (Or.inl ⟨by rfl, ?_⟩) hHeld ?_
                      rotate_left
                      · intro w hSw
                        (try dsimp only at hSw)
                        go_simp
                        try with_reducible rfl
                      go_simp
                      refine wpAnyH_take (i := 8) (v := ?_) rfl (by kernel_rfl) (by kernel_rfl) (by kernel_rfl) (fun _ _ _ h => h) (Or.inl ⟨by rfl, ?_⟩) hHeld ?_
                      rotate_left
                      · intro w hSw
                        (try dsimp only at hSw)
                        go_simp
                        try with_reducible rfl
                      go_simp
                      refine wpAnyH_take (i := 9) (v := ?_) rfl (by kernel_rfl) (by kernel_rfl) (by kernel_rfl) (fun _ _ _ h => h) (Or.inl ⟨by rfl, ?_⟩) hHeld ?_
                      rotate_left
                      · intro w hSw
                        (try dsimp only at hSw)
                        go_simp
                        try with_reducible rfl
                      go_simp
                      refine wpAnyH_take (i := 10) (v := ?_) rfl (by kernel_rfl) (by kernel_rfl) (by kernel_rfl) (fun _ _ _ h => h) (Or.inl ⟨by rfl, ?_⟩) hHeld ?_
                      rotate_left
                      · intro w hSw
                        (try dsimp only at hSw)
                        go_simp
                        try with_reducible rfl
                      go_simp
                      refine wpAnyH_take (i := 11) (v := ?_) rfl (by kernel_rfl) (by kernel_rfl) (by kernel_rfl) (fun _ _ _ h => h) (Or.inl ⟨by rfl, ?_⟩) hHeld ?_
                      rotate_left
                      · intro w hSw
                        (try dsimp only at hSw)
                        go_simp
                        try with_reducible rfl
                      go_simp
                      refine wpAnyH_take (i := 12) (v := ?_) rfl (by kernel_rfl) (by kernel_rfl) (by kernel_rfl) (fun _ _ _ h => h) (Or.inl ⟨by rfl, ?_⟩) hHeld ?_
                      rotate_left
                      · intro w hSw
                        (try dsimp only at hSw)
                        go_simp
                        try with_reducible rfl
                      go_simp
                      refine wpAnyH_take (i := 13) (v := ?_) rfl (by kernel_rfl) (by kernel_rfl) (by kernel_rfl) (fun _ _ _ h => h) (Or.inl ⟨by rfl, ?_⟩) hHeld ?_
                      rotate_left
                      · intro w hSw
                        (try dsimp only at hSw)
                        go_simp
                        try with_reducible rfl
                      go_simp
                      refine wpAnyH_take (i := 14) (v := ?_) rfl (by kernel_rfl) (by kernel_rfl) (by kernel_rfl) (fun _ _ _ h => h) (Or.inl ⟨by rfl, ?_⟩) hHeld ?_
                      rotate_left
                      · intro w hSw
                        (try dsimp only at hSw)
                        go_simp
                        try with_reducible rfl
                      go_simp
                      refine wpAnyH_take (i := 15) (v := ?_) rfl (by kernel_rfl) (by kernel_rfl) (by kernel_rfl) (fun _ _ _ h => h) (Or.inl ⟨by rfl, ?_⟩) hHeld ?_
                      rotate_left
                      · intro w hSw
                        (try dsimp only at hSw)
                        go_simp
                        try with_reducible rfl
                      go_simp
                      refine wpAnyH_take (i := 16) (v := ?_) rfl (by kernel_rfl) (by kernel_rfl) (by kernel_rfl) (fun _ _ _ h => h) (Or.inl ⟨by rfl, ?_⟩) hHeld ?_
                      rotate_left
                      · intro w hSw
                        (try dsimp only at hSw)
                        go_simp
                        try with_reducible rfl
                      go_simp
                      refine wpAnyH_take (i := 17) (v := ?_) rfl (by kernel_rfl) (by kernel_rfl) (by kernel_rfl) (fun _ _ _ h => h) (Or.inl ⟨by rfl, ?_⟩) hHeld ?_
                      rotate_left
                      · intro w hSw
                        (try dsimp only at hSw)
                        go_simp
                        try with_reducible rfl
                      go_simp
                      refine wpAnyH_take (i := 18) (v := ?_) rfl (by kernel_rfl) (by kernel_rfl) (by kernel_rfl) (fun _ _ _ h => h) (Or.inl ⟨by rfl, ?_⟩) hHeld ?_
                      rotate_left
                      · intro w hSw
                        (try dsimp only at hSw)
                        go_simp
                        try with_reducible rfl
                      go_simp
                      refine wpAnyH_take (i := 19) (v := ?_) rfl (by kernel_rfl) (by kernel_rfl) (by kernel_rfl) (fun _ _ _ h => h) (Or.inl ⟨by rfl, ?_⟩) hHeld ?_
                      rotate_left
                      · intro w hSw
                        (try dsimp only at hSw)
                        go_simp
                        try with_reducible rfl
                      go_simp
                      refine wpAnyH_take (i := 20) (v := ?_) rfl (by kernel_rfl) (by kernel_rfl) (by kernel_rfl) (fun _ _ _ h => h) (Or.inl ⟨by rfl, ?_⟩) hHeld ?_
                      rotate_left
                      · intro w hSw
                        (try dsimp only at hSw)
                        go_simp
                        try with_reducible rfl
                      go_simp
                      refine wpAnyH_take (i := 21) (v := ?_) rfl (by kernel_rfl) (by kernel_rfl) (by kernel_rfl) (fun _ _ _ h => h) (Or.inl ⟨by rfl, ?_⟩) hHeld ?_
                      rotate_left
                      · intro w hSw
                        (try dsimp only at hSw)
                        go_simp
                        try with_reducible rfl
                      go_simp
                      refine wpAnyH_take (i := 22) (v := ?_) rfl (by kernel_rfl) (by kernel_rfl) (by kernel_rfl) (fun _ _ _ h => h) (Or.inl ⟨by rfl, ?_⟩) hHeld ?_
                      rotate_left
                      · intro w hSw
                        (try dsimp only at hSw)
                        go_simp
                        try with_reducible rfl
                      go_simp
                      refine wpAnyH_take (i := 23) (v := ?_) rfl (by kernel_rfl) (by kernel_rfl) (by kernel_rfl) (fun _ _ _ h => h) (Or.inl ⟨by rfl, ?_⟩) hHeld ?_
                      rotate_left
                      · intro w hSw
                        (try dsimp only at hSw)
                        go_simp
                        try with_reducible rfl
                      go_simp
                      refine wpAnyH_take (i := 24) (v := ?_) rfl (by kernel_rfl) (by kernel_rfl) (by kernel_rfl) (fun _ _ _ h => h) (Or.inl ⟨by rfl, ?_⟩) hHeld ?_
                      rotate_left
                      · intro w hSw
                        (try dsimp only at hSw)
                        go_simp
                        try with_reducible rfl
                      go_simp
                      refine wpAnyH_done (by kernel_rfl) ?_ _
                      refine NoPanic.normal ?_
                      have HB6 := Lib.hid (show Below W1.heap.size W1 W5.drew from hb1.out.drew)
                      clear hHeld d0 d1 d3 c1
                      go_wp2
                      go_roundg (G2 - 1)
                      case measure => omega
                      case rel => exact ⟨i' + 1, p + 1, by go_num, by omega, by omega, by go_num, by omega, HB6, HY3⟩
                    · have k9 : (cs[p].k == 1) = false := by simpa using hkp
                      have k10 : (cs[p].k != 1) = true := by simpa using hkp
                      have HN2 := Lib.hid (by have := hpq.out; rw [pls_drop_no hpl2 hkp] at this; exact this)
                      clear hkp hpq d0 d2 d3
                      generalize cs[p].k = kk at *
                      go_wp2_with fail
                      go_roundg (gk - 1)
                      case measure => omega
                      case rel => exact ⟨p + 1, by go_num, by omega, by omega, rfl, HN2⟩
                · obtain rfl : i' = ns := by omega
                  have h5 := hpl.out
                  rw [List.drop_of_length_le (l := rs) (by rw [HRL.out]; exact Nat.le_refl _), plx, List.nil_append] at h5
                  have H5 := Lib.hid h5
                  have HB6 := Lib.hid (HB1.out.trans (hb1.out.mono HB1.out.size))
                  clear h5 hpl c0 c1 hR
                  go_wp2
                  go_roundg (G - 1)
                  case measure => omega
                  case rel => exact ⟨j + 1, p, by go_num, by omega, by omega, rfl, hp, HB6, H5⟩
            · have k2 : (k == 1) = false := by simpa using k1
              have k3 : (k != 1) = true := by simpa using k1
              have HPS : Hid (pls (cs.drop p) = pls (bareL ((l.drop (j + 1)).map pt))) := Lib.hid (by rw [hps, pls_other _ (show (pt ⟨k, pp, As, ns, cs', rs⟩).k ≠ 1 from k1), List.nil_append])
              clear hps k1
              go_wp2_with fail
              generalize wr.alloc (.cells #[.int .i64 k, .int .i64 pp, .slice As ns cs'] 64) = W1 at *
              clear e0 e1 e2 hbA
              generalize wr.heap.size = N at *
              go_loopg [7, 10, 11, 41] ns (fun g q x y i wr => ∃ (i' : Nat), i = .int .i64 i' ∧ i' ≤ ns ∧ ns - i' ≤ g ∧ q = .int .i64 (p : Int) ∧ W1 = wr)
              case atStart => exact ⟨0, rfl, by omega, by omega, rfl, rfl⟩
              case round =>
                obtain ⟨i', rfl, h3, h4, rfl, rfl⟩ := hrel
                have hR := HRP.out
                have c0 := RawAt.cell hR 0
                simp at c0
                by_cases hl2 : i' < ns
                · have hil : i' < rs.length := by rw [HRL.out]; exact hl2
                  obtain ⟨bR, offR, rfl, hbR, hcR⟩ := HIS.out (by omega)
                  have r0 := hcR i' hil
                  have i3 : (0 : Int) ≤ i' := by omega
                  have i4 : (i' : Int) < ns := by omega
                  clear hcR hR
                  generalize nth rs i' = r at *
                  go_wp2_with fail
                  go_roundg (gk - 1)
                  case measure => omega
                  case rel => exact ⟨i' + 1, by go_num, by omega, by omega, rfl, rfl⟩
                · clear hR c0
                  go_wp2
                  go_roundg (G - 1)
                  case measure => omega
                  case rel => exact ⟨j + 1, p, by go_num, by omega, by omega, rfl, hp, HB1, HPS⟩
          · obtain rfl : j = n := by omega
            have hps := hpl.out
            rw [List.drop_of_length_le (l := l) (by rw [HL.out]; exact Nat.le_refl _), show pls (bareL (([] : List PtV).map pt)) = [] from rfl] at hps
            have HPS := Lib.hid hps
            have HB7 := Lib.hid (HB2.out.trans (hb.out.mono HB2.out.size))
            have HR7 := Lib.hid (HR2.out.below hb.out)
            clear hps hpl hb
            obtain ⟨W5, hW5⟩ : ∃ W5, W5 = wr := ⟨_, rfl⟩
            subst hW5
            go_wp2_with fail
            go_loopg [7] (m + 1) (fun g q wr => ∃ (p : Nat), q = .int .i64 (p : Int) ∧ p ≤ m ∧ m - p < g ∧ W5 = wr ∧ Hid (pls (cs.drop p) = []))
            case atStart => exact ⟨p, rfl, hp, by omega, rfl, HPS⟩
            case round =>
              clear HPS hp
              obtain ⟨p, rfl, hp, h5, rfl, hpq⟩ := hrel
              by_cases hpm : p < m
              · have hpl2 : p < cs.length := by rw [HL2.out]; exact hpm
                obtain ⟨bC, offC, hAe, hbC, d0, d1, d2, d3⟩ := HR7.out.cell4 hpl2
                subst hAe
                have i5 : (0 : Int) ≤ p := by omega
                have i6 : (p : Int) < m := by omega
                have hkp : ¬ cs[p].k = 1 := fun hk => by have := hpq.out; rw [pls_drop_yes hpl2 hk] at this; cases this
                have k9 : (cs[p].k == 1) = false := by simpa using hkp
                have HN2 := Lib.hid (by have := hpq.out; rw [pls_drop_no hpl2 hkp] at this; exact this)
                clear hkp hpq d0 d2 d3
                generalize cs[p].k = kk at *
                go_wp2_with fail
                go_roundg (gk - 1)
                case measure => omega
                case rel => exact ⟨p + 1, by go_num, by omega, by omega, rfl, HN2⟩
              · obtain rfl : p = m := by omega
                go_wp2_with fail
                with_reducible refine (C4.out _ HB7.out).mono ?_
                rintro e w18 ⟨rfl, hb18⟩
                have HB18 := Lib.hid (HB7.out.trans (hb18.mono HB7.out.size))
                clear hb18
                go_wp2
                go_ret
                exact ⟨rfl, HB18.out⟩
      · have HWR := Lib.hid (HW4.out hk)
        clear hk hb2 CO1 HW0 HW4
        go_wp2_with fail
        with_reducible refine (CRF.out _ HB2.out).mono ?_
        rintro e w3 ⟨A3, c3, rfl, R3, hb3⟩
        have HB3 := Lib.hid (HB2.out.trans (hb3.mono HB2.out.size))
        have CW := Lib.hid (rWrong18_any A3 n c3 l tab w3 R3 HL.out (by omega))
        rw [HWR.out] at CW
        clear R3 hb3
        go_wp2_with fail
        with_reducible refine (CW.out).mono ?_
        rintro e w4 ⟨rfl, hb4⟩
        have HB4 := Lib.hid (HB3.out.trans (hb4.mono HB3.out.size))
        clear hb4
        go_wp2_with fail
        with_reducible refine (C4.out _ HB4.out).mono ?_
        rintro e w18 ⟨rfl, hb18⟩
        have HB18 := Lib.hid (HB4.out.trans (hb18.mono HB4.out.size))
        clear hb18
        go_wp2
        go_ret
        exact ⟨rfl, HB18.out⟩
    · have CO := Lib.hid fun tb W => cOf_bad (.pointer (some ⟨tb, 0, none⟩)) A n c tab W g2
      have HWR : Hid (wrong18 l tab = 1) := Lib.hid (by unfold wrong18; rw [if_pos g2])
      clear g2
      go_enter Tryd.func10, Tryd.ntmps10
      go_wp2_with fail
      with_reducible refine (CLG.out).mono ?_
      rintro e w0 ⟨rfl, hb0⟩
      have HB0 := Lib.hid hb0
      clear hb0 CLG
      go_wp2_with fail
      with_reducible refine (CP.out _ HB0.out).mono ?_
      rintro e w1 ⟨tb, rfl, hb1, ht1⟩
      have HB1 := Lib.hid (HB0.out.trans (hb1.mono HB0.out.size))
      clear hb1 ht1 CP HB0
      go_wp2_with fail
      with_reducible refine (CO.out _ _).mono ?_
      rintro e w2 ⟨rfl, hb2⟩
      have HB2 := Lib.hid (HB1.out.trans (hb2.mono HB1.out.size))
      clear hb2 CO HB1
      go_wp2_with fail
      with_reducible refine (CRF.out _ HB2.out).mono ?_
      rintro e w3 ⟨A3, c3, rfl, R3, hb3⟩
      have HB3 := Lib.hid (HB2.out.trans (hb3.mono HB2.out.size))
      have CW := Lib.hid (rWrong18_any A3 n c3 l tab w3 R3 HL.out (by omega))
      rw [HWR.out] at CW
      clear R3 hb3
      go_wp2_with fail
      with_reducible refine (CW.out).mono ?_
      rintro e w4 ⟨rfl, hb4⟩
      have HB4 := Lib.hid (HB3.out.trans (hb4.mono HB3.out.size))
      clear hb4
      go_wp2_with fail
      with_reducible refine (C4.out _ HB4.out).mono ?_
      rintro e w18 ⟨rfl, hb18⟩
      have HB18 := Lib.hid (HB4.out.trans (hb18.mono HB4.out.size))
      clear hb18
      go_wp2
      go_ret
      exact ⟨rfl, HB18.out⟩
  · have CLG := Lib.hid (long18_any A n c l true w HA.out HL.out ⟨fun _ => hS, fun _ => rfl⟩)
    clear hS
    go_enter Tryd.func10, Tryd.ntmps10
    go_wp2_with fail
    with_reducible refine (CLG.out).mono ?_
    rintro e w0 ⟨rfl, hb0⟩
    have HB0 := Lib.hid hb0
    clear hb0 CLG
    go_wp2_with fail
    with_reducible refine (C4.out _ HB0.out).mono ?_
    rintro e w18 ⟨rfl, hb18⟩
    have HB18 := Lib.hid (HB0.out.trans (hb18.mono HB0.out.size))
    clear hb18
    go_wp2
    go_ret
    exact ⟨rfl, HB18.out⟩
end Go.Proofs.YtbalafgoengppaaDoor
