/- Inlays: the document's Shift. -/
import Derived.Test.YtjkkngldiimkjaaGreatInX
import Derived.Test.YtjkkngldiimkjaaGreatInY
import Derived.Test.YtjkkngldiimkjaaGreatPtF
namespace Go.Proofs.YtjkkngldiimkjaaGreat
open Go.RowKit Go.Sort
set_option linter.unusedVariables false
theorem ishift_snoc (p : List Ch) (l : List In) (a : In) : ishift p (l ++ [a]) = ishift p l ++ [⟨a.id, mp 0 0 p a.pl a.bi, a.bi, a.ky, a.tx⟩] := by unfold ishift; rw [List.map_append]; rfl
theorem iolast_take {l : List Ch} {j : Nat} (h : j < l.length) : iolast (l.take (j + 1)) = (cth l j).ob := by
  unfold iolast
  rw [List.take_succ_eq_append_getElem h, List.getLast?_append]
  simp [cth, List.getD, h]
set_option maxHeartbeats 16000000 in
set_option maxRecDepth 100000 in
theorem rShift13_any (n er : Int) (A : Option Addr) (m c : Nat) (o : List In) (PA : Option Addr) (pm pc : Nat) (p : List Ch) (w : World) (hA : RowsAt encI 5 w A o) (hl : o.length = m) (hm : m ≤ 100000) (h0 : 0 ≤ n) (h40 : n ≤ 1099511627776) (hok : ∀ a ∈ o, 0 ≤ a.pl ∧ a.pl ≤ n) (hP : ChsAt w PA p) (hp : p.length = pm) (hpm : pm ≤ 1000) (hto : ∀ a ∈ o, a.tx.size ≤ 100000000) (r : Int) (hr : IShIs n p o r) :
    Calls Tryz.prog 33 #[.agg #[.int .i64 n, .slice A m c, .int .i64 er], .slice PA pm pc] w (NewRes (n + dlt p) (ishift p o) w r) := by
  have ST := in_slt
  have HA := Lib.hid hA
  have HL := Lib.hid hl
  have HP := Lib.hid hP
  have HPL := Lib.hid hp
  have HOK := Lib.hid hok
  have HRR := Lib.hid hr
  have HTX : Hid (∀ a ∈ ishift p o, a.tx.size ≤ 100000000) := Lib.hid fun a ha => by
    obtain ⟨y, hy, rfl⟩ := List.mem_map.1 ha
    exact hto y hy
  clear hA hl hP hp hok hr hto
  have x0 : Below w.heap.size w (w.alloc (.cells #[.int .i64 n, .slice A m c, .int .i64 er] 30)) := (Below.refl _ _).alloc (Nat.le_refl _) _
  have r0 : RawAt 30 (w.alloc (.cells #[.int .i64 n, .slice A m c, .int .i64 er] 30)) w.heap.size #[.int .i64 n, .slice A m c, .int .i64 er] := heap_alloc_new w _
  have x1 : Below (w.alloc (.cells #[.int .i64 n, .slice A m c, .int .i64 er] 30)).heap.size (w.alloc (.cells #[.int .i64 n, .slice A m c, .int .i64 er] 30)) ((w.alloc (.cells #[.int .i64 n, .slice A m c, .int .i64 er] 30)).alloc (.cells #[.int .i64 0, .slice none 0 0, .int .i64 0] 30)) := (Below.refl _ _).alloc (Nat.le_refl _) _
  have r1 : RawAt 30 ((w.alloc (.cells #[.int .i64 n, .slice A m c, .int .i64 er] 30)).alloc (.cells #[.int .i64 0, .slice none 0 0, .int .i64 0] 30)) (w.alloc (.cells #[.int .i64 n, .slice A m c, .int .i64 er] 30)).heap.size #[.int .i64 0, .slice none 0 0, .int .i64 0] := heap_alloc_new (w.alloc (.cells #[.int .i64 n, .slice A m c, .int .i64 er] 30)) _
  rw [show (w.alloc (.cells #[.int .i64 n, .slice A m c, .int .i64 er] 30)).heap.size = w.heap.size + 1 by simp] at r1
  have r0 := RawAt.below r0 x1 r0.lt
  have X1 := Lib.hid (x0.trans (x1.mono x0.size))
  obtain ⟨W1, hW1⟩ : ∃ W1, W1 = ((w.alloc (.cells #[.int .i64 n, .slice A m c, .int .i64 er] 30)).alloc (.cells #[.int .i64 0, .slice none 0 0, .int .i64 0] 30)) := ⟨_, rfl⟩
  rw [← hW1] at r0 r1 X1
  have HZ1 := Lib.hid r1.lt
  have HW1 := Lib.hid hW1
  have R0 := Lib.hid r0
  have R1 := Lib.hid r1
  clear x0 x1 r0 r1 hW1
  by_cases hn : nrm M40 0 0 true p
  · have CN := Lib.hid fun (W : World) (hW : Below w.heap.size w W) => rNormal_any PA pm pc p W true (HP.out.below hW) HPL.out (by omega) ⟨fun _ => hn, fun _ => rfl⟩
    have CM : Hid (∀ (x y : Int) (W : World), Below w.heap.size w W → 0 ≤ x → x ≤ 1099511627776 → Calls Tryz.prog 92 #[.slice PA pm pc, .int .i64 x, .int .i64 y] W fun e w' => e = .returned (.int .i64 (mp 0 0 p x y)) ∧ Below W.heap.size W w') := Lib.hid fun x y W hW g1 g2 => by
      rw [← mpR_mp (p := 0) (q := 0) hn x y]
      exact rMap_any PA pm pc p x y W (HP.out.below hW) HPL.out (by omega) (nrm_mem hn) g1 g2
    have hgb : ∀ j, -1099511627776000 ≤ dlt (p.take j) ∧ dlt (p.take j) ≤ 1099511627776000 := fun j => by
      have h1 := dlt_bd (K := 1099511627776) (by decide) (l := p.take j) (fun c hc => by
        obtain ⟨⟨a1, a2, a3⟩, a4, a5, a6⟩ := nrm_mem hn c (List.mem_of_mem_take hc)
        unfold M40 at a3 a6
        omega)
      have h2 : (p.take j).length ≤ 1000 := by rw [List.length_take, HPL.out]; omega
      omega
    have HGB := Lib.hid hgb
    have HMB := Lib.hid (nrm_mem hn)
    have HRR := Lib.hid (⟨HRR.out.2.1 hn, fun g => HRR.out.2.2 hn (by omega)⟩ : (n < iolast p → r = 1) ∧ (iolast p ≤ n → r = iwrong (n + dlt p) (ishift p o)))
    clear hn hgb
    go_enter Tryz.func33, Tryz.ntmps33
    go_wp2_with fail
    rw [← HW1.out]
    clear HW1
    with_reducible refine (CN.out _ X1.out).mono ?_
    rintro e2 w2 ⟨rfl, b2⟩
    have r0 := RawAt.below R0.out b2 R0.out.lt
    have c0 := RawAt.cell r0 0
    have c1 := RawAt.cell r0 1
    simp at c0 c1
    have B2 := Lib.hid b2
    clear b2 r0 CN
    go_wp2_with fail
    go_loopg [5, 6, 20] pm (fun g d t i wr => ∃ (j : Nat), i = .int .i64 j ∧ j ≤ pm ∧ pm - j ≤ g ∧ Hid (Below W1.heap.size W1 wr) ∧ Hid (d = .int .i64 (n + dlt (p.take j))) ∧ Hid (t = .int .i64 (iolast (p.take j))))
    case atStart => exact ⟨0, rfl, by omega, by omega, B2, Lib.hid (by simp [dlt]), Lib.hid (by simp [iolast])⟩
    case round =>
      clear c0 c1 B2
      obtain ⟨j, rfl, h1, h2, hb, hz, ht⟩ := hrel
      have hz := hz.out
      have ht := ht.out
      obtain ⟨zv, hzv⟩ : ∃ zv, zv = n + dlt (p.take j) := ⟨_, rfl⟩
      rw [← hzv] at hz
      obtain ⟨tv, htv⟩ : ∃ tv, tv = iolast (p.take j) := ⟨_, rfl⟩
      rw [← htv] at ht
      subst hz
      subst ht
      have hzb := HGB.out j
      have HZ := Lib.hid hzv
      have HT := Lib.hid htv
      clear htv
      by_cases hlt : j < pm
      · have hjl : j < p.length := by rw [HPL.out]; exact hlt
        obtain ⟨bA, off, rfl, hbA, d0, d1, d2, d3⟩ := (HP.out.below (X1.out.trans (hb.out.mono X1.out.size))).at1 hjl
        obtain ⟨⟨m1, m2, m3⟩, m4, m5, m6⟩ := HMB.out _ (cth_mem hjl)
        have hst := dlt_take hjl
        have HNT := Lib.hid (iolast_take hjl)
        generalize cth p j = c at *
        unfold M40 at m3 m6
        have HNZ : Hid (zv + (c.nb - c.na) - (c.ob - c.oa) = n + dlt (p.take (j + 1))) := Lib.hid (by omega)
        have zb1 : -1099511627776000 ≤ zv ∧ zv ≤ 1100611139403776 := by omega
        clear hst hzv hzb
        obtain ⟨zb3, zb4⟩ := zb1
        have i1 : (0 : Int) ≤ j := by omega
        have i2 : (j : Int) < pm := by omega
        have x3 : Below wr.heap.size wr (wr.alloc (.cells #[.int .i64 c.oa, .int .i64 c.ob, .int .i64 c.na, .int .i64 c.nb] 68)) := (Below.refl _ _).alloc (Nat.le_refl _) _
        have R3 : RawAt 68 (wr.alloc (.cells #[.int .i64 c.oa, .int .i64 c.ob, .int .i64 c.na, .int .i64 c.nb] 68)) wr.heap.size #[.int .i64 c.oa, .int .i64 c.ob, .int .i64 c.na, .int .i64 c.nb] := heap_alloc_new wr _
        have g0 := RawAt.cell R3 0
        have g1 := RawAt.cell R3 1
        have g2 := RawAt.cell R3 2
        have g3 := RawAt.cell R3 3
        simp at g0 g1 g2 g3
        have HB3 := Lib.hid (hb.out.trans (x3.mono hb.out.size))
        have w1 : IntKind.i64.wrap (c.nb - c.na) = c.nb - c.na := IntWalk.i64_in _ (by omega)
        have w2 : IntKind.i64.wrap (c.ob - c.oa) = c.ob - c.oa := IntWalk.i64_in _ (by omega)
        have w3 : IntKind.i64.wrap (zv + (c.nb - c.na)) = zv + (c.nb - c.na) := IntWalk.i64_in _ (by omega)
        have w4 : IntKind.i64.wrap (zv + (c.nb - c.na) - (c.ob - c.oa)) = zv + (c.nb - c.na) - (c.ob - c.oa) := IntWalk.i64_in _ (by omega)
        clear x3 R3 hb
        go_wp2
        go_roundg (gk - 1)
        case measure => omega
        case rel => exact ⟨j + 1, by go_num, by omega, by omega, HB3, Lib.hid (by rw [← HNZ.out]), Lib.hid (by rw [HNT.out])⟩
      · obtain rfl : j = pm := by omega
        have e2 : p.take j = p := List.take_of_length_le (by rw [HPL.out]; exact Nat.le_refl _)
        have hz2 := HZ.out
        have ht2 := HT.out
        rw [e2] at ht2 hzv hzb
        have hR0 := HRR.out
        rw [← hzv, ← ht2] at hR0
        have hR := Lib.hid hR0
        clear hR0
        have HE : Hid (n + dlt p = zv) := Lib.hid hzv.symm
        have HB := Lib.hid hb.out
        have HZZ := Lib.hid (X1.out.trans (HB.out.mono X1.out.size))
        have r0 := RawAt.below R0.out HB.out R0.out.lt
        have c0 := RawAt.cell r0 0
        have c1 := RawAt.cell r0 1
        simp at c0 c1
        have hS1 := RawAt.below R1.out HB.out R1.out.lt
        have q0 := RawAt.cell hS1 0
        have q1 := RawAt.cell hS1 1
        have q2 := RawAt.cell hS1 2
        have f0 := RawAt.free hS1 0
        have f1 := RawAt.free hS1 1
        have f2 := RawAt.free hS1 2
        simp at q0 q1 q2
        have HR1 := Lib.hid hS1
        clear e2 hz2 ht2 hzv hzb hb HRR HZ HT HGB HMB hS1 r0
        by_cases g1 : n < tv
        · have k1 : decide (n < tv) = true := decide_eq_true g1
          have e : r = 1 := hR.out.1 g1
          subst e
          go_wp2
          have t0 := ((HR1.out.set_ 0 (.int .i64 0)).set_ 1 (.slice none 0 0)).set_ 2 (.int .i64 1)
          have z0 := RawAt.cell t0 0
          have z1 := RawAt.cell t0 1
          have z2 := RawAt.cell t0 2
          simp at z0 z1 z2
          refine bodyPost_ret (v := .agg #[.int .i64 0, .slice none 0 0, .int .i64 1]) (by simp [results, Tryz.results33, go_sem, z0, z1, z2]) rfl ⟨0, none, 0, 0, rfl, fun h => absurd h (by decide), ?_⟩
          exact (((HZZ.out.setCell (p := ⟨w.heap.size + 1, 0, none⟩) (Nat.le_succ _) _).setCell (p := ⟨w.heap.size + 1, 1, none⟩) (Nat.le_succ _) _).setCell (p := ⟨w.heap.size + 1, 2, none⟩) (Nat.le_succ _) _)
        · have k1 : decide (n < tv) = false := decide_eq_false g1
          by_cases g2 : 1099511627776 < zv
          · have k2 : decide (1099511627776 < zv) = true := decide_eq_true g2
            have e : r = 1 := by rw [hR.out.2 (by omega)]; unfold iwrong; rw [if_pos (.inr g2)]
            subst e
            go_wp2
            have t0 := ((HR1.out.set_ 0 (.int .i64 0)).set_ 1 (.slice none 0 0)).set_ 2 (.int .i64 1)
            have z0 := RawAt.cell t0 0
            have z1 := RawAt.cell t0 1
            have z2 := RawAt.cell t0 2
            simp at z0 z1 z2
            refine bodyPost_ret (v := .agg #[.int .i64 0, .slice none 0 0, .int .i64 1]) (by simp [results, Tryz.results33, go_sem, z0, z1, z2]) rfl ⟨0, none, 0, 0, rfl, fun h => absurd h (by decide), ?_⟩
            exact (((HZZ.out.setCell (p := ⟨w.heap.size + 1, 0, none⟩) (Nat.le_succ _) _).setCell (p := ⟨w.heap.size + 1, 1, none⟩) (Nat.le_succ _) _).setCell (p := ⟨w.heap.size + 1, 2, none⟩) (Nat.le_succ _) _)
          · have k2 : decide (1099511627776 < zv) = false := decide_eq_false g2
            have HE2 : Hid (iwrong zv (ishift p o) = r) := Lib.hid (hR.out.2 (by omega)).symm
            have CNW := Lib.hid fun (A' : Option Addr) (m' c' : Nat) (W : World) (h1 : RowsAt encI 5 W A' (ishift p o)) (h2 : Caps A' m' c') (h3 : (ishift p o).length = m') => rNew13_any zv A' m' c' (ishift p o) W h1 h2 h3 HTX.out r HE2.out
            clear hR HE2 HTX q0 q1 q2 f0 f1 f2 HR1
            go_wp2_with fail
            go_loopg [9, 57] m (fun g v i wr => ∃ (k : Nat), i = .int .i64 k ∧ k ≤ m ∧ m - k ≤ g ∧ Hid (Below W1.heap.size W1 wr) ∧ Hid (wr.ownsRow W1.heap.size 61 5 v k (kfl encI (ishift p (o.take k)))))
            case atStart => exact ⟨0, rfl, by omega, by omega, HB, Lib.hid (World.ownsRow_nil _ _ _ _)⟩
            case round =>
              clear c0 c1 HB HZZ
              obtain ⟨k, rfl, h3, h4, hb, hown⟩ := hrel
              by_cases hlt : k < m
              · have hkl : k < o.length := by rw [HL.out]; exact hlt
                obtain ⟨bA, off, rfl, hbA, hce⟩ := (HA.out.below (X1.out.trans (hb.out.mono X1.out.size))).at1 hkl
                have f0 := hce 0 (by omega)
                have f1 := hce 1 (by omega)
                have f2 := hce 2 (by omega)
                have f3 := hce 3 (by omega)
                have f4 := hce 4 (by omega)
                rw [Nat.add_zero] at f0
                have htk : ishift p (o.take (k + 1)) = ishift p (o.take k) ++ [⟨o[k].id, mp 0 0 p o[k].pl o[k].bi, o[k].bi, o[k].ky, o[k].tx⟩] := by rw [List.take_succ_eq_append_getElem hkl, ishift_snoc]
                have HTK := Lib.hid htk
                obtain ⟨k1, k2⟩ := HOK.out _ (List.getElem_mem hkl)
                clear htk hce
                generalize o[k] = a at *
                simp [encI] at f0 f1 f2 f3 f4
                have i1 : (0 : Int) ≤ k := by omega
                have i2 : (k : Int) < m := by omega
                have x3 : Below wr.heap.size wr (wr.alloc (.cells #[.int .i64 a.id, .int .i64 a.pl, .int .i64 a.bi, .int .i64 a.ky, .string a.tx] 61)) := (Below.refl _ _).alloc (Nat.le_refl _) _
                have R3 : RawAt 61 (wr.alloc (.cells #[.int .i64 a.id, .int .i64 a.pl, .int .i64 a.bi, .int .i64 a.ky, .string a.tx] 61)) wr.heap.size #[.int .i64 a.id, .int .i64 a.pl, .int .i64 a.bi, .int .i64 a.ky, .string a.tx] := heap_alloc_new wr _
                have g1 := RawAt.cell R3 1
                have g2 := RawAt.cell R3 2
                simp at g1 g2
                have HB3 := Lib.hid (hb.out.trans (x3.mono hb.out.size))
                have HO3 := Lib.hid (own_below hown.out x3)
                obtain ⟨A3, c3, rfl⟩ := own_form hown.out
                have hlt4 := hown.out.lt
                have CMK := Lib.hid (CM.out a.pl a.bi _ (X1.out.trans (HB3.out.mono X1.out.size)) k1 (by omega))
                have R3 := Lib.hid R3
                have HBW : Hid (W1.heap.size ≤ wr.heap.size) := Lib.hid hb.out.size
                generalize mp 0 0 p a.pl a.bi = z at *
                clear x3 hown hb
                go_wp2_with fail
                with_reducible refine (CMK.out).mono ?_
                rintro e5 w5 ⟨rfl, b5⟩
                have R5 := RawAt.below R3.out b5 R3.out.lt
                have HB5 := HB3.out.trans (b5.mono HB3.out.size)
                have HO5 := own_below HO3.out b5
                have q1 := RawAt.cell R5 1
                have d1 := RawAt.free R5 1
                simp at q1
                have R6 : RawAt 61 (w5.setCell ⟨wr.heap.size, 1, none⟩ (.int .i64 z)) wr.heap.size #[.int .i64 a.id, .int .i64 z, .int .i64 a.bi, .int .i64 a.ky, .string a.tx] := RawAt.of_eq (R5.set_ 1 (.int .i64 z)) rfl
                have y0 := RawAt.cell R6 0
                have y1 := RawAt.cell R6 1
                have y2 := RawAt.cell R6 2
                have y3 := RawAt.cell R6 3
                have y4 := RawAt.cell R6 4
                simp at y0 y1 y2 y3 y4
                have HB6 := HB5.setCell (p := ⟨wr.heap.size, 1, none⟩) HBW.out (.int .i64 z)
                have HO6 := own_set_ne HO5 (b := wr.heap.size) (fun g hg => Nat.ne_of_lt (hlt4 g hg).2) 1 (.int .i64 z)
                have x4 : Below (w5.setCell ⟨wr.heap.size, 1, none⟩ (.int .i64 z)).heap.size (w5.setCell ⟨wr.heap.size, 1, none⟩ (.int .i64 z)) ((w5.setCell ⟨wr.heap.size, 1, none⟩ (.int .i64 z)).alloc (.cells #[.int .i64 a.id, .int .i64 z, .int .i64 a.bi, .int .i64 a.ky, .string a.tx] 61)) := (Below.refl _ _).alloc (Nat.le_refl _) _
                have R4 : RawAt 61 ((w5.setCell ⟨wr.heap.size, 1, none⟩ (.int .i64 z)).alloc (.cells #[.int .i64 a.id, .int .i64 z, .int .i64 a.bi, .int .i64 a.ky, .string a.tx] 61)) (w5.setCell ⟨wr.heap.size, 1, none⟩ (.int .i64 z)).heap.size #[.int .i64 a.id, .int .i64 z, .int .i64 a.bi, .int .i64 a.ky, .string a.tx] := heap_alloc_new (w5.setCell ⟨wr.heap.size, 1, none⟩ (.int .i64 z)) _
                rw [show (w5.setCell ⟨wr.heap.size, 1, none⟩ (.int .i64 z)).heap.size = w5.heap.size by simp] at R4
                have HO7 := Lib.hid (own_below HO6 x4)
                have HS7 : Hid (RowsAt encI 5 ((w5.setCell ⟨wr.heap.size, 1, none⟩ (.int .i64 z)).alloc (.cells #[.int .i64 a.id, .int .i64 z, .int .i64 a.bi, .int .i64 a.ky, .string a.tx] 61)) (some ⟨w5.heap.size, 0, none⟩) [⟨a.id, z, a.bi, a.ky, a.tx⟩]) := Lib.hid (rows_of_block (enc := encI) (k := 5) encI_len R4 (l := [⟨a.id, z, a.bi, a.ky, a.tx⟩]) rfl)
                have HB7 := Lib.hid (HB6.trans (x4.mono HB6.size))
                clear x4 R4 HB6 HO6 HO5 HB5 R5 R6 R3 HB3 HO3 b5 CMK g1 g2
                go_wp2_with ((at_builtin; refine wpList_appK (enc := encI) ST encI_len (by omega) rfl (.tmp 68) (.tmp 70) rfl (base := W1.heap.size) (v := .slice A3 k c3) rfl HO7.out _ 1 1 [⟨a.id, z, a.bi, a.ky, a.tx⟩] rfl HS7.out ⟨Nat.le_refl _, fun h => by cases h⟩ rfl (kfl_one' encI_one _) (by simp only [maxLen]; omega) (by omega) HB7.out.size ?_; intro v5 w8 hown5 hg5 hor5; have HB8 := Lib.hid (HB7.out.grown hg5 HB7.out.size (fun j hj => (hlt4 j hj).1)); have HO8 : Hid (w8.ownsRow W1.heap.size 61 5 v5 (k + 1) (kfl encI (ishift p (o.take (k + 1))))) := Lib.hid (by rw [HTK.out, kfl_append]; exact hown5); clear hown5 hg5 hor5 HO7 HS7 HB7))
                go_roundg (gk - 1)
                case measure => omega
                case rel => exact ⟨k + 1, by go_num, by omega, by omega, HB8, HO8⟩
              · obtain rfl : m = k := by omega
                have e2 : o.take m = o := List.take_of_length_le (by rw [HL.out]; exact Nat.le_refl _)
                have ho2 := hown.out
                rw [e2] at ho2
                have hlp : (ishift p o).length = m := by rw [ishift_len, HL.out]
                have ho3 := ho2
                rw [← hlp] at ho3
                obtain ⟨A6, c6, e6, hR6, _, hC6⟩ := rows_of_own encI_len (by omega) ho3
                rw [hlp] at e6 hC6
                subst e6
                have CNW6 := Lib.hid (CNW.out A6 _ c6 _ hR6 hC6 hlp)
                have HB6 := Lib.hid hb.out
                clear e2 ho2 ho3 hR6 hC6 hlp hown hb CNW
                go_wp2_with fail
                with_reducible refine (CNW6.out).mono ?_
                rintro e7 w7 ⟨nn, A7, m7, c7, rfl, hres, b7⟩
                have hS1 := RawAt.below R1.out (HB6.out.trans (b7.mono HB6.out.size)) R1.out.lt
                have q0 := RawAt.cell hS1 0
                have q1 := RawAt.cell hS1 1
                have q2 := RawAt.cell hS1 2
                have f0 := RawAt.free hS1 0
                have f1 := RawAt.free hS1 1
                have f2 := RawAt.free hS1 2
                simp at q0 q1 q2
                have HR1 := Lib.hid hS1
                have HZ7 := Lib.hid (X1.out.trans ((HB6.out.trans (b7.mono HB6.out.size)).mono X1.out.size))
                have HRES := Lib.hid hres
                clear hres b7 hS1 CNW6
                go_wp2
                have t0 := ((HR1.out.set_ 0 (.int .i64 nn)).set_ 1 (.slice A7 m7 c7)).set_ 2 (.int .i64 r)
                have z0 := RawAt.cell t0 0
                have z1 := RawAt.cell t0 1
                have z2 := RawAt.cell t0 2
                simp at z0 z1 z2
                refine bodyPost_ret (v := .agg #[.int .i64 nn, .slice A7 m7 c7, .int .i64 r]) (by simp [results, Tryz.results33, go_sem, z0, z1, z2]) rfl ⟨nn, A7, m7, c7, rfl, fun hr0 => ?_, ?_⟩
                · obtain ⟨y1, y2, y3⟩ := HRES.out hr0
                  exact ⟨y1.trans HE.out.symm, y2, rows_apart3 (rows_apart3 (rows_apart3 y3 HR1.out _ _) (RawAt.of_eq (HR1.out.set_ 0 (.int .i64 nn)) rfl) _ _) (RawAt.of_eq ((HR1.out.set_ 0 (.int .i64 nn)).set_ 1 (.slice A7 m7 c7)) rfl) _ _⟩
                · exact (((HZ7.out.setCell (p := ⟨w.heap.size + 1, 0, none⟩) (Nat.le_succ _) _).setCell (p := ⟨w.heap.size + 1, 1, none⟩) (Nat.le_succ _) _).setCell (p := ⟨w.heap.size + 1, 2, none⟩) (Nat.le_succ _) _)
  · have CN := Lib.hid fun (W : World) (hW : Below w.heap.size w W) => rNormal_any PA pm pc p W false (HP.out.below hW) HPL.out (by omega) ⟨fun h => absurd h (by decide), fun h => absurd h hn⟩
    have e : r = 4 := HRR.out.1 hn
    subst e
    clear HRR hn
    go_enter Tryz.func33, Tryz.ntmps33
    go_wp2_with fail
    rw [← HW1.out]
    clear HW1
    with_reducible refine (CN.out _ X1.out).mono ?_
    rintro e2 w2 ⟨rfl, b2⟩
    have hS1 := RawAt.below R1.out b2 R1.out.lt
    have q0 := RawAt.cell hS1 0
    have q1 := RawAt.cell hS1 1
    have q2 := RawAt.cell hS1 2
    have f0 := RawAt.free hS1 0
    have f1 := RawAt.free hS1 1
    have f2 := RawAt.free hS1 2
    simp at q0 q1 q2
    have HR1 := Lib.hid hS1
    have HZZ := Lib.hid (X1.out.trans (b2.mono X1.out.size))
    clear b2 hS1
    go_wp2
    have t0 := ((HR1.out.set_ 0 (.int .i64 0)).set_ 1 (.slice none 0 0)).set_ 2 (.int .i64 4)
    have z0 := RawAt.cell t0 0
    have z1 := RawAt.cell t0 1
    have z2 := RawAt.cell t0 2
    simp at z0 z1 z2
    refine bodyPost_ret (v := .agg #[.int .i64 0, .slice none 0 0, .int .i64 4]) (by simp [results, Tryz.results33, go_sem, z0, z1, z2]) rfl ⟨0, none, 0, 0, rfl, fun h => absurd h (by decide), ?_⟩
    exact (((HZZ.out.setCell (p := ⟨w.heap.size + 1, 0, none⟩) (Nat.le_succ _) _).setCell (p := ⟨w.heap.size + 1, 1, none⟩) (Nat.le_succ _) _).setCell (p := ⟨w.heap.size + 1, 2, none⟩) (Nat.le_succ _) _)
end Go.Proofs.YtjkkngldiimkjaaGreat
