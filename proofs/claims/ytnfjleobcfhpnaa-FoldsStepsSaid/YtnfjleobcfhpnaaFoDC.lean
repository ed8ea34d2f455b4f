/- Folds: the document's Shift. -/
import Derived.Test.YtnfjleobcfhpnaaFoDA
import Derived.Test.YtnfjleobcfhpnaaFoX
import Derived.Test.YtnfjleobcfhpnaaPtF
namespace Go.Proofs.Ytnfjleobcfhpnaa
open Go.RowKit Go.Sort
set_option linter.unusedVariables false
theorem folast_take {l : List Ch} {j : Nat} (h : j < l.length) : folast (l.take (j + 1)) = (cth l j).ob := by
  unfold folast
  rw [List.take_succ_eq_append_getElem h, List.getLast?_append]
  simp [cth, List.getD, h]
set_option maxHeartbeats 4000000 in
set_option maxRecDepth 100000 in
theorem fchg_any (A : Option Addr) (n cp : Nat) (l : List Ch) (w : World) (hA : ChsAt w A l) (hl : l.length = n) (hn : n ≤ 1000000) :
    Calls Try.prog 22 #[.slice A n cp] w fun e w' => ∃ A' c', e = .returned (.slice A' n c') ∧ ChsAt w' A' l ∧ Caps A' n c' ∧ Below w.heap.size w w' := by
  have HA := Lib.hid hA; clear hA
  have HL := Lib.hid hl; clear hl
  go_enter Try.func22, Try.ntmps22
  obtain ⟨i0, hi0, hz0, hz1, hz2⟩ := info_parts rchange_info
  go_wp2_with fail
  go_loopg [3, 8] n (fun g v i wr => ∃ (j : Nat), i = .int .i64 j ∧ j ≤ n ∧ n - j ≤ g ∧ Below w.heap.size w wr ∧ Hid (wr.ownsRow w.heap.size 97 4 v j (cflat (l.take j))))
  case atStart => exact ⟨0, rfl, by omega, by omega, Below.refl _ _, Lib.hid (World.ownsRow_nil _ _ _ _)⟩
  case round =>
    obtain ⟨j, rfl, j1, j2, hb, hown⟩ := hrel
    have hlt4 := hown.out.lt
    have hszw := hb.size
    by_cases hlt : j < n
    · have hjl : j < l.length := by rw [HL.out]; exact hlt
      obtain ⟨bA, off, rfl, hbA, d0, d1, d2, d3⟩ := (HA.out.below hb).at1 hjl
      have hsf := Lib.hid (show cflat (l.take (j + 1)) = cflat (l.take j) ++ [.int .i64 (cth l j).oa, .int .i64 (cth l j).ob, .int .i64 (cth l j).na, .int .i64 (cth l j).nb] from by rw [cth_take hjl, cflat_append]; rfl)
      generalize cth l j = c at *
      have i1 : (0 : Int) ≤ j := by omega
      have i2 : (j : Int) < n := by omega
      have x3 : Below wr.heap.size wr (wr.alloc (.cells #[.int .i64 c.oa, .int .i64 c.ob, .int .i64 c.na, .int .i64 c.nb] 55)) := (Below.refl _ _).alloc (Nat.le_refl _) _
      have a3 := hb.trans (x3.mono hb.size)
      have a4 := (hb.alloc hb.size (.cells #[.int .i64 c.oa, .int .i64 c.ob, .int .i64 c.na, .int .i64 c.nb] 55)).alloc (by simp; omega) (.cells #[.int .i64 c.oa, .int .i64 c.ob, .int .i64 c.na, .int .i64 c.nb] 97)
      go_wp2_with (at_builtin; refine wpList_append_own _ rfl (.tmp 12) (.tmp 18) _ rfl w.heap.size 97 i0 _ 4 32 Try.underlying48 hi0 hz0 hz1 hz2 rfl (by omega) _ j (cflat (l.take j)) rfl ((hown.out.alloc _).alloc _) ⟨wr.heap.size + 1, 0, none⟩ 1 1 [.int .i64 c.oa, .int .i64 c.ob, .int .i64 c.na, .int .i64 c.nb] rfl rfl (World.news_of_block (cs := #[.int .i64 c.oa, .int .i64 c.ob, .int .i64 c.na, .int .i64 c.nb]) (t := 97) (fr := (0, 0)) (heap_alloc2_new wr _ _)) (by simp [Value.oneCell']) (by simp only [maxLen]; omega) (by omega) (by simp; omega) ?_; intro v4 w4 hown4 hg4 hnil4; clear hnil4)
      have hb4 : Below w.heap.size w w4 := a4.grown hg4 (by simp; omega) (fun k hk => (hlt4 k hk).1)
      have HO4 := Lib.hid hown4
      clear hown4 hg4 a4 a3 x3
      go_wp2
      go_roundg (gk - 1)
      case measure => omega
      case rel => exact ⟨j + 1, by go_num, by omega, by omega, hb4, Lib.hid (by rw [hsf.out]; exact HO4.out)⟩
    · have hj : j = n := by omega
      subst hj
      obtain ⟨A7, c7, e7, hI7, hl7, hC7⟩ := chs_of_own (o := l) (by have := hown.out; rw [List.take_of_length_le (by rw [HL.out]; omega)] at this; exact this)
      have HI7 := Lib.hid hI7
      have HC7 := Lib.hid hC7
      subst e7
      clear hI7 hC7 hl7 hown
      go_wp2
      go_ret
      exact ⟨A7, c7, rfl, HI7.out, HC7.out, hb⟩
set_option maxHeartbeats 16000000 in
set_option maxRecDepth 100000 in
theorem rShift15 (n er : Int) (A : Option Addr) (m c : Nat) (o : List Fo) (PA : Option Addr) (pm pc : Nat) (p : List Ch) (w : World) (hA : RowsAt encF 2 w A o) (hl : o.length = m) (hm : m ≤ 1000) (h0 : 0 ≤ n) (h40 : n ≤ 1099511627776) (hok : ∀ a ∈ o, a.f < a.t ∧ 0 ≤ a.f ∧ a.t ≤ n) (hP : ChsAt w PA p) (hp : p.length = pm) (hpm : pm ≤ 1000) (r : Int) (hr : FShIs n p o r) :
    Calls Try.prog 21 #[.agg #[.int .i64 n, .slice A m c, .int .i64 er], .slice PA pm pc] w (FNewRes (n + dlt p) (fshift p o) w r) := by
  have ST := fo_slt
  have HA := Lib.hid hA
  have HL := Lib.hid hl
  have HP := Lib.hid hP
  have HPL := Lib.hid hp
  have HOK := Lib.hid hok
  have HRR := Lib.hid hr
  clear hA hl hP hp hok hr
  have x0 : Below w.heap.size w (w.alloc (.cells #[.int .i64 n, .slice A m c, .int .i64 er] 29)) := (Below.refl _ _).alloc (Nat.le_refl _) _
  have r0 : RawAt 29 (w.alloc (.cells #[.int .i64 n, .slice A m c, .int .i64 er] 29)) w.heap.size #[.int .i64 n, .slice A m c, .int .i64 er] := heap_alloc_new w _
  have x1 : Below (w.alloc (.cells #[.int .i64 n, .slice A m c, .int .i64 er] 29)).heap.size (w.alloc (.cells #[.int .i64 n, .slice A m c, .int .i64 er] 29)) ((w.alloc (.cells #[.int .i64 n, .slice A m c, .int .i64 er] 29)).alloc (.cells #[.int .i64 0, .slice none 0 0, .int .i64 0] 29)) := (Below.refl _ _).alloc (Nat.le_refl _) _
  have r1 : RawAt 29 ((w.alloc (.cells #[.int .i64 n, .slice A m c, .int .i64 er] 29)).alloc (.cells #[.int .i64 0, .slice none 0 0, .int .i64 0] 29)) (w.alloc (.cells #[.int .i64 n, .slice A m c, .int .i64 er] 29)).heap.size #[.int .i64 0, .slice none 0 0, .int .i64 0] := heap_alloc_new (w.alloc (.cells #[.int .i64 n, .slice A m c, .int .i64 er] 29)) _
  rw [show (w.alloc (.cells #[.int .i64 n, .slice A m c, .int .i64 er] 29)).heap.size = w.heap.size + 1 by simp] at r1
  have r0 := RawAt.below r0 x1 r0.lt
  have X1 := Lib.hid (x0.trans (x1.mono x0.size))
  obtain ⟨W1, hW1⟩ : ∃ W1, W1 = ((w.alloc (.cells #[.int .i64 n, .slice A m c, .int .i64 er] 29)).alloc (.cells #[.int .i64 0, .slice none 0 0, .int .i64 0] 29)) := ⟨_, rfl⟩
  rw [← hW1] at r0 r1 X1
  have HZ1 := Lib.hid r1.lt
  have HW1 := Lib.hid hW1
  have R0 := Lib.hid r0
  have R1 := Lib.hid r1
  clear x0 x1 r0 r1 hW1
  by_cases hn : nrm M40 0 0 true p
  · have CN := Lib.hid fun (W : World) (hW : Below w.heap.size w W) => rNormal_any PA pm pc p W true (HP.out.below hW) HPL.out (by omega) ⟨fun _ => hn, fun _ => rfl⟩
    have CM : Hid (∀ (x y : Int) (W : World), Below w.heap.size w W → 0 ≤ x → x ≤ 1099511627776 → Calls Try.prog 48 #[.slice PA pm pc, .int .i64 x, .int .i64 y] W fun e w' => e = .returned (.int .i64 (mp 0 0 p x y)) ∧ Below W.heap.size W w') := Lib.hid fun x y W hW g1 g2 => by
      rw [← mpR_mp (p := 0) (q := 0) hn x y]
      exact rMap_any PA pm pc p x y W (HP.out.below hW) HPL.out (by omega) (nrm_mem hn) g1 g2
    have hgb : ∀ j, -1099511627776000 ≤ dlt (p.take j) ∧ dlt (p.take j) ≤ 1099511627776000 := fun j => by
      have h1 := dlt_bd (K := 1099511627776) (by decide) (l := p.take j) (fun c hc => by
        obtain ⟨⟨a1, a2, a3⟩, a4, a5, a6⟩ := nrm_mem hn c (List.mem_of_mem_take hc)
        unfold M40 at a3 a6
        omega)
      have h2 : (p.take j).length ≤ 1000 := by rw [List.length_take, HPL.out]; omega
      omega
    have HGB := Lib.hid hgb
    have HMB := Lib.hid (nrm_mem hn)
    have HRR := Lib.hid (⟨HRR.out.2.1 hn, fun g => HRR.out.2.2 hn (by omega)⟩ : (n < folast p → r = 1) ∧ (folast p ≤ n → r = fwrong (n + dlt p) (fshift p o)))
    clear hn hgb
    go_enter Try.func21, Try.ntmps21
    go_wp2_with fail
    rw [← HW1.out]
    clear HW1
    with_reducible refine (CN.out _ X1.out).mono ?_
    rintro e2 w2 ⟨rfl, b2⟩
    have r0 := RawAt.below R0.out b2 R0.out.lt
    have c0 := RawAt.cell r0 0
    have c1 := RawAt.cell r0 1
    simp at c0 c1
    have B2 := Lib.hid b2
    clear b2 r0 CN
    go_wp2_with fail
    go_loopg [5, 6, 24] pm (fun g d t i wr => ∃ (j : Nat), i = .int .i64 j ∧ j ≤ pm ∧ pm - j ≤ g ∧ Hid (Below W1.heap.size W1 wr) ∧ Hid (d = .int .i64 (n + dlt (p.take j))) ∧ Hid (t = .int .i64 (folast (p.take j))))
    case atStart => exact ⟨0, rfl, by omega, by omega, B2, Lib.hid (by simp [dlt]), Lib.hid (by simp [folast])⟩
    case round =>
      clear c0 c1 B2
      obtain ⟨j, rfl, h1, h2, hb, hz, ht⟩ := hrel
      have hz := hz.out
      have ht := ht.out
      obtain ⟨zv, hzv⟩ : ∃ zv, zv = n + dlt (p.take j) := ⟨_, rfl⟩
      rw [← hzv] at hz
      obtain ⟨tv, htv⟩ : ∃ tv, tv = folast (p.take j) := ⟨_, rfl⟩
      rw [← htv] at ht
      subst hz
      subst ht
      have hzb := HGB.out j
      have HZ := Lib.hid hzv
      have HT := Lib.hid htv
      clear htv
      by_cases hlt : j < pm
      · have hjl : j < p.length := by rw [HPL.out]; exact hlt
        obtain ⟨bA, off, rfl, hbA, d0, d1, d2, d3⟩ := (HP.out.below (X1.out.trans (hb.out.mono X1.out.size))).at1 hjl
        obtain ⟨⟨m1, m2, m3⟩, m4, m5, m6⟩ := HMB.out _ (cth_mem hjl)
        have hst := dlt_take hjl
        have HNT := Lib.hid (folast_take hjl)
        generalize cth p j = c at *
        unfold M40 at m3 m6
        have HNZ : Hid (zv + (c.nb - c.na) - (c.ob - c.oa) = n + dlt (p.take (j + 1))) := Lib.hid (by omega)
        have zb1 : -1099511627776000 ≤ zv ∧ zv ≤ 1100611139403776 := by omega
        clear hst hzv hzb
        obtain ⟨zb3, zb4⟩ := zb1
        have i1 : (0 : Int) ≤ j := by omega
        have i2 : (j : Int) < pm := by omega
        have x3 : Below wr.heap.size wr (wr.alloc (.cells #[.int .i64 c.oa, .int .i64 c.ob, .int .i64 c.na, .int .i64 c.nb] 97)) := (Below.refl _ _).alloc (Nat.le_refl _) _
        have R3 : RawAt 97 (wr.alloc (.cells #[.int .i64 c.oa, .int .i64 c.ob, .int .i64 c.na, .int .i64 c.nb] 97)) wr.heap.size #[.int .i64 c.oa, .int .i64 c.ob, .int .i64 c.na, .int .i64 c.nb] := heap_alloc_new wr _
        have g0 := RawAt.cell R3 0
        have g1 := RawAt.cell R3 1
        have g2 := RawAt.cell R3 2
        have g3 := RawAt.cell R3 3
        simp at g0 g1 g2 g3
        have HB3 := Lib.hid (hb.out.trans (x3.mono hb.out.size))
        have w1 : IntKind.i64.wrap (c.nb - c.na) = c.nb - c.na := IntWalk.i64_in _ (by omega)
        have w2 : IntKind.i64.wrap (c.ob - c.oa) = c.ob - c.oa := IntWalk.i64_in _ (by omega)
        have w3 : IntKind.i64.wrap (zv + (c.nb - c.na)) = zv + (c.nb - c.na) := IntWalk.i64_in _ (by omega)
        have w4 : IntKind.i64.wrap (zv + (c.nb - c.na) - (c.ob - c.oa)) = zv + (c.nb - c.na) - (c.ob - c.oa) := IntWalk.i64_in _ (by omega)
        clear x3 R3 hb
        go_wp2
        go_roundg (gk - 1)
        case measure => omega
        case rel => exact ⟨j + 1, by go_num, by omega, by omega, HB3, Lib.hid (by rw [← HNZ.out]), Lib.hid (by rw [HNT.out])⟩
      · obtain rfl : j = pm := by omega
        have e2 : p.take j = p := List.take_of_length_le (by rw [HPL.out]; exact Nat.le_refl _)
        have hz2 := HZ.out
        have ht2 := HT.out
        rw [e2] at ht2 hzv hzb
        have hR0 := HRR.out
        rw [← hzv, ← ht2] at hR0
        have hR := Lib.hid hR0
        clear hR0
        have HE : Hid (n + dlt p = zv) := Lib.hid hzv.symm
        have HB := Lib.hid hb.out
        have HZZ := Lib.hid (X1.out.trans (HB.out.mono X1.out.size))
        have r0 := RawAt.below R0.out HB.out R0.out.lt
        have c0 := RawAt.cell r0 0
        have c1 := RawAt.cell r0 1
        simp at c0 c1
        have hS1 := RawAt.below R1.out HB.out R1.out.lt
        have q0 := RawAt.cell hS1 0
        have q1 := RawAt.cell hS1 1
        have q2 := RawAt.cell hS1 2
        have f0 := RawAt.free hS1 0
        have f1 := RawAt.free hS1 1
        have f2 := RawAt.free hS1 2
        simp at q0 q1 q2
        have HR1 := Lib.hid hS1
        clear e2 hz2 ht2 hzv hzb hb HRR HZ HT HGB HMB hS1 r0
        by_cases g1 : n < tv
        · have k1 : decide (n < tv) = true := decide_eq_true g1
          have e : r = 1 := hR.out.1 g1
          subst e
          go_wp2
          have t0 := ((HR1.out.set_ 0 (.int .i64 0)).set_ 1 (.slice none 0 0)).set_ 2 (.int .i64 1)
          have z0 := RawAt.cell t0 0
          have z1 := RawAt.cell t0 1
          have z2 := RawAt.cell t0 2
          simp at z0 z1 z2
          refine bodyPost_ret (v := .agg #[.int .i64 0, .slice none 0 0, .int .i64 1]) (by simp [results, Try.results21, go_sem, z0, z1, z2]) rfl ⟨0, none, 0, 0, rfl, fun h => absurd h (by decide), ?_⟩
          exact (((HZZ.out.setCell (p := ⟨w.heap.size + 1, 0, none⟩) (Nat.le_succ _) _).setCell (p := ⟨w.heap.size + 1, 1, none⟩) (Nat.le_succ _) _).setCell (p := ⟨w.heap.size + 1, 2, none⟩) (Nat.le_succ _) _)
        · have k1 : decide (n < tv) = false := decide_eq_false g1
          by_cases g2 : 1099511627776 < zv
          · have k2 : decide (1099511627776 < zv) = true := decide_eq_true g2
            have e : r = 1 := by rw [hR.out.2 (by omega)]; unfold fwrong; rw [if_pos (.inr g2)]
            subst e
            go_wp2
            have t0 := ((HR1.out.set_ 0 (.int .i64 0)).set_ 1 (.slice none 0 0)).set_ 2 (.int .i64 1)
            have z0 := RawAt.cell t0 0
            have z1 := RawAt.cell t0 1
            have z2 := RawAt.cell t0 2
            simp at z0 z1 z2
            refine bodyPost_ret (v := .agg #[.int .i64 0, .slice none 0 0, .int .i64 1]) (by simp [results, Try.results21, go_sem, z0, z1, z2]) rfl ⟨0, none, 0, 0, rfl, fun h => absurd h (by decide), ?_⟩
            exact (((HZZ.out.setCell (p := ⟨w.heap.size + 1, 0, none⟩) (Nat.le_succ _) _).setCell (p := ⟨w.heap.size + 1, 1, none⟩) (Nat.le_succ _) _).setCell (p := ⟨w.heap.size + 1, 2, none⟩) (Nat.le_succ _) _)
          · have k2 : decide (1099511627776 < zv) = false := decide_eq_false g2
            have HE2 : Hid (fwrong zv (fshift p o) = r) := Lib.hid (hR.out.2 (by omega)).symm
            have CNW := Lib.hid fun (A' : Option Addr) (m' c' : Nat) (W : World) (h1 : RowsAt encF 2 W A' (fshift p o)) (h2 : Caps A' m' c') (h3 : (fshift p o).length = m') => rNew15 zv A' m' c' (fshift p o) W h1 h2 h3 r HE2.out
            clear hR HE2 q0 q1 q2 f0 f1 f2 HR1
            go_wp2_with fail
            go_loopg [9, 61] m (fun g v i wr => ∃ (k : Nat), i = .int .i64 k ∧ k ≤ m ∧ m - k ≤ g ∧ Hid (Below W1.heap.size W1 wr) ∧ Hid (wr.ownsRow W1.heap.size 33 2 v (fshift p (o.take k)).length (kfl encF (fshift p (o.take k)))))
            case atStart => exact ⟨0, rfl, by omega, by omega, HB, Lib.hid (World.ownsRow_nil _ _ _ _)⟩
            case round =>
              clear c0 c1 HB HZZ
              obtain ⟨k, rfl, h3, h4, hb, hown⟩ := hrel
              by_cases hlt : k < m
              · have hkl : k < o.length := by rw [HL.out]; exact hlt
                obtain ⟨bA, off, rfl, hbA, hce⟩ := (HA.out.below (X1.out.trans (hb.out.mono X1.out.size))).at1 hkl
                have f0 := hce 0 (by omega)
                have f1 := hce 1 (by omega)
                rw [Nat.add_zero] at f0
                have htk := fshift_take (p := p) hkl
                obtain ⟨k1, k2, k3⟩ := HOK.out _ (List.getElem_mem hkl)
                have HTK := Lib.hid htk
                clear htk hce
                generalize o[k] = a at *
                simp [encF] at f0 f1
                have i1 : (0 : Int) ≤ k := by omega
                have i2 : (k : Int) < m := by omega
                obtain ⟨out, hout⟩ : ∃ out, out = fshift p (o.take k) := ⟨_, rfl⟩
                obtain ⟨yf, hyf⟩ : ∃ yf, yf = mp 0 0 p a.f 1 := ⟨_, rfl⟩
                obtain ⟨yt, hyt⟩ : ∃ yt, yt = mp 0 0 p a.t 0 := ⟨_, rfl⟩
                have HTK2 : Hid (fshift p (o.take (k + 1)) = if yf < yt ∧ (Fo.mk yf yt) ∉ out then out ++ [Fo.mk yf yt] else out) := Lib.hid (by rw [HTK.out, hout, hyf, hyt]; rfl)
                have hll := fshift_len p _ (o.take k) rfl
                rw [List.length_take, ← hout] at hll
                rw [← hout] at hown
                have CF : Hid (∀ W : World, Below w.heap.size w W → Calls Try.prog 48 #[.slice PA j pc, .int .i64 a.f, .int .i64 1] W fun e w' => e = .returned (.int .i64 yf) ∧ Below W.heap.size W w') := Lib.hid fun W hW => by rw [hyf]; exact CM.out a.f 1 W hW (by omega) (by omega)
                have CT : Hid (∀ W : World, Below w.heap.size w W → Calls Try.prog 48 #[.slice PA j pc, .int .i64 a.t, .int .i64 0] W fun e w' => e = .returned (.int .i64 yt) ∧ Below W.heap.size W w') := Lib.hid fun W hW => by rw [hyt]; exact CM.out a.t 0 W hW (by omega) (by omega)
                obtain ⟨A3, c3, rfl⟩ := own_formF hown.out
                obtain ⟨q, hq⟩ : ∃ q, q = out.length := ⟨_, rfl⟩
                have hown := hown.out
                rw [← hq] at hown hll ⊢
                have HQ := Lib.hid hq
                have hown := Lib.hid hown
                obtain ⟨gO, hgO⟩ : ∃ g, g = gk := ⟨_, rfl⟩
                subst hgO
                clear hq
                have x3 : Below wr.heap.size wr (wr.alloc (.cells #[.int .i64 a.f, .int .i64 a.t] 33)) := (Below.refl _ _).alloc (Nat.le_refl _) _
                have R3 : RawAt 33 (wr.alloc (.cells #[.int .i64 a.f, .int .i64 a.t] 33)) wr.heap.size #[.int .i64 a.f, .int .i64 a.t] := heap_alloc_new wr _
                have HB3 := Lib.hid (hb.out.trans (x3.mono hb.out.size))
                have HO3 := Lib.hid (own_below hown.out x3)
                obtain ⟨W3, hW3⟩ : ∃ W3, W3 = (wr.alloc (.cells #[.int .i64 a.f, .int .i64 a.t] 33)) := ⟨_, rfl⟩
                obtain ⟨xb, hxb⟩ : ∃ xb, xb = wr.heap.size := ⟨_, rfl⟩
                rw [← hW3] at R3 HB3 HO3
                rw [← hxb] at R3
                have HR3 := Lib.hid R3
                have HW3 := Lib.hid hW3
                have HXB := Lib.hid hxb
                have HWX := Lib.hid (X1.out.trans (HB3.out.mono X1.out.size))
                have MK : Hid (∀ W : World, Below W3.heap.size W3 W → (fun W => W.cell? ⟨xb, 0, none⟩ = some (.int .i64 a.f) ∧ W.cell? ⟨xb, 1, none⟩ = some (.int .i64 a.t)) W) := Lib.hid fun W hW => ⟨RawAt.cell (RawAt.below HR3.out hW HR3.out.lt) 0, RawAt.cell (RawAt.below HR3.out hW HR3.out.lt) 1⟩
                have hW2 : Below W3.heap.size W3 W3.drew := (Below.refl _ _).drew
                clear x3 R3 hW3 hxb hown hb HTK hout hyf hyt
                go_wp2_with fail
                rw [← HW3.out, ← HXB.out]
                refine wp_region_noPanic ?_
                refine wp_region_held_drew (S := (fun W => W.cell? ⟨xb, 0, none⟩ = some (.int .i64 a.f) ∧ W.cell? ⟨xb, 1, none⟩ = some (.int .i64 a.t))) (by kernel_rfl) (MK.out _ hW2) (fun hHeld => ?_)
                refine wpAnyH_take (i := 0) (v := ?_) rfl (by kernel_rfl) (by kernel_rfl) (by kernel_rfl) (fun _ _ _ h => h) (Or.inl ⟨by rfl, ?_⟩) hHeld ?_
                rotate_left
                · intro w hSw
                  (try dsimp only at hSw)
                  go_simp
                  try with_reducible rfl
                go_simp
                refine wpAnyH_take (i := 1) (v := ?_) rfl (by kernel_rfl) (by kernel_rfl) (by kernel_rfl) (fun _ _ _ h => h) (Or.inl ⟨by rfl, ?_⟩) hHeld ?_
                rotate_left
                · intro w hSw
                  (try dsimp only at hSw)
                  go_simp
                  try with_reducible rfl
                go_simp
                refine wpAnyH_take (i := 2) (v := ?_) rfl (by kernel_rfl) (by kernel_rfl) (by kernel_rfl) (fun _ _ _ h => h) (Or.inl ⟨by rfl, ?_⟩) hHeld ?_
                rotate_left
                · intro w hSw
                  (try dsimp only at hSw)
                  go_simp
                  try with_reducible rfl
                go_simp
                refine wpAnyH_take (i := 4) (v := ?_) rfl (by kernel_rfl) (by kernel_rfl) (by kernel_rfl) (fun _ _ _ h => h) (Or.inl ⟨by rfl, ?_⟩) hHeld ?_
                rotate_left
                · intro w hSw
                  (try dsimp only at hSw)
                  go_simp
                  try with_reducible rfl
                go_simp
                refine wpAnyH_take (i := 5) (v := ?_) rfl (by kernel_rfl) (by kernel_rfl) (by kernel_rfl) (fun _ _ _ h => h) (Or.inl ⟨by rfl, ?_⟩) hHeld ?_
                rotate_left
                · intro w hSw
                  (try dsimp only at hSw)
                  go_simp
                  try with_reducible rfl
                go_simp
                refine wpAnyH_take (i := 6) (v := ?_) rfl (by kernel_rfl) (by kernel_rfl) (by kernel_rfl) (fun _ _ _ h => h) (Or.inl ⟨by rfl, ?_⟩) hHeld ?_
                rotate_left
                · intro w hSw
                  (try dsimp only at hSw)
                  go_simp
                  try with_reducible rfl
                go_simp
                refine wpAnyH_ready (rs := [3, 9]) (by kernel_rfl) (by simp) ?_
                refine AllReadyH.cons rfl (fun K hK => ?_) (AllReadyH.cons rfl (fun K hK => ?_) AllReadyH.nil)
                · go_simp
                  have hWL := HWX.out.trans (hW2.mono HWX.out.size)
                  go_wp2_with (go_at_call 48; (with_reducible refine (CF.out _ ?_).mono ?_); (· exact hWL); rintro e w3 ⟨rfl, b3⟩; have hW2 := hW2.trans (b3.mono hW2.size))
                  clear hWL
                  refine hK.out _ _ (MK.out _ hW2) (fun hHeld => ?_)
                  clear hK K
                  go_simp
                  refine wpAnyH_ready (rs := [7, 9]) (by kernel_rfl) (by simp) ?_
                  refine AllReadyH.cons rfl (fun K hK => ?_) (AllReadyH.cons rfl (fun K hK => ?_) AllReadyH.nil)
                  · go_simp
                    have hWL := HWX.out.trans (hW2.mono HWX.out.size)
                    go_wp2_with (go_at_call 48; (with_reducible refine (CT.out _ ?_).mono ?_); (· exact hWL); rintro e w7 ⟨rfl, b7⟩; have hW2 := hW2.trans (b7.mono hW2.size))
                    clear hWL
                    refine hK.out _ _ (MK.out _ hW2) (fun hHeld => ?_)
                    clear hK K
                    go_simp
                    refine wpAnyH_take (i := 8) (v := ?_) rfl (by kernel_rfl) (by kernel_rfl) (by kernel_rfl) (fun _ _ _ h => h) (Or.inl ⟨by rfl, ?_⟩) hHeld ?_
                    rotate_left
                    · intro w hSw
                      (try dsimp only at hSw)
                      go_simp
                      try with_reducible rfl
                    go_simp
                    refine wpAnyH_ready (rs := [9]) (by kernel_rfl) (by simp) ?_
                    refine AllReadyH.cons rfl (fun K hK => ?_) AllReadyH.nil
                    · go_simp
                      have x9 : Below w7.heap.size w7 (w7.alloc (.cells #[.int .i64 0, .int .i64 0] 33)) := (Below.refl _ _).alloc (Nat.le_refl _) _
                      have R9 : RawAt 33 (w7.alloc (.cells #[.int .i64 0, .int .i64 0] 33)) w7.heap.size #[.int .i64 0, .int .i64 0] := heap_alloc_new w7 _
                      have hle9 := hW2.size
                      have hW2 := hW2.trans (x9.mono hW2.size)
                      clear x9
                      go_wp2_with fail
                      refine hK.out _ _ (MK.out _ hW2) (fun hHeld => ?_)
                      clear hK K
                      go_simp
                      refine wpAnyH_ready (rs := [10]) (by kernel_rfl) (by simp) ?_
                      refine AllReadyH.cons rfl (fun K hK => ?_) AllReadyH.nil
                      have RY : RawAt 33 (w7.alloc (.cells #[.int .i64 yf, .int .i64 yt] 33)) w7.heap.size #[.int .i64 yf, .int .i64 yt] := heap_alloc_new w7 _
                      have x10 : Below w7.heap.size w7 (w7.alloc (.cells #[.int .i64 yf, .int .i64 yt] 33)) := (Below.refl _ _).alloc (Nat.le_refl _) _
                      have hW2 : Below W3.heap.size W3 (w7.alloc (.cells #[.int .i64 yf, .int .i64 yt] 33)) := Below.trans (by assumption) (x10.mono hle9)
                      clear x10 R9
                      go_simp
                      go_wp2_with fail
                      refine hK.out _ _ (MK.out _ hW2) (fun hHeld => ?_)
                      clear hK K
                      go_simp
                      refine wpAnyH_done (by kernel_rfl) ?_ _
                      refine NoPanic.normal ?_
                      have HO7 := own_below HO3.out hW2
                      have HB7 := HB3.out.trans (hW2.mono HB3.out.size)
                      obtain ⟨W7, hW7⟩ : ∃ W7, W7 = (w7.alloc (.cells #[.int .i64 yf, .int .i64 yt] 33)) := ⟨_, rfl⟩
                      obtain ⟨yb, hyb⟩ : ∃ yb, yb = w7.heap.size := ⟨_, rfl⟩
                      have hyb3 : W1.heap.size ≤ w7.heap.size := Nat.le_trans HB3.out.size hle9
                      rw [← hW7] at RY HO7 HB7
                      rw [← hyb] at RY hyb3
                      have HY7 := Lib.hid hyb3
                      have HRY := Lib.hid RY
                      have HW7 := Lib.hid hW7
                      have HYB := Lib.hid hyb
                      have HO7 := Lib.hid HO7
                      have HB7 := Lib.hid HB7
                      clear hW2 hHeld MK RY hW7 hyb hyb3 HW3 HXB
                      rw [← HW7.out, ← HYB.out]
                      clear HW7 HYB
                      have z0 := RawAt.cell HRY.out 0
                      have z1 := RawAt.cell HRY.out 1
                      simp at z0 z1
                      go_wp2_with fail
                      clear z0 z1
                      have hown7 := HO7.out
                      obtain ⟨A4, c4, e4, hR4, _, _⟩ := rows_of_own (o := out) encF_len (by omega) hown7
                      injection e4 with e5 _ e6
                      subst e5
                      subst e6
                      have HRo := Lib.hid hR4
                      have hlt4 := hown7.lt
                      clear hown7 hR4
                      go_loopg [13, 81] q (fun g th i wr => ∃ (s : Nat), i = .int .i64 s ∧ s ≤ q ∧ q - s ≤ g ∧ Hid (Below W7.heap.size W7 wr) ∧ Hid (th = .bool (decide (yt ≤ yf ∨ (Fo.mk yf yt) ∈ out.take s))))
                      case atStart => exact ⟨0, rfl, by omega, by omega, Lib.hid (Below.refl _ _), Lib.hid (by simp)⟩
                      case round =>
                        obtain ⟨s, rfl, s1, s2, hbw, hth⟩ := hrel
                        obtain ⟨bv, hbv⟩ : ∃ bv, bv = decide (yt ≤ yf ∨ (Fo.mk yf yt) ∈ out.take s) := ⟨_, rfl⟩
                        have hth := hth.out
                        rw [← hbv] at hth
                        subst hth
                        have HBV := Lib.hid hbv
                        clear hbv
                        have HRX := Lib.hid (HRY.out.below hbw.out HRY.out.lt)
                        by_cases hlt2 : s < q
                        · have hjl : s < out.length := by rw [← HQ.out]; exact hlt2
                          obtain ⟨bO, off2, rfl, hbO, hce⟩ := (HRo.out.below hbw.out).at1 hjl
                          have e0 := hce 0 (by omega)
                          have e1 := hce 1 (by omega)
                          rw [Nat.add_zero] at e0
                          have HTJ := Lib.hid (show out.take (s + 1) = out.take s ++ [out[s]] from List.take_succ_eq_append_getElem hjl)
                          clear hce
                          generalize out[s] = b at *
                          obtain ⟨bf, bt⟩ := b
                          simp [encF] at e0 e1
                          have q1 : (0 : Int) ≤ s := by omega
                          have q2 : (s : Int) < q := by omega
                          have x6 : Below wr.heap.size wr (wr.alloc (.cells #[.int .i64 bf, .int .i64 bt] 33)) := (Below.refl _ _).alloc (Nat.le_refl _) _
                          have R6 : RawAt 33 (wr.alloc (.cells #[.int .i64 bf, .int .i64 bt] 33)) wr.heap.size #[.int .i64 bf, .int .i64 bt] := heap_alloc_new wr _
                          have HB6 := Lib.hid (hbw.out.trans (x6.mono hbw.out.size))
                          have RA6 := RawAt.below HRX.out x6 HRX.out.lt
                          have y0 := RawAt.cell R6 0
                          have y1 := RawAt.cell R6 1
                          have c0 := RawAt.cell RA6 0
                          have c1 := RawAt.cell RA6 1
                          simp at y0 y1 c0 c1
                          clear x6 R6 RA6 hbw
                          by_cases bvt : bv = true
                          · subst bvt
                            have HN : Hid ((Value.bool true) = .bool (decide (yt ≤ yf ∨ (Fo.mk yf yt) ∈ out.take (s + 1)))) := Lib.hid (by rw [HTJ.out, decide_eq_true ((of_decide_eq_true HBV.out.symm).imp id (fun h => List.mem_append_left _ h))])
                            clear HBV HTJ
                            go_wp2
                            go_roundg (gk - 1)
                            case measure => omega
                            case rel => exact ⟨s + 1, by go_num, by omega, by omega, HB6, HN⟩
                          · have bvf : bv = false := by simpa using bvt
                            subst bvf
                            have HNO := Lib.hid (of_decide_eq_false HBV.out.symm)
                            clear HBV bvt
                            by_cases g7 : yf = bf
                            · by_cases g8 : yt = bt
                              · have HN : Hid ((Value.bool true) = .bool (decide (yt ≤ yf ∨ (Fo.mk yf yt) ∈ out.take (s + 1)))) := Lib.hid (by rw [HTJ.out, g7, g8, decide_eq_true (.inr (List.mem_append_right _ (List.mem_singleton.2 rfl)))])
                                have k8' : (yf == bf) = true := by simp [g7]
                                have k9' : (yt == bt) = true := by simp [g8]
                                have k8 : decide (yf = bf) = true := decide_eq_true g7
                                have k9 : decide (yt = bt) = true := decide_eq_true g8
                                clear HTJ HNO g7 g8
                                go_wp2
                                go_roundg (gk - 1)
                                case measure => omega
                                case rel => exact ⟨s + 1, by go_num, by omega, by omega, HB6, HN⟩
                              · have HN : Hid ((Value.bool false) = .bool (decide (yt ≤ yf ∨ (Fo.mk yf yt) ∈ out.take (s + 1)))) := Lib.hid (by rw [HTJ.out, decide_eq_false]; intro hh; exact HNO.out (hh.imp id fun h => (List.mem_append.1 h).resolve_right fun h => g8 (by have := List.mem_singleton.1 h; injection this)))
                                have k8' : (yf == bf) = true := by simp [g7]
                                have k9' : (yt == bt) = false := by simp [g8]
                                have k8 : decide (yf = bf) = true := decide_eq_true g7
                                have k9 : decide (yt = bt) = false := decide_eq_false g8
                                clear HTJ HNO g7 g8
                                go_wp2
                                go_roundg (gk - 1)
                                case measure => omega
                                case rel => exact ⟨s + 1, by go_num, by omega, by omega, HB6, HN⟩
                            · have HN : Hid ((Value.bool false) = .bool (decide (yt ≤ yf ∨ (Fo.mk yf yt) ∈ out.take (s + 1)))) := Lib.hid (by rw [HTJ.out, decide_eq_false]; intro hh; exact HNO.out (hh.imp id fun h => (List.mem_append.1 h).resolve_right fun h => g7 (by have := List.mem_singleton.1 h; injection this)))
                              have k8' : (yf == bf) = false := by simp [g7]
                              have k8 : decide (yf = bf) = false := decide_eq_false g7
                              clear HTJ HNO g7
                              go_wp2
                              go_roundg (gk - 1)
                              case measure => omega
                              case rel => exact ⟨s + 1, by go_num, by omega, by omega, HB6, HN⟩
                        · obtain rfl : q = s := by omega
                          have et : out.take q = out := List.take_of_length_le (by rw [HQ.out]; exact Nat.le_refl _)
                          have hbv2 := HBV.out
                          rw [et] at hbv2
                          have HO8 := own_below HO7.out hbw.out
                          have HB8 := HB7.out.trans (hbw.out.mono HB7.out.size)
                          by_cases bvt : bv = true
                          · subst bvt
                            have hy := of_decide_eq_true hbv2.symm
                            have HN := Lib.hid (HTK2.out.trans (by rw [if_neg (by rintro ⟨h1, h2⟩; rcases hy with h | h; omega; exact h2 h)]))
                            have HO9 : Hid (wr.ownsRow W1.heap.size 33 2 (.slice A3 q c3) (fshift p (o.take (k + 1))).length (kfl encF (fshift p (o.take (k + 1))))) := Lib.hid (by rw [HN.out, ← HQ.out]; exact HO8)
                            have HB9 := Lib.hid HB8
                            clear HBV hbv2 et hy HN HO8 HB8 hbw
                            go_wp2
                            go_roundg (gO - 1)
                            case measure => omega
                            case rel => exact ⟨k + 1, by go_num, by omega, by omega, HB9, HO9⟩
                          · have bvf : bv = false := by simpa using bvt
                            subst bvf
                            have hy := of_decide_eq_false hbv2.symm
                            have HN := Lib.hid (HTK2.out.trans (by rw [if_pos ⟨by omega, fun h => hy (.inr h)⟩]))
                            have c0 := RawAt.cell HRX.out 0
                            have c1 := RawAt.cell HRX.out 1
                            simp at c0 c1
                            have x4 : Below wr.heap.size wr (wr.alloc (.cells #[.int .i64 yf, .int .i64 yt] 33)) := (Below.refl _ _).alloc (Nat.le_refl _) _
                            have R4 : RawAt 33 (wr.alloc (.cells #[.int .i64 yf, .int .i64 yt] 33)) wr.heap.size #[.int .i64 yf, .int .i64 yt] := heap_alloc_new wr _
                            have HO4 := Lib.hid (own_below HO8 x4)
                            have HS4 : Hid (RowsAt encF 2 (wr.alloc (.cells #[.int .i64 yf, .int .i64 yt] 33)) (some ⟨wr.heap.size, 0, none⟩) [Fo.mk yf yt]) := Lib.hid (rows_of_block (enc := encF) (k := 2) encF_len R4 (l := [Fo.mk yf yt]) rfl)
                            have HB4 := Lib.hid (HB8.trans (x4.mono HB8.size))
                            clear x4 R4 HBV hbv2 et hy HO8 HB8 hbw bvt
                            go_wp2_with ((at_builtin; refine wpList_appK (enc := encF) ST encF_len (by omega) rfl (.tmp 94) (.tmp 96) rfl (base := W1.heap.size) (v := .slice A3 q c3) rfl HO4.out _ 1 1 [Fo.mk yf yt] rfl HS4.out ⟨Nat.le_refl _, fun h => by cases h⟩ rfl (kfl_one' encF_one _) (by simp only [maxLen]; omega) (by omega) HB4.out.size ?_; intro v5 w8 hown5 hg5 hor5; have HB9 := Lib.hid (HB4.out.grown hg5 HB4.out.size (fun j hj => (hlt4 j hj).1)); have HO9 : Hid (w8.ownsRow W1.heap.size 33 2 v5 (fshift p (o.take (k + 1))).length (kfl encF (fshift p (o.take (k + 1))))) := Lib.hid (by rw [HN.out, kfl_append, List.length_append, ← HQ.out]; exact hown5); clear hown5 hg5 hor5 HO4 HS4 HB4))
                            go_roundg (gO - 1)
                            case measure => omega
                            case rel => exact ⟨k + 1, by go_num, by omega, by omega, HB9, HO9⟩
                  · go_simp
                    have x9 : Below w3.heap.size w3 (w3.alloc (.cells #[.int .i64 0, .int .i64 0] 33)) := (Below.refl _ _).alloc (Nat.le_refl _) _
                    have R9 : RawAt 33 (w3.alloc (.cells #[.int .i64 0, .int .i64 0] 33)) w3.heap.size #[.int .i64 0, .int .i64 0] := heap_alloc_new w3 _
                    have hle9 := hW2.size
                    have hW2 := hW2.trans (x9.mono hW2.size)
                    clear x9
                    go_wp2_with fail
                    refine hK.out _ _ (MK.out _ hW2) (fun hHeld => ?_)
                    clear hK K
                    go_simp
                    refine wpAnyH_ready (rs := [7]) (by kernel_rfl) (by simp) ?_
                    refine AllReadyH.cons rfl (fun K hK => ?_) AllReadyH.nil
                    · go_simp
                      have hWL := HWX.out.trans (hW2.mono HWX.out.size)
                      go_wp2_with (go_at_call 48; (with_reducible refine (CT.out _ ?_).mono ?_); (· exact hWL); rintro e w7 ⟨rfl, b7⟩; have hW2 := hW2.trans (b7.mono hW2.size); have R9 := RawAt.below R9 b7 R9.lt)
                      clear hWL
                      refine hK.out _ _ (MK.out _ hW2) (fun hHeld => ?_)
                      clear hK K
                      go_simp
                      refine wpAnyH_take (i := 8) (v := ?_) rfl (by kernel_rfl) (by kernel_rfl) (by kernel_rfl) (fun _ _ _ h => h) (Or.inl ⟨by rfl, ?_⟩) hHeld ?_
                      rotate_left
                      · intro w hSw
                        (try dsimp only at hSw)
                        go_simp
                        try with_reducible rfl
                      go_simp
                      refine wpAnyH_ready (rs := [10]) (by kernel_rfl) (by simp) ?_
                      refine AllReadyH.cons rfl (fun K hK => ?_) AllReadyH.nil
                      have f0 := RawAt.free R9 0
                      have f1 := RawAt.free R9 1
                      have z0 := RawAt.cell R9 0
                      have z1 := RawAt.cell R9 1
                      simp at z0 z1
                      have hlt9 := R9.lt
                      have RY : RawAt 33 ((w7.setCell ⟨w3.heap.size, 0, none⟩ (.int .i64 yf)).setCell ⟨w3.heap.size, 1, none⟩ (.int .i64 yt)) w3.heap.size #[.int .i64 yf, .int .i64 yt] := RawAt.of_eq ((R9.set_ 0 (.int .i64 yf)).set_ 1 (.int .i64 yt)) rfl
                      go_simp
                      go_wp2_with fail
                      have hW2 := (hW2.setCell (p := ⟨w3.heap.size, 0, none⟩) hle9 (.int .i64 yf)).setCell (p := ⟨w3.heap.size, 1, none⟩) hle9 (.int .i64 yt)
                      clear f0 f1 z0 z1 R9 hlt9
                      refine hK.out _ _ (MK.out _ hW2) (fun hHeld => ?_)
                      clear hK K
                      go_simp
                      refine wpAnyH_done (by kernel_rfl) ?_ _
                      refine NoPanic.normal ?_
                      have HO7 := own_below HO3.out hW2
                      have HB7 := HB3.out.trans (hW2.mono HB3.out.size)
                      obtain ⟨W7, hW7⟩ : ∃ W7, W7 = ((w7.setCell ⟨w3.heap.size, 0, none⟩ (.int .i64 yf)).setCell ⟨w3.heap.size, 1, none⟩ (.int .i64 yt)) := ⟨_, rfl⟩
                      obtain ⟨yb, hyb⟩ : ∃ yb, yb = w3.heap.size := ⟨_, rfl⟩
                      have hyb3 : W1.heap.size ≤ w3.heap.size := Nat.le_trans HB3.out.size hle9
                      rw [← hW7] at RY HO7 HB7
                      rw [← hyb] at RY hyb3
                      have HY7 := Lib.hid hyb3
                      have HRY := Lib.hid RY
                      have HW7 := Lib.hid hW7
                      have HYB := Lib.hid hyb
                      have HO7 := Lib.hid HO7
                      have HB7 := Lib.hid HB7
                      clear hW2 hHeld MK RY hW7 hyb hyb3 HW3 HXB
                      rw [← HW7.out, ← HYB.out]
                      clear HW7 HYB
                      have z0 := RawAt.cell HRY.out 0
                      have z1 := RawAt.cell HRY.out 1
                      simp at z0 z1
                      go_wp2_with fail
                      clear z0 z1
                      have hown7 := HO7.out
                      obtain ⟨A4, c4, e4, hR4, _, _⟩ := rows_of_own (o := out) encF_len (by omega) hown7
                      injection e4 with e5 _ e6
                      subst e5
                      subst e6
                      have HRo := Lib.hid hR4
                      have hlt4 := hown7.lt
                      clear hown7 hR4
                      go_loopg [13, 81] q (fun g th i wr => ∃ (s : Nat), i = .int .i64 s ∧ s ≤ q ∧ q - s ≤ g ∧ Hid (Below W7.heap.size W7 wr) ∧ Hid (th = .bool (decide (yt ≤ yf ∨ (Fo.mk yf yt) ∈ out.take s))))
                      case atStart => exact ⟨0, rfl, by omega, by omega, Lib.hid (Below.refl _ _), Lib.hid (by simp)⟩
                      case round =>
                        obtain ⟨s, rfl, s1, s2, hbw, hth⟩ := hrel
                        obtain ⟨bv, hbv⟩ : ∃ bv, bv = decide (yt ≤ yf ∨ (Fo.mk yf yt) ∈ out.take s) := ⟨_, rfl⟩
                        have hth := hth.out
                        rw [← hbv] at hth
                        subst hth
                        have HBV := Lib.hid hbv
                        clear hbv
                        have HRX := Lib.hid (HRY.out.below hbw.out HRY.out.lt)
                        by_cases hlt2 : s < q
                        · have hjl : s < out.length := by rw [← HQ.out]; exact hlt2
                          obtain ⟨bO, off2, rfl, hbO, hce⟩ := (HRo.out.below hbw.out).at1 hjl
                          have e0 := hce 0 (by omega)
                          have e1 := hce 1 (by omega)
                          rw [Nat.add_zero] at e0
                          have HTJ := Lib.hid (show out.take (s + 1) = out.take s ++ [out[s]] from List.take_succ_eq_append_getElem hjl)
                          clear hce
                          generalize out[s] = b at *
                          obtain ⟨bf, bt⟩ := b
                          simp [encF] at e0 e1
                          have q1 : (0 : Int) ≤ s := by omega
                          have q2 : (s : Int) < q := by omega
                          have x6 : Below wr.heap.size wr (wr.alloc (.cells #[.int .i64 bf, .int .i64 bt] 33)) := (Below.refl _ _).alloc (Nat.le_refl _) _
                          have R6 : RawAt 33 (wr.alloc (.cells #[.int .i64 bf, .int .i64 bt] 33)) wr.heap.size #[.int .i64 bf, .int .i64 bt] := heap_alloc_new wr _
                          have HB6 := Lib.hid (hbw.out.trans (x6.mono hbw.out.size))
                          have RA6 := RawAt.below HRX.out x6 HRX.out.lt
                          have y0 := RawAt.cell R6 0
                          have y1 := RawAt.cell R6 1
                          have c0 := RawAt.cell RA6 0
                          have c1 := RawAt.cell RA6 1
                          simp at y0 y1 c0 c1
                          clear x6 R6 RA6 hbw
                          by_cases bvt : bv = true
                          · subst bvt
                            have HN : Hid ((Value.bool true) = .bool (decide (yt ≤ yf ∨ (Fo.mk yf yt) ∈ out.take (s + 1)))) := Lib.hid (by rw [HTJ.out, decide_eq_true ((of_decide_eq_true HBV.out.symm).imp id (fun h => List.mem_append_left _ h))])
                            clear HBV HTJ
                            go_wp2
                            go_roundg (gk - 1)
                            case measure => omega
                            case rel => exact ⟨s + 1, by go_num, by omega, by omega, HB6, HN⟩
                          · have bvf : bv = false := by simpa using bvt
                            subst bvf
                            have HNO := Lib.hid (of_decide_eq_false HBV.out.symm)
                            clear HBV bvt
                            by_cases g7 : yf = bf
                            · by_cases g8 : yt = bt
                              · have HN : Hid ((Value.bool true) = .bool (decide (yt ≤ yf ∨ (Fo.mk yf yt) ∈ out.take (s + 1)))) := Lib.hid (by rw [HTJ.out, g7, g8, decide_eq_true (.inr (List.mem_append_right _ (List.mem_singleton.2 rfl)))])
                                have k8' : (yf == bf) = true := by simp [g7]
                                have k9' : (yt == bt) = true := by simp [g8]
                                have k8 : decide (yf = bf) = true := decide_eq_true g7
                                have k9 : decide (yt = bt) = true := decide_eq_true g8
                                clear HTJ HNO g7 g8
                                go_wp2
                                go_roundg (gk - 1)
                                case measure => omega
                                case rel => exact ⟨s + 1, by go_num, by omega, by omega, HB6, HN⟩
                              · have HN : Hid ((Value.bool false) = .bool (decide (yt ≤ yf ∨ (Fo.mk yf yt) ∈ out.take (s + 1)))) := Lib.hid (by rw [HTJ.out, decide_eq_false]; intro hh; exact HNO.out (hh.imp id fun h => (List.mem_append.1 h).resolve_right fun h => g8 (by have := List.mem_singleton.1 h; injection this)))
                                have k8' : (yf == bf) = true := by simp [g7]
                                have k9' : (yt == bt) = false := by simp [g8]
                                have k8 : decide (yf = bf) = true := decide_eq_true g7
                                have k9 : decide (yt = bt) = false := decide_eq_false g8
                                clear HTJ HNO g7 g8
                                go_wp2
                                go_roundg (gk - 1)
                                case measure => omega
                                case rel => exact ⟨s + 1, by go_num, by omega, by omega, HB6, HN⟩
                            · have HN : Hid ((Value.bool false) = .bool (decide (yt ≤ yf ∨ (Fo.mk yf yt) ∈ out.take (s + 1)))) := Lib.hid (by rw [HTJ.out, decide_eq_false]; intro hh; exact HNO.out (hh.imp id fun h => (List.mem_append.1 h).resolve_right fun h => g7 (by have := List.mem_singleton.1 h; injection this)))
                              have k8' : (yf == bf) = false := by simp [g7]
                              have k8 : decide (yf = bf) = false := decide_eq_false g7
                              clear HTJ HNO g7
                              go_wp2
                              go_roundg (gk - 1)
                              case measure => omega
                              case rel => exact ⟨s + 1, by go_num, by omega, by omega, HB6, HN⟩
                        · obtain rfl : q = s := by omega
                          have et : out.take q = out := List.take_of_length_le (by rw [HQ.out]; exact Nat.le_refl _)
                          have hbv2 := HBV.out
                          rw [et] at hbv2
                          have HO8 := own_below HO7.out hbw.out
                          have HB8 := HB7.out.trans (hbw.out.mono HB7.out.size)
                          by_cases bvt : bv = true
                          · subst bvt
                            have hy := of_decide_eq_true hbv2.symm
                            have HN := Lib.hid (HTK2.out.trans (by rw [if_neg (by rintro ⟨h1, h2⟩; rcases hy with h | h; omega; exact h2 h)]))
                            have HO9 : Hid (wr.ownsRow W1.heap.size 33 2 (.slice A3 q c3) (fshift p (o.take (k + 1))).length (kfl encF (fshift p (o.take (k + 1))))) := Lib.hid (by rw [HN.out, ← HQ.out]; exact HO8)
                            have HB9 := Lib.hid HB8
                            clear HBV hbv2 et hy HN HO8 HB8 hbw
                            go_wp2
                            go_roundg (gO - 1)
                            case measure => omega
                            case rel => exact ⟨k + 1, by go_num, by omega, by omega, HB9, HO9⟩
                          · have bvf : bv = false := by simpa using bvt
                            subst bvf
                            have hy := of_decide_eq_false hbv2.symm
                            have HN := Lib.hid (HTK2.out.trans (by rw [if_pos ⟨by omega, fun h => hy (.inr h)⟩]))
                            have c0 := RawAt.cell HRX.out 0
                            have c1 := RawAt.cell HRX.out 1
                            simp at c0 c1
                            have x4 : Below wr.heap.size wr (wr.alloc (.cells #[.int .i64 yf, .int .i64 yt] 33)) := (Below.refl _ _).alloc (Nat.le_refl _) _
                            have R4 : RawAt 33 (wr.alloc (.cells #[.int .i64 yf, .int .i64 yt] 33)) wr.heap.size #[.int .i64 yf, .int .i64 yt] := heap_alloc_new wr _
                            have HO4 := Lib.hid (own_below HO8 x4)
                            have HS4 : Hid (RowsAt encF 2 (wr.alloc (.cells #[.int .i64 yf, .int .i64 yt] 33)) (some ⟨wr.heap.size, 0, none⟩) [Fo.mk yf yt]) := Lib.hid (rows_of_block (enc := encF) (k := 2) encF_len R4 (l := [Fo.mk yf yt]) rfl)
                            have HB4 := Lib.hid (HB8.trans (x4.mono HB8.size))
                            clear x4 R4 HBV hbv2 et hy HO8 HB8 hbw bvt
                            go_wp2_with ((at_builtin; refine wpList_appK (enc := encF) ST encF_len (by omega) rfl (.tmp 94) (.tmp 96) rfl (base := W1.heap.size) (v := .slice A3 q c3) rfl HO4.out _ 1 1 [Fo.mk yf yt] rfl HS4.out ⟨Nat.le_refl _, fun h => by cases h⟩ rfl (kfl_one' encF_one _) (by simp only [maxLen]; omega) (by omega) HB4.out.size ?_; intro v5 w8 hown5 hg5 hor5; have HB9 := Lib.hid (HB4.out.grown hg5 HB4.out.size (fun j hj => (hlt4 j hj).1)); have HO9 : Hid (w8.ownsRow W1.heap.size 33 2 v5 (fshift p (o.take (k + 1))).length (kfl encF (fshift p (o.take (k + 1))))) := Lib.hid (by rw [HN.out, kfl_append, List.length_append, ← HQ.out]; exact hown5); clear hown5 hg5 hor5 HO4 HS4 HB4))
                            go_roundg (gO - 1)
                            case measure => omega
                            case rel => exact ⟨k + 1, by go_num, by omega, by omega, HB9, HO9⟩
                · go_simp
                  have x9 : Below W3.drew.heap.size W3.drew (W3.drew.alloc (.cells #[.int .i64 0, .int .i64 0] 33)) := (Below.refl _ _).alloc (Nat.le_refl _) _
                  have R9 : RawAt 33 (W3.drew.alloc (.cells #[.int .i64 0, .int .i64 0] 33)) W3.heap.size #[.int .i64 0, .int .i64 0] := heap_alloc_new W3.drew _
                  have hle9 := hW2.size
                  have hW2 := hW2.trans (x9.mono hW2.size)
                  clear x9
                  go_wp2_with fail
                  refine hK.out _ _ (MK.out _ hW2) (fun hHeld => ?_)
                  clear hK K
                  go_simp
                  refine wpAnyH_ready (rs := [3]) (by kernel_rfl) (by simp) ?_
                  refine AllReadyH.cons rfl (fun K hK => ?_) AllReadyH.nil
                  · go_simp
                    have hWL := HWX.out.trans (hW2.mono HWX.out.size)
                    go_wp2_with (go_at_call 48; (with_reducible refine (CF.out _ ?_).mono ?_); (· exact hWL); rintro e w3 ⟨rfl, b3⟩; have hW2 := hW2.trans (b3.mono hW2.size); have R9 := RawAt.below R9 b3 R9.lt)
                    clear hWL
                    refine hK.out _ _ (MK.out _ hW2) (fun hHeld => ?_)
                    clear hK K
                    go_simp
                    refine wpAnyH_ready (rs := [7]) (by kernel_rfl) (by simp) ?_
                    refine AllReadyH.cons rfl (fun K hK => ?_) AllReadyH.nil
                    · go_simp
                      have hWL := HWX.out.trans (hW2.mono HWX.out.size)
                      go_wp2_with (go_at_call 48; (with_reducible refine (CT.out _ ?_).mono ?_); (· exact hWL); rintro e w7 ⟨rfl, b7⟩; have hW2 := hW2.trans (b7.mono hW2.size); have R9 := RawAt.below R9 b7 R9.lt)
                      clear hWL
                      refine hK.out _ _ (MK.out _ hW2) (fun hHeld => ?_)
                      clear hK K
                      go_simp
                      refine wpAnyH_take (i := 8) (v := ?_) rfl (by kernel_rfl) (by kernel_rfl) (by kernel_rfl) (fun _ _ _ h => h) (Or.inl ⟨by rfl, ?_⟩) hHeld ?_
                      rotate_left
                      · intro w hSw
                        (try dsimp only at hSw)
                        go_simp
                        try with_reducible rfl
                      go_simp
                      refine wpAnyH_ready (rs := [10]) (by kernel_rfl) (by simp) ?_
                      refine AllReadyH.cons rfl (fun K hK => ?_) AllReadyH.nil
                      have f0 := RawAt.free R9 0
                      have f1 := RawAt.free R9 1
                      have z0 := RawAt.cell R9 0
                      have z1 := RawAt.cell R9 1
                      simp at z0 z1
                      have hlt9 := R9.lt
                      have RY : RawAt 33 ((w7.setCell ⟨W3.heap.size, 0, none⟩ (.int .i64 yf)).setCell ⟨W3.heap.size, 1, none⟩ (.int .i64 yt)) W3.heap.size #[.int .i64 yf, .int .i64 yt] := RawAt.of_eq ((R9.set_ 0 (.int .i64 yf)).set_ 1 (.int .i64 yt)) rfl
                      go_simp
                      go_wp2_with fail
                      have hW2 := (hW2.setCell (p := ⟨W3.heap.size, 0, none⟩) hle9 (.int .i64 yf)).setCell (p := ⟨W3.heap.size, 1, none⟩) hle9 (.int .i64 yt)
                      clear f0 f1 z0 z1 R9 hlt9
                      refine hK.out _ _ (MK.out _ hW2) (fun hHeld => ?_)
                      clear hK K
                      go_simp
                      refine wpAnyH_done (by kernel_rfl) ?_ _
                      refine NoPanic.normal ?_
                      have HO7 := own_below HO3.out hW2
                      have HB7 := HB3.out.trans (hW2.mono HB3.out.size)
                      obtain ⟨W7, hW7⟩ : ∃ W7, W7 = ((w7.setCell ⟨W3.heap.size, 0, none⟩ (.int .i64 yf)).setCell ⟨W3.heap.size, 1, none⟩ (.int .i64 yt)) := ⟨_, rfl⟩
                      obtain ⟨yb, hyb⟩ : ∃ yb, yb = W3.heap.size := ⟨_, rfl⟩
                      have hyb3 : W1.heap.size ≤ W3.heap.size := Nat.le_trans HB3.out.size hle9
                      rw [← hW7] at RY HO7 HB7
                      rw [← hyb] at RY hyb3
                      have HY7 := Lib.hid hyb3
                      have HRY := Lib.hid RY
                      have HW7 := Lib.hid hW7
                      have HYB := Lib.hid hyb
                      have HO7 := Lib.hid HO7
                      have HB7 := Lib.hid HB7
                      clear hW2 hHeld MK RY hW7 hyb hyb3 HW3 HXB
                      rw [← HW7.out, ← HYB.out]
                      clear HW7 HYB
                      have z0 := RawAt.cell HRY.out 0
                      have z1 := RawAt.cell HRY.out 1
                      simp at z0 z1
                      go_wp2_with fail
                      clear z0 z1
                      have hown7 := HO7.out
                      obtain ⟨A4, c4, e4, hR4, _, _⟩ := rows_of_own (o := out) encF_len (by omega) hown7
                      injection e4 with e5 _ e6
                      subst e5
                      subst e6
                      have HRo := Lib.hid hR4
                      have hlt4 := hown7.lt
                      clear hown7 hR4
                      go_loopg [13, 81] q (fun g th i wr => ∃ (s : Nat), i = .int .i64 s ∧ s ≤ q ∧ q - s ≤ g ∧ Hid (Below W7.heap.size W7 wr) ∧ Hid (th = .bool (decide (yt ≤ yf ∨ (Fo.mk yf yt) ∈ out.take s))))
                      case atStart => exact ⟨0, rfl, by omega, by omega, Lib.hid (Below.refl _ _), Lib.hid (by simp)⟩
                      case round =>
                        obtain ⟨s, rfl, s1, s2, hbw, hth⟩ := hrel
                        obtain ⟨bv, hbv⟩ : ∃ bv, bv = decide (yt ≤ yf ∨ (Fo.mk yf yt) ∈ out.take s) := ⟨_, rfl⟩
                        have hth := hth.out
                        rw [← hbv] at hth
                        subst hth
                        have HBV := Lib.hid hbv
                        clear hbv
                        have HRX := Lib.hid (HRY.out.below hbw.out HRY.out.lt)
                        by_cases hlt2 : s < q
                        · have hjl : s < out.length := by rw [← HQ.out]; exact hlt2
                          obtain ⟨bO, off2, rfl, hbO, hce⟩ := (HRo.out.below hbw.out).at1 hjl
                          have e0 := hce 0 (by omega)
                          have e1 := hce 1 (by omega)
                          rw [Nat.add_zero] at e0
                          have HTJ := Lib.hid (show out.take (s + 1) = out.take s ++ [out[s]] from List.take_succ_eq_append_getElem hjl)
                          clear hce
                          generalize out[s] = b at *
                          obtain ⟨bf, bt⟩ := b
                          simp [encF] at e0 e1
                          have q1 : (0 : Int) ≤ s := by omega
                          have q2 : (s : Int) < q := by omega
                          have x6 : Below wr.heap.size wr (wr.alloc (.cells #[.int .i64 bf, .int .i64 bt] 33)) := (Below.refl _ _).alloc (Nat.le_refl _) _
                          have R6 : RawAt 33 (wr.alloc (.cells #[.int .i64 bf, .int .i64 bt] 33)) wr.heap.size #[.int .i64 bf, .int .i64 bt] := heap_alloc_new wr _
                          have HB6 := Lib.hid (hbw.out.trans (x6.mono hbw.out.size))
                          have RA6 := RawAt.below HRX.out x6 HRX.out.lt
                          have y0 := RawAt.cell R6 0
                          have y1 := RawAt.cell R6 1
                          have c0 := RawAt.cell RA6 0
                          have c1 := RawAt.cell RA6 1
                          simp at y0 y1 c0 c1
                          clear x6 R6 RA6 hbw
                          by_cases bvt : bv = true
                          · subst bvt
                            have HN : Hid ((Value.bool true) = .bool (decide (yt ≤ yf ∨ (Fo.mk yf yt) ∈ out.take (s + 1)))) := Lib.hid (by rw [HTJ.out, decide_eq_true ((of_decide_eq_true HBV.out.symm).imp id (fun h => List.mem_append_left _ h))])
                            clear HBV HTJ
                            go_wp2
                            go_roundg (gk - 1)
                            case measure => omega
                            case rel => exact ⟨s + 1, by go_num, by omega, by omega, HB6, HN⟩
                          · have bvf : bv = false := by simpa using bvt
                            subst bvf
                            have HNO := Lib.hid (of_decide_eq_false HBV.out.symm)
                            clear HBV bvt
                            by_cases g7 : yf = bf
                            · by_cases g8 : yt = bt
                              · have HN : Hid ((Value.bool true) = .bool (decide (yt ≤ yf ∨ (Fo.mk yf yt) ∈ out.take (s + 1)))) := Lib.hid (by rw [HTJ.out, g7, g8, decide_eq_true (.inr (List.mem_append_right _ (List.mem_singleton.2 rfl)))])
                                have k8' : (yf == bf) = true := by simp [g7]
                                have k9' : (yt == bt) = true := by simp [g8]
                                have k8 : decide (yf = bf) = true := decide_eq_true g7
                                have k9 : decide (yt = bt) = true := decide_eq_true g8
                                clear HTJ HNO g7 g8
                                go_wp2
                                go_roundg (gk - 1)
                                case measure => omega
                                case rel => exact ⟨s + 1, by go_num, by omega, by omega, HB6, HN⟩
                              · have HN : Hid ((Value.bool false) = .bool (decide (yt ≤ yf ∨ (Fo.mk yf yt) ∈ out.take (s + 1)))) := Lib.hid (by rw [HTJ.out, decide_eq_false]; intro hh; exact HNO.out (hh.imp id fun h => (List.mem_append.1 h).resolve_right fun h => g8 (by have := List.mem_singleton.1 h; injection this)))
                                have k8' : (yf == bf) = true := by simp [g7]
                                have k9' : (yt == bt) = false := by simp [g8]
                                have k8 : decide (yf = bf) = true := decide_eq_true g7
                                have k9 : decide (yt = bt) = false := decide_eq_false g8
                                clear HTJ HNO g7 g8
                                go_wp2
                                go_roundg (gk - 1)
                                case measure => omega
                                case rel => exact ⟨s + 1, by go_num, by omega, by omega, HB6, HN⟩
                            · have HN : Hid ((Value.bool false) = .bool (decide (yt ≤ yf ∨ (Fo.mk yf yt) ∈ out.take (s + 1)))) := Lib.hid (by rw [HTJ.out, decide_eq_false]; intro hh; exact HNO.out (hh.imp id fun h => (List.mem_append.1 h).resolve_right fun h => g7 (by have := List.mem_singleton.1 h; injection this)))
                              have k8' : (yf == bf) = false := by simp [g7]
                              have k8 : decide (yf = bf) = false := decide_eq_false g7
                              clear HTJ HNO g7
                              go_wp2
                              go_roundg (gk - 1)
                              case measure => omega
                              case rel => exact ⟨s + 1, by go_num, by omega, by omega, HB6, HN⟩
                        · obtain rfl : q = s := by omega
                          have et : out.take q = out := List.take_of_length_le (by rw [HQ.out]; exact Nat.le_refl _)
                          have hbv2 := HBV.out
                          rw [et] at hbv2
                          have HO8 := own_below HO7.out hbw.out
                          have HB8 := HB7.out.trans (hbw.out.mono HB7.out.size)
                          by_cases bvt : bv = true
                          · subst bvt
                            have hy := of_decide_eq_true hbv2.symm
                            have HN := Lib.hid (HTK2.out.trans (by rw [if_neg (by rintro ⟨h1, h2⟩; rcases hy with h | h; omega; exact h2 h)]))
                            have HO9 : Hid (wr.ownsRow W1.heap.size 33 2 (.slice A3 q c3) (fshift p (o.take (k + 1))).length (kfl encF (fshift p (o.take (k + 1))))) := Lib.hid (by rw [HN.out, ← HQ.out]; exact HO8)
                            have HB9 := Lib.hid HB8
                            clear HBV hbv2 et hy HN HO8 HB8 hbw
                            go_wp2
                            go_roundg (gO - 1)
                            case measure => omega
                            case rel => exact ⟨k + 1, by go_num, by omega, by omega, HB9, HO9⟩
                          · have bvf : bv = false := by simpa using bvt
                            subst bvf
                            have hy := of_decide_eq_false hbv2.symm
                            have HN := Lib.hid (HTK2.out.trans (by rw [if_pos ⟨by omega, fun h => hy (.inr h)⟩]))
                            have c0 := RawAt.cell HRX.out 0
                            have c1 := RawAt.cell HRX.out 1
                            simp at c0 c1
                            have x4 : Below wr.heap.size wr (wr.alloc (.cells #[.int .i64 yf, .int .i64 yt] 33)) := (Below.refl _ _).alloc (Nat.le_refl _) _
                            have R4 : RawAt 33 (wr.alloc (.cells #[.int .i64 yf, .int .i64 yt] 33)) wr.heap.size #[.int .i64 yf, .int .i64 yt] := heap_alloc_new wr _
                            have HO4 := Lib.hid (own_below HO8 x4)
                            have HS4 : Hid (RowsAt encF 2 (wr.alloc (.cells #[.int .i64 yf, .int .i64 yt] 33)) (some ⟨wr.heap.size, 0, none⟩) [Fo.mk yf yt]) := Lib.hid (rows_of_block (enc := encF) (k := 2) encF_len R4 (l := [Fo.mk yf yt]) rfl)
                            have HB4 := Lib.hid (HB8.trans (x4.mono HB8.size))
                            clear x4 R4 HBV hbv2 et hy HO8 HB8 hbw bvt
                            go_wp2_with ((at_builtin; refine wpList_appK (enc := encF) ST encF_len (by omega) rfl (.tmp 94) (.tmp 96) rfl (base := W1.heap.size) (v := .slice A3 q c3) rfl HO4.out _ 1 1 [Fo.mk yf yt] rfl HS4.out ⟨Nat.le_refl _, fun h => by cases h⟩ rfl (kfl_one' encF_one _) (by simp only [maxLen]; omega) (by omega) HB4.out.size ?_; intro v5 w8 hown5 hg5 hor5; have HB9 := Lib.hid (HB4.out.grown hg5 HB4.out.size (fun j hj => (hlt4 j hj).1)); have HO9 : Hid (w8.ownsRow W1.heap.size 33 2 v5 (fshift p (o.take (k + 1))).length (kfl encF (fshift p (o.take (k + 1))))) := Lib.hid (by rw [HN.out, kfl_append, List.length_append, ← HQ.out]; exact hown5); clear hown5 hg5 hor5 HO4 HS4 HB4))
                            go_roundg (gO - 1)
                            case measure => omega
                            case rel => exact ⟨k + 1, by go_num, by omega, by omega, HB9, HO9⟩
              · obtain rfl : m = k := by omega
                have e2 : o.take m = o := List.take_of_length_le (by rw [HL.out]; exact Nat.le_refl _)
                have ho2 := hown.out
                rw [e2] at ho2
                obtain ⟨A6, c6, e6, hR6, _, hC6⟩ := rows_of_own encF_len (by omega) ho2
                subst e6
                have CNW6 := Lib.hid (CNW.out A6 _ c6 wr hR6 hC6 rfl)
                have HB6 := Lib.hid hb.out
                clear e2 ho2 hR6 hC6 hown hb CNW
                go_wp2_with fail
                with_reducible refine (CNW6.out).mono ?_
                rintro e7 w7 ⟨nn, A7, m7, c7, rfl, hres, b7⟩
                have hS1 := RawAt.below R1.out (HB6.out.trans (b7.mono HB6.out.size)) R1.out.lt
                have q0 := RawAt.cell hS1 0
                have q1 := RawAt.cell hS1 1
                have q2 := RawAt.cell hS1 2
                have f0 := RawAt.free hS1 0
                have f1 := RawAt.free hS1 1
                have f2 := RawAt.free hS1 2
                simp at q0 q1 q2
                have HR1 := Lib.hid hS1
                have HZ7 := Lib.hid (X1.out.trans ((HB6.out.trans (b7.mono HB6.out.size)).mono X1.out.size))
                have HRES := Lib.hid hres
                clear hres b7 hS1 CNW6
                go_wp2
                have t0 := ((HR1.out.set_ 0 (.int .i64 nn)).set_ 1 (.slice A7 m7 c7)).set_ 2 (.int .i64 r)
                have z0 := RawAt.cell t0 0
                have z1 := RawAt.cell t0 1
                have z2 := RawAt.cell t0 2
                simp at z0 z1 z2
                refine bodyPost_ret (v := .agg #[.int .i64 nn, .slice A7 m7 c7, .int .i64 r]) (by simp [results, Try.results21, go_sem, z0, z1, z2]) rfl ⟨nn, A7, m7, c7, rfl, fun hr0 => ?_, ?_⟩
                · obtain ⟨y1, y2, y3, y4⟩ := HRES.out hr0
                  exact ⟨y1.trans HE.out.symm, y2, rows_apartF (rows_apartF (rows_apartF y3 HR1.out _ _) (RawAt.of_eq (HR1.out.set_ 0 (.int .i64 nn)) rfl) _ _) (RawAt.of_eq ((HR1.out.set_ 0 (.int .i64 nn)).set_ 1 (.slice A7 m7 c7)) rfl) _ _, y4⟩
                · exact (((HZ7.out.setCell (p := ⟨w.heap.size + 1, 0, none⟩) (Nat.le_add_right _ _) _).setCell (p := ⟨w.heap.size + 1, 1, none⟩) (Nat.le_add_right _ _) _).setCell (p := ⟨w.heap.size + 1, 2, none⟩) (Nat.le_add_right _ _) _)
  · have CN := Lib.hid fun (W : World) (hW : Below w.heap.size w W) => rNormal_any PA pm pc p W false (HP.out.below hW) HPL.out (by omega) ⟨fun h => absurd h (by decide), fun h => absurd h hn⟩
    have e : r = 4 := HRR.out.1 hn
    subst e
    clear HRR hn
    go_enter Try.func21, Try.ntmps21
    go_wp2_with fail
    rw [← HW1.out]
    clear HW1
    with_reducible refine (CN.out _ X1.out).mono ?_
    rintro e2 w2 ⟨rfl, b2⟩
    have hS1 := RawAt.below R1.out b2 R1.out.lt
    have q0 := RawAt.cell hS1 0
    have q1 := RawAt.cell hS1 1
    have q2 := RawAt.cell hS1 2
    have f0 := RawAt.free hS1 0
    have f1 := RawAt.free hS1 1
    have f2 := RawAt.free hS1 2
    simp at q0 q1 q2
    have HR1 := Lib.hid hS1
    have HZZ := Lib.hid (X1.out.trans (b2.mono X1.out.size))
    clear b2 hS1
    go_wp2
    have t0 := ((HR1.out.set_ 0 (.int .i64 0)).set_ 1 (.slice none 0 0)).set_ 2 (.int .i64 4)
    have z0 := RawAt.cell t0 0
    have z1 := RawAt.cell t0 1
    have z2 := RawAt.cell t0 2
    simp at z0 z1 z2
    refine bodyPost_ret (v := .agg #[.int .i64 0, .slice none 0 0, .int .i64 4]) (by simp [results, Try.results21, go_sem, z0, z1, z2]) rfl ⟨0, none, 0, 0, rfl, fun h => absurd h (by decide), ?_⟩
    exact (((HZZ.out.setCell (p := ⟨w.heap.size + 1, 0, none⟩) (Nat.le_succ _) _).setCell (p := ⟨w.heap.size + 1, 1, none⟩) (Nat.le_succ _) _).setCell (p := ⟨w.heap.size + 1, 2, none⟩) (Nat.le_succ _) _)
end Go.Proofs.Ytnfjleobcfhpnaa
