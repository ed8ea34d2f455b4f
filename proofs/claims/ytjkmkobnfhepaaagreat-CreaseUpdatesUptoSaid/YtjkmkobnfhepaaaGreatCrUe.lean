/- Creases: the contract of Update, whatever it is asked. -/
import Derived.Test.YtjkmkobnfhepaaaGreatCrUj
import Derived.Test.YtjkmkobnfhepaaaGreatCrNi
namespace Go.Proofs.YtjkmkobnfhepaaaGreat
open Go.RowKit
set_option linter.unusedVariables false
theorem CrOk.within (f' t' T : Int) (hT : t' ≤ T) : ∀ (l : List (Int × Int)) (g n F : Int), CrOk g l n → (F ≤ f' ∨ F ≤ g) → F ≤ T → CrOk F (l.filter fun y => !outs f' t' y) T
  | [], g, n, F, _, _, hF => hF
  | x :: l, g, n, F, h, h1, hF => by
    obtain ⟨g1, g2, g3⟩ := h
    by_cases q : x.1 < f' ∨ t' < x.2
    · have e : (!outs f' t' x) = false := by unfold outs; rw [decide_eq_true q]; rfl
      rw [List.filter_cons_of_neg (by rw [e]; simp)]
      exact CrOk.within f' t' T hT l x.2 n F g3 (by omega) hF
    · have e : (!outs f' t' x) = true := by unfold outs; rw [decide_eq_false q]; rfl
      rw [List.filter_cons_of_pos (by rw [e])]
      exact ⟨by omega, g2, CrOk.within f' t' T hT l x.2 n x.2 g3 (.inr (Int.le_refl _)) (by omega)⟩
theorem ufst_ulst (P : List I7) {f t : Int} (h : f ≤ t) : ufst P f ≤ ulst P t ∧ ulst P t ≤ P.length := by
  have h1 := ahd_le P (wfnd 0 P f 1)
  have h2 := wfnd_mono 0 P f t h
  have h3 := wfnd_le 0 P t 1
  have h4 := lead_le (P.drop (wfnd 0 P t 1))
  rw [List.length_drop] at h4
  unfold ufst ulst
  omega
/-- What is made anew is right. -/
theorem umid {L L2 : List (Int × Int)} {n1 n2 f t f' t' : Int} (h : CrOk 0 L n1) (h2 : CrOk 0 L2 n2) (s1 : 0 ≤ f ∧ f ≤ t ∧ t ≤ n1) (s2 : 0 ≤ f' ∧ f' ≤ t' ∧ t' ≤ n2) (e1 : f = f') (e2 : n1 - t = n2 - t') (a1 : acr L f = false) (a2 : acr L t = false) :
    (0 ≤ wdsum 0 ((crP 0 L n1).take (ufst (crP 0 L n1) f)) ∧ wdsum 0 ((crP 0 L n1).take (ufst (crP 0 L n1) f)) ≤ f) ∧ (t ≤ wdsum 0 ((crP 0 L n1).take (ulst (crP 0 L n1) t)) ∧ wdsum 0 ((crP 0 L n1).take (ulst (crP 0 L n1) t)) ≤ n1) ∧
    CrOk (wdsum 0 ((crP 0 L n1).take (ufst (crP 0 L n1) f))) (L2.filter fun y => !outs f' t' y) (wdsum 0 ((crP 0 L n1).take (ulst (crP 0 L n1) t)) - t + t') := by
  obtain ⟨a, b, ea, p1, p2, pa, pb⟩ := acr_cut L 0 n1 f h s1.1 a1
  obtain ⟨c, d, ec, q1, q2, qc, qd⟩ := acr_cut L 0 n1 t h (by omega) a2
  have p2' : f ≤ cfst b n1 := by omega
  have q2' : t ≤ cfst d n1 := by omega
  have hfd := qd.fst
  have hx : wdsum 0 ((crP 0 L n1).take (ufst (crP 0 L n1) f)) = clast 0 a := by rw [ea, ufst_is pa pb p1 p2', (uhead pa).1, (uhead (b := b) (n := n1) pa).2]
  have hy : wdsum 0 ((crP 0 L n1).take (ulst (crP 0 L n1) t)) = cfst d n1 := by rw [ec, ulst_is qc qd q1 q2', (utail qc qd).2]
  have h0 : 0 ≤ clast 0 a := by have := pa.le; exact this
  rw [hx, hy]
  exact ⟨⟨h0, p1⟩, ⟨q2', hfd.2⟩, CrOk.within f' t' _ (by omega) L2 0 n2 _ h2 (.inl (by omega)) (by omega)⟩
theorem cAheadU {p : Option Addr} {l : List I7} {h : Nat} {w : World} (ht : CrAt w p l h) (v : Int) (hv : WvAsk 0 l v) :
    Calls Tryz.prog 40 #[.pointer p, .int .i64 v] w fun e w' => e = .returned (.tuple #[.int .i64 ((ufst l v : Nat) : Int), .int .i64 (wdsum 0 (l.take (ufst l v)))]) ∧ Below w.heap.size w w' := cAhead_any ht v hv
theorem cBehindU {p : Option Addr} {l : List I7} {h : Nat} {w : World} (ht : CrAt w p l h) (v : Int) (hv : WvAsk 0 l v) :
    Calls Tryz.prog 41 #[.pointer p, .int .i64 v] w fun e w' => e = .returned (.tuple #[.int .i64 ((ulst l v : Nat) : Int), .int .i64 (wdsum 0 (l.take (ulst l v)))]) ∧ Below w.heap.size w w' := cBehind_any ht v hv
set_option maxHeartbeats 32000000 in
set_option maxRecDepth 100000 in
theorem cUpd_any {p pw : Option Addr} {L : List (Int × Int)} {n1 : Int} {h hw : Nat} {o : List In} {N : Nat} (A : Option Addr) (m c : Nat) (hh : List (Int × Int)) (f t f' t' : Int) (w : World)
    (ht : CrAt w p (crP 0 L n1) h) (hcr : CrOk 0 L n1) (hLl : L.length ≤ 1000) (hn1 : n1 ≤ 100000000) (hpw : WvAt w pw (wvP 0 o N) hw) (hwv : Wv 0 o N) (hA : RowsAt wencS 2 w A hh) (hl : hh.length = m) (hm : m ≤ 1000) (hbd : N + wosum N 1 o ≤ 100000000) :
    Calls Tryz.prog 12 #[.pointer p, .agg #[.int .i64 f, .int .i64 t], .agg #[.int .i64 f', .int .i64 t'], .pointer pw, .slice A m c] w fun e w' => ((¬ UGood L hh o f t f' t' n1 N ∧ e = .returned (.tuple #[.pointer none, .int .i64 1])) ∨ (UGood L hh o f t f' t' n1 N ∧ ∃ a h', e = .returned (.tuple #[.pointer (some a), .int .i64 0]) ∧ CrAt w' (some a) (uitems (crP 0 L n1) (hh.map (cpl o)) f t f' t') h')) ∧ Below w.heap.size w w' := by
  obtain ⟨_, hs1, hs0⟩ := wsp_len o 0 N hwv
  rw [show (N : Int) - 0 = (N : Int) from by omega] at hs0 hs1
  obtain ⟨z0, z1⟩ := crP_sums L 0 n1 hcr
  rw [Int.sub_zero] at z0 z1
  have hN0 : 0 ≤ wosum N 1 o := wosum_pos o N 1
  obtain ⟨W1, hW1⟩ : ∃ W1, W1 = (w.alloc (.cells #[.int .i64 f, .int .i64 t] 27)).alloc (.cells #[.int .i64 f', .int .i64 t'] 27) := ⟨_, rfl⟩
  obtain ⟨n1', n2', n3', n4'⟩ := new2 w 27 27 #[.int .i64 f, .int .i64 t] #[.int .i64 f', .int .i64 t']
  rw [← hW1] at n1' n2' n3' n4'
  have HW1 := Lib.hid hW1
  have HN1 := Lib.hid n1'
  have HN2 := Lib.hid n2'
  have X1 := Lib.hid n3'
  have MK : Hid (∀ V : World, Below W1.heap.size W1 V → (fun V : World => (V.cell? ⟨w.heap.size, 0, none⟩ = some (.int .i64 f) ∧ V.cell? ⟨w.heap.size, 1, none⟩ = some (.int .i64 t)) ∧ V.cell? ⟨w.heap.size + 1, 0, none⟩ = some (.int .i64 f') ∧ V.cell? ⟨w.heap.size + 1, 1, none⟩ = some (.int .i64 t')) V) := Lib.hid fun V hV => by
    have q := RawAt.below HN1.out hV HN1.out.lt
    have q2 := RawAt.below HN2.out hV HN2.out.lt
    exact ⟨⟨RawAt.cell q 0, RawAt.cell q 1⟩, RawAt.cell q2 0, RawAt.cell q2 1⟩
  have HT1 := Lib.hid (ht.below n3')
  have CWO := Lib.hid (cWoven_any A m c hh W1 (hpw.below n3') hwv (hA.below n3') hl hm)
  have CZ := Lib.hid fun (W : World) (hW : Below W1.heap.size W1 W) => crSizes (HT1.out.below hW)
  have CZW := Lib.hid fun (W : World) (hW : Below W1.heap.size W1 W) => wvSizes ((hpw.below n3').below hW)
  rw [z0] at CZ
  rw [hs0, hs1] at CZW
  have HZ0 := Lib.hid z0
  have CSP := Lib.hid fun (a b n : Int) (W : World) (r : Bool) (hr : r = true ↔ 0 ≤ a ∧ a ≤ b ∧ b ≤ n) => cSpans_any a b n W r hr
  have CHI := Lib.hid fun (v : Int) (h0 : 0 ≤ v) (h1 : v ≤ n1) (W : World) (hW : Below W1.heap.size W1 W) => cHides_any (HT1.out.below hW) hcr v h0 h1
  have HL := Lib.hid hl
  have HCR := Lib.hid hcr
  have w11 := n4'
  clear n1' n2' n3' n4' hW1 ht hpw hwv hA hl hs0 hs1 z0 hcr
  generalize hn2 : (N : Int) + wosum N 1 o = n2 at *
  have HN2E := Lib.hid hn2
  clear hn2 hN0
  go_enter Tryz.func12, Tryz.ntmps12
  go_wp2_with fail
  rw [← HW1.out]
  with_reducible refine (CWO.out).mono ?_
  rintro e w2 ⟨hc, b2⟩
  have HQ2 := Lib.hid b2
  clear b2 CWO
  obtain ⟨⟨p0, p1⟩, p2, p3⟩ := MK.out _ HQ2.out
  rcases hc with ⟨hrt, v2, rfl, o2⟩ | ⟨hno, rfl⟩
  rotate_left
  · have HNR := Lib.hid hno
    clear hno
    have HQX := Lib.hid (X1.out.trans (HQ2.out.mono X1.out.size))
    have HNO := Lib.hid (show ¬ UGood L hh o f t f' t' n1 N from fun h => HNR.out h.rt)
    go_wp2
    go_ret2
    exact ⟨.inl ⟨HNO.out, rfl⟩, HQX.out⟩
  obtain ⟨A2, c2, rfl, hR2, hl2, hc2⟩ := rows_of_own wencS_len (by omega) o2
  have HRT := Lib.hid hrt
  have HO2 := Lib.hid o2
  have HR2 := Lib.hid hR2
  have HL2 := Lib.hid hl2
  have HP2 := Lib.hid (Below.refl w2.heap.size w2)
  clear hrt hR2 hl2 hc2 o2
  go_wp2_with fail
  with_reducible refine (CZ.out _ HQ2.out).mono ?_
  rintro e w3 ⟨rfl, b3⟩
  have HQ3 := Lib.hid (HQ2.out.trans (b3.mono HQ2.out.size))
  have HP3 := Lib.hid (HP2.out.trans (b3.mono HP2.out.size))
  clear b3 p0 p1 p2 p3
  obtain ⟨⟨p0, p1⟩, p2, p3⟩ := MK.out _ HQ3.out
  go_wp2_with fail
  with_reducible refine (CZW.out _ HQ3.out).mono ?_
  rintro e w4 ⟨rfl, b4⟩
  have HQ4 := Lib.hid (HQ3.out.trans (b4.mono HQ3.out.size))
  have HP4 := Lib.hid (HP3.out.trans (b4.mono HP3.out.size))
  clear b4 p0 p1 p2 p3
  obtain ⟨⟨p0, p1⟩, p2, p3⟩ := MK.out _ HQ4.out
  by_cases g1 : 0 ≤ f ∧ f ≤ t ∧ t ≤ n1
  rotate_left
  · have CS1 := Lib.hid fun (W : World) => CSP.out f t n1 W false ⟨fun h => absurd h (by simp), fun h => absurd h g1⟩
    have HG := Lib.hid g1
    clear g1
    go_wp2_with fail
    with_reducible refine (CS1.out _).mono ?_
    rintro e w5 ⟨rfl, b5⟩
    have HQ5 := Lib.hid (HQ4.out.trans (b5.mono HQ4.out.size))
    have HP5 := Lib.hid (HP4.out.trans (b5.mono HP4.out.size))
    clear b5 p0 p1 p2 p3
    obtain ⟨⟨p0, p1⟩, p2, p3⟩ := MK.out _ HQ5.out
    have HQX := Lib.hid (X1.out.trans (HQ5.out.mono X1.out.size))
    have HNO := Lib.hid (show ¬ UGood L hh o f t f' t' n1 N from fun h => HG.out h.s1)
    go_wp2
    go_ret2
    exact ⟨.inl ⟨HNO.out, rfl⟩, HQX.out⟩
  have CS1 := Lib.hid fun (W : World) => CSP.out f t n1 W true ⟨fun _ => g1, fun _ => rfl⟩
  have HG1 := Lib.hid g1
  clear g1
  go_wp2_with fail
  with_reducible refine (CS1.out _).mono ?_
  rintro e w5 ⟨rfl, b5⟩
  have HQ5 := Lib.hid (HQ4.out.trans (b5.mono HQ4.out.size))
  have HP5 := Lib.hid (HP4.out.trans (b5.mono HP4.out.size))
  clear b5 p0 p1 p2 p3
  obtain ⟨⟨p0, p1⟩, p2, p3⟩ := MK.out _ HQ5.out
  by_cases g2 : 0 ≤ f' ∧ f' ≤ t' ∧ t' ≤ n2
  rotate_left
  · have CS2 := Lib.hid fun (W : World) => CSP.out f' t' n2 W false ⟨fun h => absurd h (by simp), fun h => absurd h g2⟩
    have HG := Lib.hid g2
    clear g2
    go_wp2_with fail
    with_reducible refine (CS2.out _).mono ?_
    rintro e w6 ⟨rfl, b6⟩
    have HQ6 := Lib.hid (HQ5.out.trans (b6.mono HQ5.out.size))
    have HP6 := Lib.hid (HP5.out.trans (b6.mono HP5.out.size))
    clear b6 p0 p1 p2 p3
    obtain ⟨⟨p0, p1⟩, p2, p3⟩ := MK.out _ HQ6.out
    have HQX := Lib.hid (X1.out.trans (HQ6.out.mono X1.out.size))
    have HNO := Lib.hid (show ¬ UGood L hh o f t f' t' n1 N from fun h => HG.out (by have := h.s2; rw [HN2E.out] at this; exact this))
    go_wp2
    go_ret2
    exact ⟨.inl ⟨HNO.out, rfl⟩, HQX.out⟩
  have CS2 := Lib.hid fun (W : World) => CSP.out f' t' n2 W true ⟨fun _ => g2, fun _ => rfl⟩
  have HG2 := Lib.hid g2
  have w1' : IntKind.i64.wrap (n1 - t) = n1 - t := IntWalk.i64_in _ (by have := HG1.out; omega)
  have w2' : IntKind.i64.wrap (n2 - t') = n2 - t' := IntWalk.i64_in _ (by omega)
  clear g2
  go_wp2_with fail
  with_reducible refine (CS2.out _).mono ?_
  rintro e w6 ⟨rfl, b6⟩
  have HQ6 := Lib.hid (HQ5.out.trans (b6.mono HQ5.out.size))
  have HP6 := Lib.hid (HP5.out.trans (b6.mono HP5.out.size))
  clear b6 p0 p1 p2 p3
  obtain ⟨⟨p0, p1⟩, p2, p3⟩ := MK.out _ HQ6.out
  by_cases g3 : f = f'
  rotate_left
  · have k3 : (f != f') = true := by simpa using g3
    have HQX := Lib.hid (X1.out.trans (HQ6.out.mono X1.out.size))
    have HNO := Lib.hid (show ¬ UGood L hh o f t f' t' n1 N from fun h => g3 h.e1)
    go_wp2
    go_ret2
    exact ⟨.inl ⟨HNO.out, rfl⟩, HQX.out⟩
  have k3 : (f != f') = false := by simpa using g3
  by_cases g4 : n1 - t = n2 - t'
  rotate_left
  · have k4 : (n1 - t != n2 - t') = true := by simpa using g4
    have HQX := Lib.hid (X1.out.trans (HQ6.out.mono X1.out.size))
    have HNO := Lib.hid (show ¬ UGood L hh o f t f' t' n1 N from fun h => g4 (by have := h.e2; rw [HN2E.out] at this; exact this))
    go_wp2
    go_ret2
    exact ⟨.inl ⟨HNO.out, rfl⟩, HQX.out⟩
  have k4 : (n1 - t != n2 - t') = false := by simpa using g4
  have HG3 := Lib.hid g3
  have HG4 := Lib.hid g4
  clear g3 g4
  obtain ⟨B1, hB1⟩ : ∃ b, b = acr L f := ⟨_, rfl⟩
  obtain ⟨B2, hB2⟩ : ∃ b, b = acr L t := ⟨_, rfl⟩
  have CH1 := Lib.hid fun (W : World) (hW : Below W1.heap.size W1 W) => CHI.out f HG1.out.1 (by have := HG1.out; omega) W hW
  have CH2 := Lib.hid fun (W : World) (hW : Below W1.heap.size W1 W) => CHI.out t (by have := HG1.out; omega) HG1.out.2.2 W hW
  rw [← hB1] at CH1
  rw [← hB2] at CH2
  have HBB1 := Lib.hid hB1
  have HBB2 := Lib.hid hB2
  clear hB1 hB2 CHI
  go_wp2_with fail
  with_reducible refine (CH1.out _ HQ6.out).mono ?_
  rintro e w7 ⟨rfl, b7⟩
  have HQ7 := Lib.hid (HQ6.out.trans (b7.mono HQ6.out.size))
  have HP7 := Lib.hid (HP6.out.trans (b7.mono HP6.out.size))
  clear b7 p0 p1 p2 p3
  obtain ⟨⟨p0, p1⟩, p2, p3⟩ := MK.out _ HQ7.out
  cases B1
  rotate_left
  · have HQX := Lib.hid (X1.out.trans (HQ7.out.mono X1.out.size))
    have HNO := Lib.hid (show ¬ UGood L hh o f t f' t' n1 N from fun h => by have h1 := h.a1; rw [← HBB1.out] at h1; cases h1)
    go_wp2
    go_ret2
    exact ⟨.inl ⟨HNO.out, rfl⟩, HQX.out⟩
  go_wp2_with fail
  with_reducible refine (CH2.out _ HQ7.out).mono ?_
  rintro e w8 ⟨rfl, b8⟩
  have HQ8 := Lib.hid (HQ7.out.trans (b8.mono HQ7.out.size))
  have HP8 := Lib.hid (HP7.out.trans (b8.mono HP7.out.size))
  clear b8 p0 p1 p2 p3
  obtain ⟨⟨p0, p1⟩, p2, p3⟩ := MK.out _ HQ8.out
  cases B2
  rotate_left
  · have HQX := Lib.hid (X1.out.trans (HQ8.out.mono X1.out.size))
    have HNO := Lib.hid (show ¬ UGood L hh o f t f' t' n1 N from fun h => by have h1 := h.a2; rw [← HBB2.out] at h1; cases h1)
    go_wp2
    go_ret2
    exact ⟨.inl ⟨HNO.out, rfl⟩, HQX.out⟩
  obtain ⟨B3, hB3⟩ : ∃ b, b = acr (hh.map (cpl o)) f' := ⟨_, rfl⟩
  obtain ⟨B4, hB4⟩ : ∃ b, b = acr (hh.map (cpl o)) t' := ⟨_, rfl⟩
  have CA3 := Lib.hid fun (W : World) (hW : Below w2.heap.size w2 W) => cAcross_any A2 m c2 (hh.map (cpl o)) f' W (HR2.out.below hW) HL2.out (by omega)
  have CA4 := Lib.hid fun (W : World) (hW : Below w2.heap.size w2 W) => cAcross_any A2 m c2 (hh.map (cpl o)) t' W (HR2.out.below hW) HL2.out (by omega)
  rw [← hB3] at CA3
  rw [← hB4] at CA4
  have HBB3 := Lib.hid hB3
  have HBB4 := Lib.hid hB4
  clear hB3 hB4
  go_wp2_with fail
  with_reducible refine (CA3.out _ HP8.out).mono ?_
  rintro e w9 ⟨rfl, b9⟩
  have HQ9 := Lib.hid (HQ8.out.trans (b9.mono HQ8.out.size))
  have HP9 := Lib.hid (HP8.out.trans (b9.mono HP8.out.size))
  clear b9 p0 p1 p2 p3
  obtain ⟨⟨p0, p1⟩, p2, p3⟩ := MK.out _ HQ9.out
  cases B3
  rotate_left
  · have HQX := Lib.hid (X1.out.trans (HQ9.out.mono X1.out.size))
    have HNO := Lib.hid (show ¬ UGood L hh o f t f' t' n1 N from fun h => by have h1 := h.a3; rw [← HBB3.out] at h1; cases h1)
    go_wp2
    go_ret2
    exact ⟨.inl ⟨HNO.out, rfl⟩, HQX.out⟩
  go_wp2_with fail
  with_reducible refine (CA4.out _ HP9.out).mono ?_
  rintro e w10 ⟨rfl, b10⟩
  have HQ10 := Lib.hid (HQ9.out.trans (b10.mono HQ9.out.size))
  have HP10 := Lib.hid (HP9.out.trans (b10.mono HP9.out.size))
  clear b10 p0 p1 p2 p3
  obtain ⟨⟨p0, p1⟩, p2, p3⟩ := MK.out _ HQ10.out
  cases B4
  rotate_left
  · have HQX := Lib.hid (X1.out.trans (HQ10.out.mono X1.out.size))
    have HNO := Lib.hid (show ¬ UGood L hh o f t f' t' n1 N from fun h => by have h1 := h.a4; rw [← HBB4.out] at h1; cases h1)
    go_wp2
    go_ret2
    exact ⟨.inl ⟨HNO.out, rfl⟩, HQX.out⟩
  have CD := Lib.hid (cDel_own f' t' (w.heap.size + 1) W1.heap.size A2 m c2 (hh.map (cpl o)) w10 (own_below HO2.out HP10.out) (by omega) (RawAt.below HN2.out HQ10.out HN2.out.lt) (by omega) HQ10.out.size)
  go_wp2_with fail
  with_reducible refine (CD.out).mono ?_
  rintro e w11 ⟨A11, m11, c11, rfl, o11, b11⟩
  have HQ11 := Lib.hid (HQ10.out.trans b11)
  have HO11 := Lib.hid o11
  clear b11 o11 p0 p1 p2 p3 CD
  obtain ⟨⟨p0, p1⟩, p2, p3⟩ := MK.out _ HQ11.out
  have CAH := Lib.hid fun (W : World) (hW : Below W1.heap.size W1 W) => cAheadU (HT1.out.below hW) f ⟨HG1.out.1, by rw [HZ0.out]; have := HG1.out; omega⟩
  have CBH := Lib.hid fun (W : World) (hW : Below W1.heap.size W1 W) => cBehindU (HT1.out.below hW) t ⟨by have := HG1.out; omega, by rw [HZ0.out]; exact HG1.out.2.2⟩
  go_wp2_with fail
  with_reducible refine (CAH.out _ HQ11.out).mono ?_
  rintro e w12 ⟨rfl, b12⟩
  have HQ12 := Lib.hid (HQ11.out.trans (b12.mono HQ11.out.size))
  have H11 := Lib.hid b12
  clear b12 p0 p1 p2 p3
  obtain ⟨⟨p0, p1⟩, p2, p3⟩ := MK.out _ HQ12.out
  go_wp2_with fail
  with_reducible refine (CBH.out _ HQ12.out).mono ?_
  rintro e w13 ⟨rfl, b13⟩
  have HQ13 := Lib.hid (HQ12.out.trans (b13.mono HQ12.out.size))
  have H12 := Lib.hid (H11.out.trans (b13.mono H11.out.size))
  clear b13 p0 p1 p2 p3
  have hg : UGood L hh o f t f' t' n1 N := ⟨HRT.out, HG1.out, by rw [HN2E.out]; exact HG2.out, HG3.out, by rw [HN2E.out]; exact HG4.out, HBB1.out.symm, HBB2.out.symm, HBB3.out.symm, HBB4.out.symm⟩
  have hcr2 : CrOk 0 (hh.map (cpl o)) n2 := by
    rw [← HN2E.out]
    exact RtOk.cr o HRT.out (by omega) (by have := wosum_pos o 0 0; omega)
  obtain ⟨⟨x1, x2⟩, ⟨y1, y2⟩, hmid⟩ := umid HCR.out hcr2 HG1.out HG2.out HG3.out HG4.out hg.a1 hg.a2
  obtain ⟨u1, u2⟩ := ufst_ulst (crP 0 L n1) HG1.out.2.1
  have hpl := crP_len L 0 n1
  have hll3 : ((hh.map (cpl o)).filter fun y => !outs f' t' y).length ≤ 1000 := by
    have := List.length_filter_le (fun y => !outs f' t' y) (hh.map (cpl o))
    rw [List.length_map, HL.out] at this
    omega
  have hb3 : ∀ x ∈ (hh.map (cpl o)).filter (fun y => !outs f' t' y), (-100000000 ≤ x.1 ∧ x.1 ≤ 100000000) ∧ -100000000 ≤ x.2 ∧ x.2 ≤ 100000000 := fun x hx => by
    have := CrOk.each hcr2 x (List.mem_filter.1 hx).1
    omega
  have HIT : Hid (uitems (crP 0 L n1) (hh.map (cpl o)) f t f' t' = (crP 0 L n1).take (ufst (crP 0 L n1) f) ++ crP (wdsum 0 ((crP 0 L n1).take (ufst (crP 0 L n1) f))) ((hh.map (cpl o)).filter fun y => !outs f' t' y) (wdsum 0 ((crP 0 L n1).take (ulst (crP 0 L n1) t)) - t + t') ++ (crP 0 L n1).drop (ulst (crP 0 L n1) t)) := Lib.hid rfl
  have HGD := Lib.hid hg
  have hG4 := HG4.out
  have hG1 := HG1.out
  have hG2 := HG2.out
  obtain ⟨q, hq, hk⟩ := crkept HT1.out
  have CK := Lib.hid hk
  generalize (hh.map (cpl o)).filter (fun y => !outs f' t' y) = L3 at *
  generalize ufst (crP 0 L n1) f = ux at *
  generalize ulst (crP 0 L n1) t = uy at *
  generalize wdsum 0 ((crP 0 L n1).take ux) = fr at *
  generalize wdsum 0 ((crP 0 L n1).take uy) = tq at *
  have hok := crP_ok hmid x1 (by omega)
  have hml := crP_len L3 fr (tq - t + t')
  have CP := Lib.hid fun (A : Option Addr) (c : Nat) (n : Nat) (W : World) (hR : RowsAt wencS 2 W A L3) (hn : L3.length = n) => cPieces_any A n c L3 fr (tq - t + t') W hR hn (by omega) (by omega) (by omega) hb3
  generalize hPM : crP fr L3 (tq - t + t') = PM at *
  have CRP := Lib.hid fun (A : Option Addr) (c n : Nat) (W : World) (hW : Below W1.heap.size W1 W) (hA : ItsAt W A PM) (hn : PM.length = n) (hc : Caps A n c) => trepl_any q (crP 0 L n1) PM h ux uy A n c W (hq.below hW) u1 u2 hA hn hc (by omega) hok
  have w3' : IntKind.i64.wrap (tq - t) = tq - t := IntWalk.i64_in _ (by omega)
  have w4' : IntKind.i64.wrap (tq - t + t') = tq - t + t' := IntWalk.i64_in _ (by omega)
  have HL3 := Lib.hid (show L3.length ≤ 1000 from hll3)
  clear hmid hcr2 hg hb3 hok hml hpl hk hq hPM hll3 x1 x2 y1 y2 u1 u2 hG4 hG1 hG2 CAH CBH CH1 CH2 CA3 CA4 CS1 CS2 CZ CZW CSP
  have hW2 : Below W1.heap.size W1 w13.drew := HQ13.out.drew
  obtain ⟨A9, c9, e9, hR9, hl9, _⟩ := rows_of_own wencS_len (by omega) (own_below HO11.out (H12.out.trans ((Below.refl w13.heap.size w13).drew.mono H12.out.size)))
  cases e9
  have HR13 := Lib.hid hR9
  have HL13 := Lib.hid hl9
  clear hR9 hl9
  go_wp2_with fail
  refine wp_region_noPanic ?_
  refine wp_region_held_drew (S := (fun V => (V.cell? ⟨w.heap.size, 0, none⟩ = some (.int .i64 f) ∧ V.cell? ⟨w.heap.size, 1, none⟩ = some (.int .i64 t)) ∧ V.cell? ⟨w.heap.size + 1, 0, none⟩ = some (.int .i64 f') ∧ V.cell? ⟨w.heap.size + 1, 1, none⟩ = some (.int .i64 t'))) (by kernel_rfl) (MK.out _ hW2) (fun hHeld => ?_)
  refine wpAnyH_take (i := 0) (v := ?_) rfl (by kernel_rfl) (by kernel_rfl) (by kernel_rfl) (fun _ _ _ h => h) (Or.inl ⟨by rfl, ?_⟩) hHeld ?_
  rotate_left
  · intro w hSw; (try dsimp only at hSw); go_simp; try with_reducible rfl
  go_simp
  refine wpAnyH_take (i := 2) (v := ?_) rfl (by kernel_rfl) (by kernel_rfl) (by kernel_rfl) (fun _ _ _ h => h) (Or.inl ⟨by rfl, ?_⟩) hHeld ?_
  rotate_left
  · intro w hSw; (try dsimp only at hSw); go_simp; try with_reducible rfl
  go_simp
  refine wpAnyH_take (i := 3) (v := ?_) rfl (by kernel_rfl) (by kernel_rfl) (by kernel_rfl) (fun _ _ _ h => h) (Or.inl ⟨by rfl, ?_⟩) hHeld ?_
  rotate_left
  · intro w hSw; (try dsimp only at hSw); go_simp; try with_reducible rfl
  go_simp
  refine wpAnyH_take (i := 4) (v := ?_) rfl (by kernel_rfl) (by kernel_rfl) (by kernel_rfl) (fun _ _ _ h => h) (Or.inl ⟨by rfl, ?_⟩) hHeld ?_
  rotate_left
  · intro w hSw; (try dsimp only at hSw); go_simp; try with_reducible rfl
  go_simp
  refine wpAnyH_take (i := 5) (v := ?_) rfl (by kernel_rfl) (by kernel_rfl) (by kernel_rfl) (fun _ _ _ h => h) (Or.inl ⟨by rfl, ?_⟩) hHeld ?_
  rotate_left
  · intro w hSw; (try dsimp only at hSw); go_simp; try with_reducible rfl
  go_simp
  refine wpAnyH_take (i := 6) (v := ?_) rfl (by kernel_rfl) (by kernel_rfl) (by kernel_rfl) (fun _ _ _ h => h) (Or.inl ⟨by rfl, ?_⟩) hHeld ?_
  rotate_left
  · intro w hSw; (try dsimp only at hSw); go_simp; try with_reducible rfl
  go_simp
  refine wpAnyH_take (i := 7) (v := ?_) rfl (by kernel_rfl) (by kernel_rfl) (by kernel_rfl) (fun _ _ _ h => h) (Or.inl ⟨by rfl, ?_⟩) hHeld ?_
  rotate_left
  · intro w hSw; (try dsimp only at hSw); go_simp; try with_reducible rfl
  go_simp
  refine wpAnyH_take (i := 8) (v := ?_) rfl (by kernel_rfl) (by kernel_rfl) (by kernel_rfl) (fun _ _ _ h => h) (Or.inl ⟨by rfl, ?_⟩) hHeld ?_
  rotate_left
  · intro w hSw; (try dsimp only at hSw); go_simp; try with_reducible rfl
  go_simp
  refine wpAnyH_take (i := 9) (v := ?_) rfl (by kernel_rfl) (by kernel_rfl) (by kernel_rfl) (fun _ _ _ h => h) (Or.inl ⟨by rfl, ?_⟩) hHeld ?_
  rotate_left
  · intro w hSw; (try dsimp only at hSw); go_simp; try with_reducible rfl
  go_simp
  refine wpAnyH_take (i := 10) (v := ?_) rfl (by kernel_rfl) (by kernel_rfl) (by kernel_rfl) (fun _ _ _ h => h) (Or.inl ⟨by rfl, ?_⟩) hHeld ?_
  rotate_left
  · intro w hSw; (try dsimp only at hSw); go_simp; try with_reducible rfl
  go_simp
  refine wpAnyH_take (i := 11) (v := ?_) rfl (by kernel_rfl) (by kernel_rfl) (by kernel_rfl) (fun _ _ _ h => h) (Or.inl ⟨by rfl, ?_⟩) hHeld ?_
  rotate_left
  · intro w hSw; (try dsimp only at hSw); go_simp; try with_reducible rfl
  go_simp
  refine wpAnyH_take (i := 12) (v := ?_) rfl (by kernel_rfl) (by kernel_rfl) (by kernel_rfl) (fun _ _ _ h => h) (Or.inl ⟨by rfl, ?_⟩) hHeld ?_
  rotate_left
  · intro w hSw; (try dsimp only at hSw); go_simp; try with_reducible rfl
  go_simp
  refine wpAnyH_ready (rs := [1]) (by kernel_rfl) (by simp) ?_
  refine AllReadyH.cons rfl (fun K hK => ?_) ?_
  rotate_left
  · exact AllReadyH.nil
  go_simp
  go_wp2_with (first | (go_at_call 42; ((with_reducible refine (CK.out _ hW2).mono ?_); rintro e wK ⟨rfl, hwK⟩); have hwK := hwK.symm; subst hwK) | (go_at_call 33; ((with_reducible refine (CP.out A11 c11 m11 _ HR13.out HL13.out).mono ?_); rintro e wP ⟨vP, rfl, oP, bP⟩); obtain ⟨AP, cP, rfl, hRP, hlP, hcP⟩ := its_of_own (l := PM) oP; have hW2 := hW2.trans (bP.mono hW2.size); clear oP) | (go_at_call 43; ((with_reducible refine (CRP.out AP cP _ _ hW2 hRP rfl hcP).mono ?_); rintro e wR ⟨aR, hR, rfl, hTR, bR⟩); have hW2 := hW2.trans (bR.mono hW2.size)))
  refine hK.out _ _ (by with_reducible exact MK.out _ hW2) (fun hHeld => ?_)
  clear hK K
  go_simp
  refine wpAnyH_ready (rs := [13]) (by kernel_rfl) (by simp) ?_
  refine AllReadyH.cons rfl (fun K hK => ?_) ?_
  rotate_left
  · exact AllReadyH.nil
  go_simp
  go_wp2_with (first | (go_at_call 42; ((with_reducible refine (CK.out _ hW2).mono ?_); rintro e wK ⟨rfl, hwK⟩); have hwK := hwK.symm; subst hwK) | (go_at_call 33; ((with_reducible refine (CP.out A11 c11 m11 _ HR13.out HL13.out).mono ?_); rintro e wP ⟨vP, rfl, oP, bP⟩); obtain ⟨AP, cP, rfl, hRP, hlP, hcP⟩ := its_of_own (l := PM) oP; have hW2 := hW2.trans (bP.mono hW2.size); clear oP) | (go_at_call 43; ((with_reducible refine (CRP.out AP cP _ _ hW2 hRP rfl hcP).mono ?_); rintro e wR ⟨aR, hR, rfl, hTR, bR⟩); have hW2 := hW2.trans (bR.mono hW2.size)))
  refine hK.out _ _ (by with_reducible exact MK.out _ hW2) (fun hHeld => ?_)
  clear hK K
  go_simp
  refine wpAnyH_ready (rs := [14]) (by kernel_rfl) (by simp) ?_
  refine AllReadyH.cons rfl (fun K hK => ?_) ?_
  rotate_left
  · exact AllReadyH.nil
  go_simp
  go_wp2_with (first | (go_at_call 42; ((with_reducible refine (CK.out _ hW2).mono ?_); rintro e wK ⟨rfl, hwK⟩); have hwK := hwK.symm; subst hwK) | (go_at_call 33; ((with_reducible refine (CP.out A11 c11 m11 _ HR13.out HL13.out).mono ?_); rintro e wP ⟨vP, rfl, oP, bP⟩); obtain ⟨AP, cP, rfl, hRP, hlP, hcP⟩ := its_of_own (l := PM) oP; have hW2 := hW2.trans (bP.mono hW2.size); clear oP) | (go_at_call 43; ((with_reducible refine (CRP.out AP cP _ _ hW2 hRP rfl hcP).mono ?_); rintro e wR ⟨aR, hR, rfl, hTR, bR⟩); have hW2 := hW2.trans (bR.mono hW2.size)))
  refine hK.out _ _ (by with_reducible exact MK.out _ hW2) (fun hHeld => ?_)
  clear hK K
  go_simp
  refine wpAnyH_take (i := 15) (v := ?_) rfl (by kernel_rfl) (by kernel_rfl) (by kernel_rfl) (fun _ _ _ h => h) (Or.inl ⟨by rfl, ?_⟩) hHeld ?_
  rotate_left
  · intro w hSw; (try dsimp only at hSw); go_simp; try with_reducible rfl
  go_simp
  refine wpAnyH_take (i := 16) (v := ?_) rfl (by kernel_rfl) (by kernel_rfl) (by kernel_rfl) (fun _ _ _ h => h) (Or.inl ⟨by rfl, ?_⟩) hHeld ?_
  rotate_left
  · intro w hSw; (try dsimp only at hSw); go_simp; try with_reducible rfl
  go_simp
  refine wpAnyH_take (i := 17) (v := ?_) rfl (by kernel_rfl) (by kernel_rfl) (by kernel_rfl) (fun _ _ _ h => h) (Or.inl ⟨by rfl, ?_⟩) hHeld ?_
  rotate_left
  · intro w hSw; (try dsimp only at hSw); go_simp; try with_reducible rfl
  go_simp
  refine wpAnyH_take (i := 18) (v := ?_) rfl (by kernel_rfl) (by kernel_rfl) (by kernel_rfl) (fun _ _ _ h => h) (Or.inl ⟨by rfl, ?_⟩) hHeld ?_
  rotate_left
  · intro w hSw; (try dsimp only at hSw); go_simp; try with_reducible rfl
  go_simp
  refine wpAnyH_take (i := 19) (v := ?_) rfl (by kernel_rfl) (by kernel_rfl) (by kernel_rfl) (fun _ _ _ h => h) (Or.inl ⟨by rfl, ?_⟩) hHeld ?_
  rotate_left
  · intro w hSw; (try dsimp only at hSw); go_simp; try with_reducible rfl
  go_simp
  refine wpAnyH_done (by kernel_rfl) ?_ _
  refine NoPanic.normal ?_
  have HB5 := Lib.hid (X1.out.trans (hW2.mono X1.out.size))
  have x5 : Below wR.heap.size wR (wR.alloc (.cells #[.pointer (some aR)] 80)) := (Below.refl _ _).alloc (Nat.le_refl _) _
  have HF : Hid (CrAt (wR.alloc (.cells #[.pointer (some aR)] 80)) (some ⟨wR.heap.size, 0, none⟩) (uitems (crP 0 L n1) (hh.map (cpl o)) f t f' t') hR) := Lib.hid (by rw [HIT.out]; exact .inr ⟨wR.heap.size, some aR, rfl, heap_alloc_new wR _, hTR.below x5⟩)
  have HB6 := Lib.hid (HB5.out.trans (x5.mono HB5.out.size))
  clear hTR hW2 MK x5 bR bP
  go_wp2
  go_ret2
  exact ⟨.inr ⟨HGD.out, _, hR, rfl, HF.out⟩, HB6.out⟩
end Go.Proofs.YtjkmkobnfhepaaaGreat
