/- The walk of the law PatchTurns. -/
import Derived.Test.YthbhjecfiiknaaaPtR
namespace Go.Proofs.Ythbhjecfiiknaaa
open Go.RowKit
set_option linter.unusedVariables false
set_option maxHeartbeats 4000000 in
set_option maxRecDepth 100000 in
theorem sm_mem {l : List Ch} (h : SmP l) : ∀ c ∈ l, (0 ≤ c.oa ∧ c.oa ≤ c.ob ∧ c.ob ≤ M40) ∧ 0 ≤ c.na ∧ c.na ≤ c.nb ∧ c.nb ≤ M40 := nrm_mem h.2.1
theorem cmp_bd {B : Int} {a b : List Ch} (hB : 0 ≤ B) (hB2 : 2 * B ≤ M40) (ha : nrm B 0 0 true a) (hb : nrm B 0 0 true b) : nrm M40 0 0 true (cmp LL a b) := nrm_mono hB2 (cmp_nrm hB (by decide) ha hb)
theorem not_far {l : List Ch} (h : nrm M40 0 0 true l) : ¬ isFar l := fun ⟨h1, h2⟩ => by
  have := nrm_bd h _ (cth_mem (show l.length - 1 < l.length by omega))
  omega
theorem cmp_len (a b : List Ch) : (cmp LL a b).length ≤ a.length + b.length + 2 := by
  have h1 := chg_len 0 0 (inter (pcs LL 0 0 a) (pcs LL 0 0 b))
  have h2 := inter_len (pcs LL 0 0 a) (pcs LL 0 0 b)
  have h3 := pcs_len LL 0 0 a
  have h4 := pcs_len LL 0 0 b
  unfold cmp
  omega
/-- Compose, where all is small. -/
theorem pCompose_small {A B : Option Addr} {ma ca mb cb : Nat} {a b : List Ch} {w : World} (hA : ChsAt w A a) (hBs : ChsAt w B b) (hla : a.length = ma) (hma : ma ≤ 100000) (hlb : b.length = mb) (hmb : mb ≤ 100000) {K : Int} (hK : 0 ≤ K) (hK2 : 2 * K ≤ M40) (hna : nrm K 0 0 true a) (hnb : nrm K 0 0 true b) :
    Calls Try.prog 21 #[.slice A ma ca, .slice B mb cb] w fun e w' => ∃ A' n' c', e = .returned (.tuple #[.slice A' n' c', .int .i64 0]) ∧ ChsAt w' A' (cmp LL a b) ∧ (cmp LL a b).length = n' ∧ Below w.heap.size w w' := by
  refine (pCompose_yes hA hBs hla hma hlb hmb (nrm_mono (by omega) hna) (nrm_mono (by omega) hnb)).mono ?_
  rintro e w' ⟨A', n', c', er, rfl, hb, h⟩
  rcases h with ⟨_, hf, _⟩ | ⟨rfl, _, h1, h2, _⟩
  · exact absurd hf (not_far (cmp_bd hK hK2 hna hnb))
  · exact ⟨A', n', c', rfl, h1, h2, hb⟩
set_option maxHeartbeats 4000000 in
set_option maxRecDepth 100000 in
theorem patchTurns_walk (A : Option Addr) (n c : Nat) (l : List Ch) (at_ : Int) (w : World) (hI : ChsAt w A l) (hl : l.length = n) (_hn : n ≤ maxLen) (_hc : Caps A n c) (_w1 : Lit.wf (.int .i64 at_)) :
    Calls Try.prog 7 #[.slice A n c, .int .i64 at_] w fun e w' => e = .returned (.bool true) ∧ Below w.heap.size w w' := by
  have CT := Lib.hid fun W => ptwo_any W
  clear _hn _hc _w1
  by_cases hsm : SmP l
  · have CS := Lib.hid (psmall_any A n c l w hI hl true ⟨fun _ => hsm, fun _ => rfl⟩)
    by_cases h0 : at_ < 0
    · have k1 : decide (at_ < 0) = true := decide_eq_true h0
      clear hI hl hsm
      go_enter Try.func7, Try.ntmps7
      go_wp2_with fail
      with_reducible refine (CS.out ).mono ?_
      rintro e1 w1 ⟨rfl, h1⟩
      have q1 := h1
      go_wp2_with fail
      with_reducible refine (CT.out _).mono ?_
      rintro e2 w2 ⟨rfl, h2⟩
      have q2 := q1.trans (h2.mono q1.size)
      go_wp2
      go_ret
      exact ⟨rfl, q2⟩
    · have k1 : decide (at_ < 0) = false := decide_eq_false h0
      by_cases h3 : 3000 < at_
      · have k2 : decide (3000 < at_) = true := decide_eq_true h3
        clear hI hl hsm
        go_enter Try.func7, Try.ntmps7
        go_wp2_with fail
        with_reducible refine (CS.out ).mono ?_
        rintro e1 w1 ⟨rfl, h1⟩
        have q1 := h1
        go_wp2_with fail
        with_reducible refine (CT.out _).mono ?_
        rintro e2 w2 ⟨rfl, h2⟩
        have q2 := q1.trans (h2.mono q1.size)
        go_wp2
        go_ret
        exact ⟨rfl, q2⟩
      · have k2 : decide (3000 < at_) = false := decide_eq_false h3
        have hn60 : n ≤ 60 := by have := hsm.1; omega
        have hni := cinv_nrm hsm.nrm
        have CI := Lib.hid fun (W : World) (hW : Below w.heap.size w W) => pInvert_any A n c l W (hI.below hW) hl (by omega)
        have CC := Lib.hid fun (A' : Option Addr) (c' : Nat) (W : World) (hW : Below w.heap.size w W) (hJ : ChsAt W A' (cinv l)) => pCompose_small (ca := c) (cb := c') (hI.below hW) hJ hl (by omega) (show (cinv l).length = n by unfold cinv; rw [List.length_map]; exact hl) (by omega) (K := 2000) (by decide) (by decide) hsm.nrm hni
        have CP := Lib.hid fun (A' : Option Addr) (c' : Nat) (W : World) (hJ : ChsAt W A' (cinv l)) => pNormal_any A' n c' (cinv l) W true hJ (show (cinv l).length = n by unfold cinv; rw [List.length_map]; exact hl) (by omega) ⟨fun _ => nrm_mono (by decide) hni, fun _ => rfl⟩
        have CJ := Lib.hid fun (A' : Option Addr) (c' : Nat) (W : World) (hJ : ChsAt W A' (cinv l)) => (by
          have := pInvert_any A' n c' (cinv l) W hJ (show (cinv l).length = n by unfold cinv; rw [List.length_map]; exact hl) (by omega)
          rwa [cinv_cinv] at this : Calls Try.prog 25 #[.slice A' n c'] W fun e w' => ∃ A' c', e = .returned (.slice A' n c') ∧ ChsAt w' A' l ∧ Caps A' n c' ∧ Below W.heap.size W w')
        have CR := Lib.hid fun (A' : Option Addr) (c' : Nat) (W : World) (hJ : ChsAt W A' l) => refs_any A' n c' l W hJ hl (by omega)
        have CE := Lib.hid fun (A' B' : Option Addr) (c' d' : Nat) (W : World) (hJ : ChsAt W A' l) (hK : ChsAt W B' l) => psame_any A' B' n c' d' l W hJ hK hl (by omega)
        have CD := Lib.hid fun (W : World) (hW : Below w.heap.size w W) => pDelta_any A n c l W (hI.below hW) hl (by omega) (sm_mem hsm)
        have CD2 := Lib.hid fun (A' : Option Addr) (c' : Nat) (W : World) (hJ : ChsAt W A' (cinv l)) => (by
          have := pDelta_any A' n c' (cinv l) W hJ (show (cinv l).length = n by unfold cinv; rw [List.length_map]; exact hl) (by omega) (nrm_mem (nrm_mono (show (2000 : Int) ≤ M40 by decide) hni))
          rwa [dlt_inv] at this : Calls Try.prog 20 #[.slice A' n c'] W fun e w' => e = .returned (.int .i64 (0 - dlt l)) ∧ Below W.heap.size W w')
        have CK := Lib.hid fun (A' : Option Addr) (c' : Nat) (W : World) (hJ : ChsAt W A' l) => rKept_any A' n c' l at_ W hJ hl (by omega) (sm_mem hsm) (by omega) (by omega)
        have CK2 := Lib.hid fun (A' : Option Addr) (n' c' : Nat) (W : World) (hJ : ChsAt W A' (cmp LL l (cinv l))) (hn' : (cmp LL l (cinv l)).length = n') => (by
          have hln := cmp_len l (cinv l)
          have hli : (cinv l).length = n := by unfold cinv; rw [List.length_map]; exact hl
          have := rKept_any A' n' c' (cmp LL l (cinv l)) at_ W hJ hn' (by omega) (nrm_mem (cmp_bd (by decide) (by decide) hsm.nrm hni)) (by omega) (by omega)
          rwa [turn_kp (B := 2000) (by decide) (by decide) hsm.nrm (by omega) (by omega)] at this : Calls Try.prog 24 #[.slice A' n' c', .int .i64 at_] W fun e w' => e = .returned (.int .i64 (if kp 0 0 l at_ < 0 then -1 else at_)) ∧ Below W.heap.size W w')
        have CR2 := Lib.hid fun (A' : Option Addr) (n' c' : Nat) (W : World) (hJ : ChsAt W A' (cmp LL l (cinv l))) (hn' : (cmp LL l (cinv l)).length = n') => refs_any A' n' c' (cmp LL l (cinv l)) W hJ hn' (by
          have hln := cmp_len l (cinv l)
          have hli : (cinv l).length = n := by unfold cinv; rw [List.length_map]; exact hl
          omega)
        have hdl : -1099511627776000 ≤ dlt l ∧ dlt l ≤ 1099511627776000 := by
          have h1 := dlt_bd (K := 1099511627776) (by decide) (l := l) (fun c hc => by
            obtain ⟨⟨a1, a2, a3⟩, a4, a5, a6⟩ := sm_mem hsm c hc
            unfold M40 at a3 a6
            omega)
          omega
        obtain ⟨md, hmd⟩ : ∃ md, md = 0 - dlt l := ⟨_, rfl⟩
        have wz : IntKind.i64.wrap (0 - dlt l) = md := by rw [hmd]; exact IntWalk.i64_in _ (by omega)
        have wz2 : IntKind.i64.wrap (-dlt l) = md := by rw [show -dlt l = 0 - dlt l from by omega, hmd]; exact IntWalk.i64_in _ (by omega)
        rw [← hmd] at CD2
        clear hmd
        have HI := Lib.hid hI
        clear hI hl hsm hni hdl
        generalize cmp LL l (cinv l) = lc at *
        generalize dlt l = dl at *
        generalize kp 0 0 l at_ = kv at *
        have ha0 : 0 ≤ at_ := by omega
        obtain ⟨kv2, hkv2⟩ : ∃ x, x = if kv < 0 then -1 else at_ := ⟨_, rfl⟩
        rw [← hkv2] at CK2
        have HK2 := Lib.hid hkv2
        clear hkv2
        have b1 : (md != md) = false := by simp
        by_cases gk : kv < 0
        · have e2 : kv2 = -1 := by rw [HK2.out, if_pos gk]
          subst e2
          have y1 : decide (0 ≤ kv) = false := decide_eq_false (by omega)
          go_enter Try.func7, Try.ntmps7
          go_wp2_with fail
          with_reducible refine (CS.out ).mono ?_
          rintro e1 w1 ⟨rfl, h1⟩
          have q1 := h1
          go_wp2_with fail
          with_reducible refine (CI.out _ q1).mono ?_
          rintro e2 w2 ⟨A2, c2, rfl, hJ2, _, h2⟩
          have q2 := q1.trans (h2.mono q1.size)
          have J2 := Lib.hid hJ2
          go_wp2_with fail
          with_reducible refine (CC.out A2 c2 _ q2 hJ2).mono ?_
          rintro e3 w3 ⟨A3, n3, c3, rfl, hJ3, hn3, h3⟩
          have q3 := q2.trans (h3.mono q2.size)
          have J3 := Lib.hid hJ3
          have N3 := Lib.hid hn3
          clear hJ2 hJ3 hn3
          have p3 := J2.out.below h3
          go_wp2_with fail
          with_reducible refine (CP.out A2 c2 _ p3).mono ?_
          rintro e4 w4 ⟨rfl, h4⟩
          have q4 := q3.trans (h4.mono q3.size)
          have p4 := p3.below h4
          go_wp2_with fail
          with_reducible refine (CJ.out A2 c2 _ p4).mono ?_
          rintro e5 w5 ⟨A5, c5, rfl, hJ5, _, h5⟩
          have q5 := q4.trans (h5.mono q4.size)
          have p5 := p4.below h5
          go_wp2_with fail
          with_reducible refine (CR.out A5 c5 _ hJ5).mono ?_
          rintro e6 w6 ⟨A6, c6, rfl, hJ6, _, h6⟩
          have q6 := q5.trans (h6.mono q5.size)
          have p6 := p5.below h6
          go_wp2_with fail
          with_reducible refine (CR.out A c _ (HI.out.below q6)).mono ?_
          rintro e7 w7 ⟨A7, c7, rfl, hJ7, _, h7⟩
          have q7 := q6.trans (h7.mono q6.size)
          have p7 := p6.below h7
          go_wp2_with fail
          with_reducible refine (CE.out A6 A7 c6 c7 _ (hJ6.below h7) hJ7).mono ?_
          rintro e8 w8 ⟨rfl, h8⟩
          have q8 := q7.trans (h8.mono q7.size)
          have p8 := p7.below h8
          clear hJ5 hJ6 hJ7
          go_wp2_with fail
          with_reducible refine (CD2.out A2 c2 _ p8).mono ?_
          rintro e9 w9 ⟨rfl, h9⟩
          have q9 := q8.trans (h9.mono q8.size)
          have p9 := p8.below h9
          go_wp2_with fail
          with_reducible refine (CD.out _ q9).mono ?_
          rintro e10 w10 ⟨rfl, h10⟩
          have q10 := q9.trans (h10.mono q9.size)
          go_wp2_with fail
          with_reducible refine (CR.out A c _ (HI.out.below q10)).mono ?_
          rintro e11 w11 ⟨A11, c11, rfl, hJ11, _, h11⟩
          have q11 := q10.trans (h11.mono q10.size)
          go_wp2_with fail
          with_reducible refine (CK.out A11 c11 _ hJ11).mono ?_
          rintro e12 w12 ⟨rfl, h12⟩
          have q12 := q11.trans (h12.mono q11.size)
          have p12 := (J3.out.below (h4.trans (h5.mono h4.size))).below (Below.refl _ _)
          have z12 : ChsAt w12 A3 lc := ((((((((J3.out.below h4).below h5).below h6).below h7).below h8).below h9).below h10).below h11).below h12
          clear p12 hJ11
          go_wp2_with fail
          with_reducible refine (CR2.out A3 n3 c3 _ z12 N3.out).mono ?_
          rintro e13 w13 ⟨A13, c13, rfl, hJ13, _, h13⟩
          have q13 := q12.trans (h13.mono q12.size)
          go_wp2_with fail
          with_reducible refine (CK2.out A13 n3 c13 _ hJ13 N3.out).mono ?_
          rintro e14 w14 ⟨rfl, h14⟩
          have q14 := q13.trans (h14.mono q13.size)
          clear hJ13 z12 p3 p4 p5 p6 p7 p8 p9
          go_wp2_with fail
          with_reducible refine (CT.out _).mono ?_
          rintro e15 w15 ⟨rfl, h15⟩
          have q15 := q14.trans (h15.mono q14.size)
          go_wp2
          go_ret
          exact ⟨rfl, q15⟩
        · have e2 : kv2 = at_ := by rw [HK2.out, if_neg gk]
          subst e2
          have y1 : decide (0 ≤ kv) = true := decide_eq_true (by omega)
          have y2 : decide (0 ≤ kv2) = true := decide_eq_true (by omega)
          go_enter Try.func7, Try.ntmps7
          go_wp2_with fail
          with_reducible refine (CS.out ).mono ?_
          rintro e1 w1 ⟨rfl, h1⟩
          have q1 := h1
          go_wp2_with fail
          with_reducible refine (CI.out _ q1).mono ?_
          rintro e2 w2 ⟨A2, c2, rfl, hJ2, _, h2⟩
          have q2 := q1.trans (h2.mono q1.size)
          have J2 := Lib.hid hJ2
          go_wp2_with fail
          with_reducible refine (CC.out A2 c2 _ q2 hJ2).mono ?_
          rintro e3 w3 ⟨A3, n3, c3, rfl, hJ3, hn3, h3⟩
          have q3 := q2.trans (h3.mono q2.size)
          have J3 := Lib.hid hJ3
          have N3 := Lib.hid hn3
          clear hJ2 hJ3 hn3
          have p3 := J2.out.below h3
          go_wp2_with fail
          with_reducible refine (CP.out A2 c2 _ p3).mono ?_
          rintro e4 w4 ⟨rfl, h4⟩
          have q4 := q3.trans (h4.mono q3.size)
          have p4 := p3.below h4
          go_wp2_with fail
          with_reducible refine (CJ.out A2 c2 _ p4).mono ?_
          rintro e5 w5 ⟨A5, c5, rfl, hJ5, _, h5⟩
          have q5 := q4.trans (h5.mono q4.size)
          have p5 := p4.below h5
          go_wp2_with fail
          with_reducible refine (CR.out A5 c5 _ hJ5).mono ?_
          rintro e6 w6 ⟨A6, c6, rfl, hJ6, _, h6⟩
          have q6 := q5.trans (h6.mono q5.size)
          have p6 := p5.below h6
          go_wp2_with fail
          with_reducible refine (CR.out A c _ (HI.out.below q6)).mono ?_
          rintro e7 w7 ⟨A7, c7, rfl, hJ7, _, h7⟩
          have q7 := q6.trans (h7.mono q6.size)
          have p7 := p6.below h7
          go_wp2_with fail
          with_reducible refine (CE.out A6 A7 c6 c7 _ (hJ6.below h7) hJ7).mono ?_
          rintro e8 w8 ⟨rfl, h8⟩
          have q8 := q7.trans (h8.mono q7.size)
          have p8 := p7.below h8
          clear hJ5 hJ6 hJ7
          go_wp2_with fail
          with_reducible refine (CD2.out A2 c2 _ p8).mono ?_
          rintro e9 w9 ⟨rfl, h9⟩
          have q9 := q8.trans (h9.mono q8.size)
          have p9 := p8.below h9
          go_wp2_with fail
          with_reducible refine (CD.out _ q9).mono ?_
          rintro e10 w10 ⟨rfl, h10⟩
          have q10 := q9.trans (h10.mono q9.size)
          go_wp2_with fail
          with_reducible refine (CR.out A c _ (HI.out.below q10)).mono ?_
          rintro e11 w11 ⟨A11, c11, rfl, hJ11, _, h11⟩
          have q11 := q10.trans (h11.mono q10.size)
          go_wp2_with fail
          with_reducible refine (CK.out A11 c11 _ hJ11).mono ?_
          rintro e12 w12 ⟨rfl, h12⟩
          have q12 := q11.trans (h12.mono q11.size)
          have p12 := (J3.out.below (h4.trans (h5.mono h4.size))).below (Below.refl _ _)
          have z12 : ChsAt w12 A3 lc := ((((((((J3.out.below h4).below h5).below h6).below h7).below h8).below h9).below h10).below h11).below h12
          clear p12 hJ11
          go_wp2_with fail
          with_reducible refine (CR2.out A3 n3 c3 _ z12 N3.out).mono ?_
          rintro e13 w13 ⟨A13, c13, rfl, hJ13, _, h13⟩
          have q13 := q12.trans (h13.mono q12.size)
          go_wp2_with fail
          with_reducible refine (CK2.out A13 n3 c13 _ hJ13 N3.out).mono ?_
          rintro e14 w14 ⟨rfl, h14⟩
          have q14 := q13.trans (h14.mono q13.size)
          clear hJ13 z12 p3 p4 p5 p6 p7 p8 p9
          go_wp2_with fail
          with_reducible refine (CT.out _).mono ?_
          rintro e15 w15 ⟨rfl, h15⟩
          have q15 := q14.trans (h15.mono q14.size)
          go_wp2
          go_ret
          exact ⟨rfl, q15⟩
  · have CS := Lib.hid (psmall_any A n c l w hI hl false ⟨fun h => absurd h (by decide), fun h => absurd h hsm⟩)
    clear hI hl hsm
    go_enter Try.func7, Try.ntmps7
    go_wp2_with fail
    with_reducible refine (CS.out ).mono ?_
    rintro e1 w1 ⟨rfl, h1⟩
    have q1 := h1
    go_wp2_with fail
    with_reducible refine (CT.out _).mono ?_
    rintro e2 w2 ⟨rfl, h2⟩
    have q2 := q1.trans (h2.mono q1.size)
    go_wp2
    go_ret
    exact ⟨rfl, q2⟩
end Go.Proofs.Ythbhjecfiiknaaa
