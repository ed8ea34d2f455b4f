/- The walk of the law PatchComposes. -/
import Derived.Test.YthbhjecfiiknaaaPWTurns
import Derived.Test.YthbhjecfiiknaaaPtS
namespace Go.Proofs.Ythbhjecfiiknaaa
open Go.RowKit
set_option linter.unusedVariables false
set_option maxHeartbeats 4000000 in
set_option maxRecDepth 100000 in
theorem patchComposes_walk (A : Option Addr) (n c : Nat) (a : List Ch) (B : Option Addr) (m d : Nat) (b : List Ch) (w : World) (hI : ChsAt w A a) (hl : a.length = n) (_hn : n ≤ maxLen) (_hc : Caps A n c) (hJ : ChsAt w B b) (hm : b.length = m) (_hn2 : m ≤ maxLen) (_hc2 : Caps B m d) :
    Calls Try.prog 5 #[.slice A n c, .slice B m d] w fun e w' => e = .returned (.bool true) ∧ Below w.heap.size w w' := by
  have CT := Lib.hid fun W => ptwo_any W
  clear _hn _hc _hn2 _hc2
  by_cases h1 : 200 < n
  · have k1 : decide (200 < n) = true := decide_eq_true h1
    have k2 : decide ((200 : Int) < (n : Int)) = true := decide_eq_true (by omega)
    clear hI hl hJ hm
    go_enter Try.func5, Try.ntmps5
    go_wp2_with fail
    with_reducible refine (CT.out _).mono ?_
    rintro e1 w1 ⟨rfl, h1⟩
    have q1 := h1
    go_wp2
    go_ret
    exact ⟨rfl, q1⟩
  · have k1 : decide (200 < n) = false := decide_eq_false h1
    have k2 : decide ((200 : Int) < (n : Int)) = false := decide_eq_false (by omega)
    by_cases h2 : 200 < m
    · have k3 : decide (200 < m) = true := decide_eq_true h2
      have k4 : decide ((200 : Int) < (m : Int)) = true := decide_eq_true (by omega)
      clear hI hl hJ hm
      go_enter Try.func5, Try.ntmps5
      go_wp2_with fail
      with_reducible refine (CT.out _).mono ?_
      rintro e1 w1 ⟨rfl, h1⟩
      have q1 := h1
      go_wp2
      go_ret
      exact ⟨rfl, q1⟩
    · have k3 : decide (200 < m) = false := decide_eq_false h2
      have k4 : decide ((200 : Int) < (m : Int)) = false := decide_eq_false (by omega)
      have hn : n ≤ 100000 := by omega
      have hmm : m ≤ 100000 := by omega
      have CRA := Lib.hid fun (W : World) (hW : Below w.heap.size w W) => refs_any A n c a W (hI.below hW) hl (by omega)
      have CRB := Lib.hid fun (W : World) (hW : Below w.heap.size w W) => refs_any B m d b W (hJ.below hW) hm (by omega)
      by_cases na : nrm M40 0 0 true a
      · have CNA := Lib.hid fun (A' : Option Addr) (c' : Nat) (W : World) (hW : ChsAt W A' a) => rNormal_any A' n c' a W true hW hl (by omega) ⟨fun _ => na, fun _ => rfl⟩
        by_cases nb : nrm M40 0 0 true b
        · have CNB := Lib.hid fun (A' : Option Addr) (c' : Nat) (W : World) (hW : ChsAt W A' b) => rNormal_any A' m c' b W true hW hm (by omega) ⟨fun _ => nb, fun _ => rfl⟩
          by_cases sa : SmP a
          · have CA := Lib.hid fun (W : World) (hW : Below w.heap.size w W) => psmall_any A n c a W (hI.below hW) hl true ⟨fun _ => sa, fun _ => rfl⟩
            by_cases sb : SmP b
            · have CB := Lib.hid fun (W : World) (hW : Below w.heap.size w W) => psmall_any B m d b W (hJ.below hW) hm true ⟨fun _ => sb, fun _ => rfl⟩
              have CC := Lib.hid (pCompose_small (ca := c) (cb := d) hI hJ hl hn hm hmm (K := 2000) (by decide) (by decide) sa.nrm sb.nrm)
              have nx := cmp_bd (B := 2000) (by decide) (by decide) sa.nrm sb.nrm
              have lx : (cmp LL a b).length ≤ 200 := by have := cmp_len a b; have := sa.1; have := sb.1; omega
              have CR := Lib.hid fun (A' : Option Addr) (n' c' : Nat) (W : World) (hX : ChsAt W A' (cmp LL a b)) (hn' : (cmp LL a b).length = n') => refs_any A' n' c' _ W hX hn' (by omega)
              have CQ := Lib.hid fun (A' B' : Option Addr) (ca' cb' : Nat) (W : World) (hX : ChsAt W A' a) (hY : ChsAt W B' b) => rCompose_any A' B' n m ca' cb' a b W hX hY hl hm sa sb
              have CE := Lib.hid fun (A' B' : Option Addr) (n' c' d' : Nat) (W : World) (hX : ChsAt W A' (cmp LL a b)) (hY : ChsAt W B' (cmp LL a b)) (hn' : (cmp LL a b).length = n') => psame_any A' B' n' c' d' _ W hX hY hn' (by omega)
              have CP := Lib.hid fun (A' : Option Addr) (n' c' : Nat) (W : World) (hX : ChsAt W A' (cmp LL a b)) (hn' : (cmp LL a b).length = n') => pNormal_any A' n' c' _ W true hX hn' (by omega) ⟨fun _ => nx, fun _ => rfl⟩
              have CD := Lib.hid fun (A' : Option Addr) (n' c' : Nat) (W : World) (hX : ChsAt W A' (cmp LL a b)) (hn' : (cmp LL a b).length = n') => pDelta_any A' n' c' _ W hX hn' (by omega) (nrm_mem nx)
              rw [dlt_cmp (B := 2000) (L := LL) (by decide) (by decide) sa.nrm sb.nrm] at CD
              have CDA := Lib.hid fun (W : World) (hW : Below w.heap.size w W) => pDelta_any A n c a W (hI.below hW) hl (by omega) (sm_mem sa)
              have CDB := Lib.hid fun (W : World) (hW : Below w.heap.size w W) => pDelta_any B m d b W (hJ.below hW) hm (by omega) (sm_mem sb)
              have bd : ∀ l : List Ch, SmP l → -1099511627776000 ≤ dlt l ∧ dlt l ≤ 1099511627776000 := fun l hs => by
                have h1 := dlt_bd (K := 1099511627776) (by decide) (l := l) (fun c hc => by
                  obtain ⟨⟨a1, a2, a3⟩, a4, a5, a6⟩ := sm_mem hs c hc
                  unfold M40 at a3 a6
                  omega)
                have h2 := hs.1
                omega
              obtain ⟨ba1, ba2⟩ := bd a sa
              obtain ⟨bb1, bb2⟩ := bd b sb
              have wd : IntKind.i64.wrap (dlt a + dlt b) = dlt a + dlt b := IntWalk.i64_in _ (by omega)
              clear hI hl hJ hm na nb sa sb nx lx bd ba1 ba2 bb1 bb2 h1 h2 hn hmm
              generalize cmp LL a b = lc at *
              generalize dlt a = da at *
              generalize dlt b = db at *
              have b1 : (da + db == da + db) = true := by simp
              go_enter Try.func5, Try.ntmps5
              go_wp2_with fail
              with_reducible refine (CC.out ).mono ?_
              rintro e1 w1 ⟨A1, n1, c1, rfl, hJ1, hn1, h1⟩
              have q1 := h1
              have J1 := Lib.hid hJ1
              have N1 := Lib.hid hn1
              clear hJ1 hn1
              go_wp2_with fail
              with_reducible refine (CRA.out _ q1).mono ?_
              rintro e2 w2 ⟨A2, c2, rfl, hJ2, _, h2⟩
              have q2 := q1.trans (h2.mono q1.size)
              go_wp2_with fail
              with_reducible refine (CNA.out A2 c2 _ hJ2).mono ?_
              rintro e3 w3 ⟨rfl, h3⟩
              have q3 := q2.trans (h3.mono q2.size)
              clear hJ2
              go_wp2_with fail
              with_reducible refine (CRB.out _ q3).mono ?_
              rintro e4 w4 ⟨A4, c4, rfl, hJ4, _, h4⟩
              have q4 := q3.trans (h4.mono q3.size)
              go_wp2_with fail
              with_reducible refine (CNB.out A4 c4 _ hJ4).mono ?_
              rintro e5 w5 ⟨rfl, h5⟩
              have q5 := q4.trans (h5.mono q4.size)
              clear hJ4
              go_wp2_with fail
              with_reducible refine (CA.out _ q5).mono ?_
              rintro e6 w6 ⟨rfl, h6⟩
              have q6 := q5.trans (h6.mono q5.size)
              go_wp2_with fail
              with_reducible refine (CB.out _ q6).mono ?_
              rintro e7 w7 ⟨rfl, h7⟩
              have q7 := q6.trans (h7.mono q6.size)
              have p7 := (((((J1.out.below h2).below h3).below h4).below h5).below h6).below h7
              clear J1
              go_wp2_with fail
              with_reducible refine (CR.out A1 n1 c1 _ p7 N1.out).mono ?_
              rintro e8 w8 ⟨A8, c8, rfl, hJ8, _, h8⟩
              have q8 := q7.trans (h8.mono q7.size)
              have J8 := Lib.hid hJ8
              clear hJ8
              go_wp2_with fail
              with_reducible refine (CRA.out _ q8).mono ?_
              rintro e9 w9 ⟨A9, c9, rfl, hJ9, _, h9⟩
              have q9 := q8.trans (h9.mono q8.size)
              have J9 := Lib.hid hJ9
              clear hJ9
              go_wp2_with fail
              with_reducible refine (CRB.out _ q9).mono ?_
              rintro e10 w10 ⟨A10, c10, rfl, hJ10, _, h10⟩
              have q10 := q9.trans (h10.mono q9.size)
              go_wp2_with fail
              with_reducible refine (CQ.out A9 A10 c9 c10 _ (J9.out.below h10) hJ10).mono ?_
              rintro e11 w11 ⟨A11, c11, rfl, hJ11, h11⟩
              have q11 := q10.trans (h11.mono q10.size)
              clear hJ10
              have J11 := Lib.hid hJ11
              clear hJ11
              have n1e := N1.out
              subst n1e
              go_wp2_with fail
              with_reducible refine (CE.out A8 A11 _ c8 c11 _ (((J8.out.below h9).below h10).below h11) J11.out rfl).mono ?_
              rintro e12 w12 ⟨rfl, h12⟩
              have q12 := q11.trans (h12.mono q11.size)
              have p12 := ((((p7.below h8).below h9).below h10).below h11).below h12
              clear p7
              go_wp2_with fail
              with_reducible refine (CP.out A1 _ c1 _ p12 rfl).mono ?_
              rintro e13 w13 ⟨rfl, h13⟩
              have q13 := q12.trans (h13.mono q12.size)
              have p13 := p12.below h13
              clear p12
              go_wp2_with fail
              with_reducible refine (CD.out A1 _ c1 _ p13 rfl).mono ?_
              rintro e14 w14 ⟨rfl, h14⟩
              have q14 := q13.trans (h14.mono q13.size)
              go_wp2_with fail
              with_reducible refine (CDA.out _ q14).mono ?_
              rintro e15 w15 ⟨rfl, h15⟩
              have q15 := q14.trans (h15.mono q14.size)
              go_wp2_with fail
              with_reducible refine (CDB.out _ q15).mono ?_
              rintro e16 w16 ⟨rfl, h16⟩
              have q16 := q15.trans (h16.mono q15.size)
              go_wp2_with fail
              with_reducible refine (CT.out _).mono ?_
              rintro e17 w17 ⟨rfl, h17⟩
              have q17 := q16.trans (h17.mono q16.size)
              go_wp2
              go_ret
              exact ⟨rfl, q17⟩
            · have CB := Lib.hid fun (W : World) (hW : Below w.heap.size w W) => psmall_any B m d b W (hJ.below hW) hm false ⟨fun h => absurd h (by decide), fun h => absurd h sb⟩
              have CC := Lib.hid (pCompose_yes (ca := c) (cb := d) hI hJ hl hn hm hmm na nb)
              clear hI hl hJ hm na nb sa sb h1 h2 hn hmm
              go_enter Try.func5, Try.ntmps5
              go_wp2_with fail
              with_reducible refine CC.out.mono ?_
              rintro e1 w1 ⟨A1, n1, c1, er, rfl, h1, hor⟩
              rcases hor with ⟨rfl, _, rfl, rfl, rfl⟩ | ⟨rfl, _, _, _, _⟩
              all_goals
                go_wp2_with fail
                with_reducible refine (CRA.out _ h1).mono ?_
                rintro e2 w2 ⟨A2, c2, rfl, hJ2, _, h2⟩
                have q2 := h1.trans (h2.mono h1.size)
                go_wp2_with fail
                with_reducible refine (CNA.out A2 c2 _ hJ2).mono ?_
                rintro e3 w3 ⟨rfl, h3⟩
                have q3 := q2.trans (h3.mono q2.size)
                clear hJ2
                go_wp2_with fail
                with_reducible refine (CRB.out _ q3).mono ?_
                rintro e4 w4 ⟨A4, c4, rfl, hJ4, _, h4⟩
                have q4 := q3.trans (h4.mono q3.size)
                go_wp2_with fail
                with_reducible refine (CNB.out A4 c4 _ hJ4).mono ?_
                rintro e5 w5 ⟨rfl, h5⟩
                have q5 := q4.trans (h5.mono q4.size)
                clear hJ4
                go_wp2_with fail
                with_reducible refine (CA.out _ q5).mono ?_
                rintro e6 w6 ⟨rfl, h6⟩
                have q6 := q5.trans (h6.mono q5.size)
                go_wp2_with fail
                with_reducible refine (CB.out _ q6).mono ?_
                rintro e7 w7 ⟨rfl, h7⟩
                have q7 := q6.trans (h7.mono q6.size)
                go_wp2_with fail
                with_reducible refine (CT.out _).mono ?_
                rintro e8 w8 ⟨rfl, h8⟩
                have q8 := q7.trans (h8.mono q7.size)
                go_wp2
                go_ret
                exact ⟨rfl, q8⟩
          · have CA := Lib.hid fun (W : World) (hW : Below w.heap.size w W) => psmall_any A n c a W (hI.below hW) hl false ⟨fun h => absurd h (by decide), fun h => absurd h sa⟩
            have CC := Lib.hid (pCompose_yes (ca := c) (cb := d) hI hJ hl hn hm hmm na nb)
            clear hI hl hJ hm na nb sa h1 h2 hn hmm
            go_enter Try.func5, Try.ntmps5
            go_wp2_with fail
            with_reducible refine CC.out.mono ?_
            rintro e1 w1 ⟨A1, n1, c1, er, rfl, h1, hor⟩
            rcases hor with ⟨rfl, _, rfl, rfl, rfl⟩ | ⟨rfl, _, _, _, _⟩
            all_goals
              go_wp2_with fail
              with_reducible refine (CRA.out _ h1).mono ?_
              rintro e2 w2 ⟨A2, c2, rfl, hJ2, _, h2⟩
              have q2 := h1.trans (h2.mono h1.size)
              go_wp2_with fail
              with_reducible refine (CNA.out A2 c2 _ hJ2).mono ?_
              rintro e3 w3 ⟨rfl, h3⟩
              have q3 := q2.trans (h3.mono q2.size)
              clear hJ2
              go_wp2_with fail
              with_reducible refine (CRB.out _ q3).mono ?_
              rintro e4 w4 ⟨A4, c4, rfl, hJ4, _, h4⟩
              have q4 := q3.trans (h4.mono q3.size)
              go_wp2_with fail
              with_reducible refine (CNB.out A4 c4 _ hJ4).mono ?_
              rintro e5 w5 ⟨rfl, h5⟩
              have q5 := q4.trans (h5.mono q4.size)
              clear hJ4
              go_wp2_with fail
              with_reducible refine (CA.out _ q5).mono ?_
              rintro e6 w6 ⟨rfl, h6⟩
              have q6 := q5.trans (h6.mono q5.size)
              go_wp2_with fail
              with_reducible refine (CT.out _).mono ?_
              rintro e7 w7 ⟨rfl, h7⟩
              have q7 := q6.trans (h7.mono q6.size)
              go_wp2
              go_ret
              exact ⟨rfl, q7⟩
        · have CNB := Lib.hid fun (A' : Option Addr) (c' : Nat) (W : World) (hW : ChsAt W A' b) => rNormal_any A' m c' b W false hW hm (by omega) ⟨fun h => absurd h (by decide), fun h => absurd h nb⟩
          have CC := Lib.hid (pCompose_form (ca := c) (cb := d) hI hJ hl hn hm hmm (fun h => nb h.2))
          clear hI hl hJ hm na nb h1 h2 hn hmm
          go_enter Try.func5, Try.ntmps5
          go_wp2_with fail
          with_reducible refine (CC.out ).mono ?_
          rintro e1 w1 ⟨rfl, h1⟩
          have q1 := h1
          go_wp2_with fail
          with_reducible refine (CRA.out _ q1).mono ?_
          rintro e2 w2 ⟨A2, c2, rfl, hJ2, _, h2⟩
          have q2 := q1.trans (h2.mono q1.size)
          go_wp2_with fail
          with_reducible refine (CNA.out A2 c2 _ hJ2).mono ?_
          rintro e3 w3 ⟨rfl, h3⟩
          have q3 := q2.trans (h3.mono q2.size)
          clear hJ2
          go_wp2_with fail
          with_reducible refine (CRB.out _ q3).mono ?_
          rintro e4 w4 ⟨A4, c4, rfl, hJ4, _, h4⟩
          have q4 := q3.trans (h4.mono q3.size)
          go_wp2_with fail
          with_reducible refine (CNB.out A4 c4 _ hJ4).mono ?_
          rintro e5 w5 ⟨rfl, h5⟩
          have q5 := q4.trans (h5.mono q4.size)
          clear hJ4
          go_wp2_with fail
          with_reducible refine (CT.out _).mono ?_
          rintro e6 w6 ⟨rfl, h6⟩
          have q6 := q5.trans (h6.mono q5.size)
          go_wp2
          go_ret
          exact ⟨rfl, q6⟩
      · have CNA := Lib.hid fun (A' : Option Addr) (c' : Nat) (W : World) (hW : ChsAt W A' a) => rNormal_any A' n c' a W false hW hl (by omega) ⟨fun h => absurd h (by decide), fun h => absurd h na⟩
        have CC := Lib.hid (pCompose_form (ca := c) (cb := d) hI hJ hl hn hm hmm (fun h => na h.1))
        clear hI hl hJ hm na h1 h2 hn hmm
        go_enter Try.func5, Try.ntmps5
        go_wp2_with fail
        with_reducible refine (CC.out ).mono ?_
        rintro e1 w1 ⟨rfl, h1⟩
        have q1 := h1
        go_wp2_with fail
        with_reducible refine (CRA.out _ q1).mono ?_
        rintro e2 w2 ⟨A2, c2, rfl, hJ2, _, h2⟩
        have q2 := q1.trans (h2.mono q1.size)
        go_wp2_with fail
        with_reducible refine (CNA.out A2 c2 _ hJ2).mono ?_
        rintro e3 w3 ⟨rfl, h3⟩
        have q3 := q2.trans (h3.mono q2.size)
        clear hJ2
        go_wp2_with fail
        with_reducible refine (CT.out _).mono ?_
        rintro e4 w4 ⟨rfl, h4⟩
        have q4 := q3.trans (h4.mono q3.size)
        go_wp2
        go_ret
        exact ⟨rfl, q4⟩
end Go.Proofs.Ythbhjecfiiknaaa
