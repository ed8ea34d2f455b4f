/- The walk of the law PatchBoth. -/
import Derived.Test.YthbhjecfiiknaaaPWTurns
namespace Go.Proofs.Ythbhjecfiiknaaa
open Go.RowKit
set_option linter.unusedVariables false
set_option maxHeartbeats 4000000 in
set_option maxRecDepth 100000 in
theorem patchBoth_walk (A : Option Addr) (n c : Nat) (a : List Ch) (B : Option Addr) (m d : Nat) (b : List Ch) (at_ : Int) (w : World) (hI : ChsAt w A a) (hl : a.length = n) (_hn : n ≤ maxLen) (_hc : Caps A n c) (hJ : ChsAt w B b) (hm : b.length = m) (_hn2 : m ≤ maxLen) (_hc2 : Caps B m d) (_w1 : Lit.wf (.int .i64 at_)) :
    Calls Try.prog 6 #[.slice A n c, .slice B m d, .int .i64 at_] w fun e w' => e = .returned (.bool true) ∧ Below w.heap.size w w' := by
  have CT := Lib.hid fun W => ptwo_any W
  clear _hn _hc _hn2 _hc2 _w1
  by_cases sa : SmP a
  · have CA := Lib.hid (psmall_any A n c a w hI hl true ⟨fun _ => sa, fun _ => rfl⟩)
    by_cases sb : SmP b
    · have CB := Lib.hid fun (W : World) (hW : Below w.heap.size w W) => psmall_any B m d b W (hJ.below hW) hm true ⟨fun _ => sb, fun _ => rfl⟩
      by_cases h0 : at_ < 0
      · have k1 : decide (at_ < 0) = true := decide_eq_true h0
        clear hI hl hJ hm sa sb
        go_enter Try.func6, Try.ntmps6
        go_wp2_with fail
        with_reducible refine (CA.out ).mono ?_
        rintro e1 w1 ⟨rfl, h1⟩
        have q1 := h1
        go_wp2_with fail
        with_reducible refine (CB.out _ q1).mono ?_
        rintro e2 w2 ⟨rfl, h2⟩
        have q2 := q1.trans (h2.mono q1.size)
        go_wp2_with fail
        with_reducible refine (CT.out _).mono ?_
        rintro e3 w3 ⟨rfl, h3⟩
        have q3 := q2.trans (h3.mono q2.size)
        go_wp2
        go_ret
        exact ⟨rfl, q3⟩
      · have k1 : decide (at_ < 0) = false := decide_eq_false h0
        by_cases h3 : 3000 < at_
        · have k2 : decide (3000 < at_) = true := decide_eq_true h3
          clear hI hl hJ hm sa sb
          go_enter Try.func6, Try.ntmps6
          go_wp2_with fail
          with_reducible refine (CA.out ).mono ?_
          rintro e1 w1 ⟨rfl, h1⟩
          have q1 := h1
          go_wp2_with fail
          with_reducible refine (CB.out _ q1).mono ?_
          rintro e2 w2 ⟨rfl, h2⟩
          have q2 := q1.trans (h2.mono q1.size)
          go_wp2_with fail
          with_reducible refine (CT.out _).mono ?_
          rintro e3 w3 ⟨rfl, h3⟩
          have q3 := q2.trans (h3.mono q2.size)
          go_wp2
          go_ret
          exact ⟨rfl, q3⟩
        · have k2 : decide (3000 < at_) = false := decide_eq_false h3
          have hn60 : n ≤ 60 := by have := sa.1; omega
          have hm60 : m ≤ 60 := by have := sb.1; omega
          have CC := Lib.hid fun (W : World) (hW : Below w.heap.size w W) => pCompose_small (ca := c) (cb := d) (hI.below hW) (hJ.below hW) hl (by omega) hm (by omega) (K := 2000) (by decide) (by decide) sa.nrm sb.nrm
          have CRA := Lib.hid fun (W : World) (hW : Below w.heap.size w W) => refs_any A n c a W (hI.below hW) hl (by omega)
          have CRB := Lib.hid fun (W : World) (hW : Below w.heap.size w W) => refs_any B m d b W (hJ.below hW) hm (by omega)
          have CK := Lib.hid fun (A' : Option Addr) (c' : Nat) (W : World) (hJ : ChsAt W A' a) => rKept_any A' n c' a at_ W hJ hl (by omega) (sm_mem sa) (by omega) (by omega)
          have hkf := kp_form sa.nrm (Int.le_refl _) (by decide) (Int.le_refl _) (by decide) at_
          have hkb : -10000000000000 ≤ kp 0 0 a at_ ∧ kp 0 0 a at_ ≤ 10000000000000 := by
            rcases hkf with h | ⟨y, z, e1, e2, e3, e4, e5, _⟩ <;> omega
          have CK2 := Lib.hid fun (A' : Option Addr) (c' : Nat) (W : World) (hJ : ChsAt W A' b) => rKept_any A' m c' b (kp 0 0 a at_) W hJ hm (by omega) (sm_mem sb) hkb.1 hkb.2
          have CR3 := Lib.hid fun (A' : Option Addr) (n' c' : Nat) (W : World) (hJ : ChsAt W A' (cmp LL a b)) (hn' : (cmp LL a b).length = n') => refs_any A' n' c' (cmp LL a b) W hJ hn' (by have hln := cmp_len a b; omega)
          have CK3 := Lib.hid fun (A' : Option Addr) (n' c' : Nat) (W : World) (hJ : ChsAt W A' (cmp LL a b)) (hn' : (cmp LL a b).length = n') => (by
            have hln := cmp_len a b
            have := rKept_any A' n' c' (cmp LL a b) at_ W hJ hn' (by omega) (nrm_mem (cmp_bd (by decide) (by decide) sa.nrm sb.nrm)) (by omega) (by omega)
            rwa [cmp_kp (B := 2000) (by decide) (by decide) sa.nrm sb.nrm (by omega) (by omega)] at this : Calls Try.prog 24 #[.slice A' n' c', .int .i64 at_] W fun e w' => e = .returned (.int .i64 (if kp 0 0 a at_ < 0 then -1 else kp 0 0 b (kp 0 0 a at_))) ∧ Below W.heap.size W w')
          clear hI hl hJ hm sa sb hkf hkb
          generalize cmp LL a b = lc at *
          generalize kp 0 0 a at_ = kv at *
          generalize kp 0 0 b kv = kt at *
          by_cases gk : kv < 0
          · have y1 : decide (0 ≤ kv) = false := decide_eq_false (by omega)
            rw [if_pos gk] at CK3
            go_enter Try.func6, Try.ntmps6
            go_wp2_with fail
            with_reducible refine (CA.out ).mono ?_
            rintro e1 w1 ⟨rfl, h1⟩
            have q1 := h1
            go_wp2_with fail
            with_reducible refine (CB.out _ q1).mono ?_
            rintro e2 w2 ⟨rfl, h2⟩
            have q2 := q1.trans (h2.mono q1.size)
            go_wp2_with fail
            with_reducible refine (CC.out _ q2).mono ?_
            rintro e3 w3 ⟨A3, n3, c3, rfl, hJ3, hn3, h3⟩
            have q3 := q2.trans (h3.mono q2.size)
            have J3 := Lib.hid hJ3
            have N3 := Lib.hid hn3
            clear hJ3 hn3
            go_wp2_with fail
            with_reducible refine (CRA.out _ q3).mono ?_
            rintro e4 w4 ⟨A4, c4, rfl, hJ4, _, h4⟩
            have q4 := q3.trans (h4.mono q3.size)
            go_wp2_with fail
            with_reducible refine (CK.out A4 c4 _ hJ4).mono ?_
            rintro e5 w5 ⟨rfl, h5⟩
            have q5 := q4.trans (h5.mono q4.size)
            clear hJ4
            have z5 := (J3.out.below h4).below h5
            go_wp2_with fail
            with_reducible refine (CR3.out A3 n3 c3 _ z5 N3.out).mono ?_
            rintro e6 w6 ⟨A6, c6, rfl, hJ6, _, h6⟩
            have q6 := q5.trans (h6.mono q5.size)
            go_wp2_with fail
            with_reducible refine (CK3.out A6 n3 c6 _ hJ6 N3.out).mono ?_
            rintro e7 w7 ⟨rfl, h7⟩
            have q7 := q6.trans (h7.mono q6.size)
            clear hJ6 z5
            go_wp2_with fail
            with_reducible refine (CT.out _).mono ?_
            rintro e8 w8 ⟨rfl, h8⟩
            have q8 := q7.trans (h8.mono q7.size)
            go_wp2
            go_ret
            exact ⟨rfl, q8⟩
          · have y1 : decide (0 ≤ kv) = true := decide_eq_true (by omega)
            rw [if_neg gk] at CK3
            go_enter Try.func6, Try.ntmps6
            go_wp2_with fail
            with_reducible refine (CA.out ).mono ?_
            rintro e1 w1 ⟨rfl, h1⟩
            have q1 := h1
            go_wp2_with fail
            with_reducible refine (CB.out _ q1).mono ?_
            rintro e2 w2 ⟨rfl, h2⟩
            have q2 := q1.trans (h2.mono q1.size)
            go_wp2_with fail
            with_reducible refine (CC.out _ q2).mono ?_
            rintro e3 w3 ⟨A3, n3, c3, rfl, hJ3, hn3, h3⟩
            have q3 := q2.trans (h3.mono q2.size)
            have J3 := Lib.hid hJ3
            have N3 := Lib.hid hn3
            clear hJ3 hn3
            go_wp2_with fail
            with_reducible refine (CRA.out _ q3).mono ?_
            rintro e4 w4 ⟨A4, c4, rfl, hJ4, _, h4⟩
            have q4 := q3.trans (h4.mono q3.size)
            go_wp2_with fail
            with_reducible refine (CK.out A4 c4 _ hJ4).mono ?_
            rintro e5 w5 ⟨rfl, h5⟩
            have q5 := q4.trans (h5.mono q4.size)
            clear hJ4
            go_wp2_with fail
            with_reducible refine (CRB.out _ q5).mono ?_
            rintro e6 w6 ⟨A6, c6, rfl, hJ6, _, h6⟩
            have q6 := q5.trans (h6.mono q5.size)
            go_wp2_with fail
            with_reducible refine (CK2.out A6 c6 _ hJ6).mono ?_
            rintro e7 w7 ⟨rfl, h7⟩
            have q7 := q6.trans (h7.mono q6.size)
            clear hJ6
            have z7 := (((J3.out.below h4).below h5).below h6).below h7
            go_wp2_with fail
            with_reducible refine (CR3.out A3 n3 c3 _ z7 N3.out).mono ?_
            rintro e8 w8 ⟨A8, c8, rfl, hJ8, _, h8⟩
            have q8 := q7.trans (h8.mono q7.size)
            go_wp2_with fail
            with_reducible refine (CK3.out A8 n3 c8 _ hJ8 N3.out).mono ?_
            rintro e9 w9 ⟨rfl, h9⟩
            have q9 := q8.trans (h9.mono q8.size)
            clear hJ8 z7
            go_wp2_with fail
            with_reducible refine (CT.out _).mono ?_
            rintro e10 w10 ⟨rfl, h10⟩
            have q10 := q9.trans (h10.mono q9.size)
            go_wp2
            go_ret
            exact ⟨rfl, q10⟩
    · have CB := Lib.hid fun (W : World) (hW : Below w.heap.size w W) => psmall_any B m d b W (hJ.below hW) hm false ⟨fun h => absurd h (by decide), fun h => absurd h sb⟩
      clear hI hl hJ hm sa sb
      go_enter Try.func6, Try.ntmps6
      go_wp2_with fail
      with_reducible refine (CA.out ).mono ?_
      rintro e1 w1 ⟨rfl, h1⟩
      have q1 := h1
      go_wp2_with fail
      with_reducible refine (CB.out _ q1).mono ?_
      rintro e2 w2 ⟨rfl, h2⟩
      have q2 := q1.trans (h2.mono q1.size)
      go_wp2_with fail
      with_reducible refine (CT.out _).mono ?_
      rintro e3 w3 ⟨rfl, h3⟩
      have q3 := q2.trans (h3.mono q2.size)
      go_wp2
      go_ret
      exact ⟨rfl, q3⟩
  · have CA := Lib.hid (psmall_any A n c a w hI hl false ⟨fun h => absurd h (by decide), fun h => absurd h sa⟩)
    clear hI hl hJ hm sa
    go_enter Try.func6, Try.ntmps6
    go_wp2_with fail
    with_reducible refine (CA.out ).mono ?_
    rintro e1 w1 ⟨rfl, h1⟩
    have q1 := h1
    go_wp2_with fail
    with_reducible refine (CT.out _).mono ?_
    rintro e2 w2 ⟨rfl, h2⟩
    have q2 := q1.trans (h2.mono q1.size)
    go_wp2
    go_ret
    exact ⟨rfl, q2⟩
end Go.Proofs.Ythbhjecfiiknaaa
