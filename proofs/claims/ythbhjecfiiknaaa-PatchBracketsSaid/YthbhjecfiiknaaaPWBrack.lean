/- The walk of the law PatchBrackets. -/
import Derived.Test.YthbhjecfiiknaaaPWTurns
namespace Go.Proofs.Ythbhjecfiiknaaa
open Go.RowKit
set_option linter.unusedVariables false
set_option maxHeartbeats 4000000 in
set_option maxRecDepth 100000 in
theorem patchBrackets_walk (A : Option Addr) (n e : Nat) (a : List Ch) (B : Option Addr) (m f : Nat) (b : List Ch) (D : Option Addr) (o g : Nat) (c : List Ch) (w : World) (hI : ChsAt w A a) (hl : a.length = n) (_hn : n ≤ maxLen) (_hc : Caps A n e) (hJ : ChsAt w B b) (hm : b.length = m) (_hn2 : m ≤ maxLen) (_hc2 : Caps B m f) (hK : ChsAt w D c) (ho : c.length = o) (_hn3 : o ≤ maxLen) (_hc3 : Caps D o g) :
    Calls Try.prog 8 #[.slice A n e, .slice B m f, .slice D o g] w fun e w' => e = .returned (.bool true) ∧ Below w.heap.size w w' := by
  have CT := Lib.hid fun W => ptwo_any W
  clear _hn _hc _hn2 _hc2 _hn3 _hc3
  by_cases sa : SmP a
  · have CA := Lib.hid (psmall_any A n e a w hI hl true ⟨fun _ => sa, fun _ => rfl⟩)
    by_cases sb : SmP b
    · have CB := Lib.hid fun (W : World) (hW : Below w.heap.size w W) => psmall_any B m f b W (hJ.below hW) hm true ⟨fun _ => sb, fun _ => rfl⟩
      by_cases sc : SmP c
      · have CD := Lib.hid fun (W : World) (hW : Below w.heap.size w W) => psmall_any D o g c W (hK.below hW) ho true ⟨fun _ => sc, fun _ => rfl⟩
        have hn60 : n ≤ 60 := by have := sa.1; omega
        have hm60 : m ≤ 60 := by have := sb.1; omega
        have ho60 : o ≤ 60 := by have := sc.1; omega
        have nx := cmp_nrm (M := 2000) (L := LL) (by decide) (by decide) sa.nrm sb.nrm
        have ny := cmp_nrm (M := 2000) (L := LL) (by decide) (by decide) sb.nrm sc.nrm
        have lx := cmp_len a b
        have ly := cmp_len b c
        have lz := cmp_len (cmp LL a b) c
        have hass := cmp_assoc (B := 2000) (L := LL) (by decide) (by decide) sa.nrm sb.nrm sc.nrm
        have CX := Lib.hid fun (W : World) (hW : Below w.heap.size w W) => pCompose_small (ca := e) (cb := f) (hI.below hW) (hJ.below hW) hl (by omega) hm (by omega) (K := 2000) (by decide) (by decide) sa.nrm sb.nrm
        have CY := Lib.hid fun (W : World) (hW : Below w.heap.size w W) => pCompose_small (ca := f) (cb := g) (hJ.below hW) (hK.below hW) hm (by omega) ho (by omega) (K := 2000) (by decide) (by decide) sb.nrm sc.nrm
        have CZ := Lib.hid fun (A' : Option Addr) (n' c' : Nat) (W : World) (hW : Below w.heap.size w W) (hX : ChsAt W A' (cmp LL a b)) (hn' : (cmp LL a b).length = n') => pCompose_small (ca := c') (cb := g) hX (hK.below hW) hn' (by omega) ho (by omega) (K := 4000) (by decide) (by decide) nx (nrm_mono (by decide) sc.nrm)
        have CV := Lib.hid fun (A' : Option Addr) (n' c' : Nat) (W : World) (hW : Below w.heap.size w W) (hX : ChsAt W A' (cmp LL b c)) (hn' : (cmp LL b c).length = n') => pCompose_small (ca := e) (cb := c') (hI.below hW) hX hl (by omega) hn' (by omega) (K := 4000) (by decide) (by decide) (nrm_mono (by decide) sa.nrm) ny
        rw [← hass] at CV
        have CR := Lib.hid fun (A' : Option Addr) (n' c' : Nat) (W : World) (hX : ChsAt W A' (cmp LL (cmp LL a b) c)) (hn' : (cmp LL (cmp LL a b) c).length = n') => refs_any A' n' c' _ W hX hn' (by omega)
        have CE := Lib.hid fun (A' B' : Option Addr) (n' c' d' : Nat) (W : World) (hX : ChsAt W A' (cmp LL (cmp LL a b) c)) (hY : ChsAt W B' (cmp LL (cmp LL a b) c)) (hn' : (cmp LL (cmp LL a b) c).length = n') => psame_any A' B' n' c' d' _ W hX hY hn' (by omega)
        clear hI hl hJ hm hK ho sa sb sc nx ny lx ly lz hass
        generalize cmp LL (cmp LL a b) c = lz at *
        generalize cmp LL a b = lx at *
        generalize cmp LL b c = ly at *
        go_enter Try.func8, Try.ntmps8
        go_wp2_with fail
        with_reducible refine (CA.out ).mono ?_
        rintro e1 w1 ⟨rfl, h1⟩
        have q1 := h1
        go_wp2_with fail
        with_reducible refine (CB.out _ q1).mono ?_
        rintro e2 w2 ⟨rfl, h2⟩
        have q2 := q1.trans (h2.mono q1.size)
        go_wp2_with fail
        with_reducible refine (CD.out _ q2).mono ?_
        rintro e3 w3 ⟨rfl, h3⟩
        have q3 := q2.trans (h3.mono q2.size)
        go_wp2_with fail
        with_reducible refine (CX.out _ q3).mono ?_
        rintro e4 w4 ⟨A4, n4, c4, rfl, hJ4, hn4, h4⟩
        have q4 := q3.trans (h4.mono q3.size)
        have J4 := Lib.hid hJ4
        have N4 := Lib.hid hn4
        clear hJ4 hn4
        go_wp2_with fail
        with_reducible refine (CY.out _ q4).mono ?_
        rintro e5 w5 ⟨A5, n5, c5, rfl, hJ5, hn5, h5⟩
        have q5 := q4.trans (h5.mono q4.size)
        have J5 := Lib.hid hJ5
        have N5 := Lib.hid hn5
        clear hJ5 hn5
        go_wp2_with fail
        with_reducible refine (CZ.out A4 n4 c4 _ q5 (J4.out.below h5) N4.out).mono ?_
        rintro e6 w6 ⟨A6, n6, c6, rfl, hJ6, hn6, h6⟩
        have q6 := q5.trans (h6.mono q5.size)
        have J6 := Lib.hid hJ6
        have N6 := Lib.hid hn6
        clear hJ6 hn6
        go_wp2_with fail
        with_reducible refine (CV.out A5 n5 c5 _ q6 (J5.out.below h6) N5.out).mono ?_
        rintro e7 w7 ⟨A7, n7, c7, rfl, hJ7, hn7, h7⟩
        have q7 := q6.trans (h7.mono q6.size)
        obtain rfl : n6 = n7 := by rw [← hn7, N6.out]
        have J7 := Lib.hid hJ7
        clear hJ7 hn7
        go_wp2_with fail
        with_reducible refine (CR.out A6 n6 c6 _ (J6.out.below h7) N6.out).mono ?_
        rintro e8 w8 ⟨A8, c8, rfl, hJ8, _, h8⟩
        have q8 := q7.trans (h8.mono q7.size)
        have J8 := Lib.hid hJ8
        clear hJ8
        go_wp2_with fail
        with_reducible refine (CR.out A7 n6 c7 _ (J7.out.below h8) N6.out).mono ?_
        rintro e9 w9 ⟨A9, c9, rfl, hJ9, _, h9⟩
        have q9 := q8.trans (h9.mono q8.size)
        have J9 := Lib.hid hJ9
        clear hJ9
        go_wp2_with fail
        with_reducible refine (CE.out A8 A9 n6 c8 c9 _ (J8.out.below h9) J9.out N6.out).mono ?_
        rintro e10 w10 ⟨rfl, h10⟩
        have q10 := q9.trans (h10.mono q9.size)
        go_wp2_with fail
        with_reducible refine (CT.out _).mono ?_
        rintro e11 w11 ⟨rfl, h11⟩
        have q11 := q10.trans (h11.mono q10.size)
        go_wp2
        go_ret
        exact ⟨rfl, q11⟩
      · have CD := Lib.hid fun (W : World) (hW : Below w.heap.size w W) => psmall_any D o g c W (hK.below hW) ho false ⟨fun h => absurd h (by decide), fun h => absurd h sc⟩
        clear hI hl hJ hm hK ho sa sb sc
        go_enter Try.func8, Try.ntmps8
        go_wp2_with fail
        with_reducible refine (CA.out ).mono ?_
        rintro e1 w1 ⟨rfl, h1⟩
        have q1 := h1
        go_wp2_with fail
        with_reducible refine (CB.out _ q1).mono ?_
        rintro e2 w2 ⟨rfl, h2⟩
        have q2 := q1.trans (h2.mono q1.size)
        go_wp2_with fail
        with_reducible refine (CD.out _ q2).mono ?_
        rintro e3 w3 ⟨rfl, h3⟩
        have q3 := q2.trans (h3.mono q2.size)
        go_wp2_with fail
        with_reducible refine (CT.out _).mono ?_
        rintro e4 w4 ⟨rfl, h4⟩
        have q4 := q3.trans (h4.mono q3.size)
        go_wp2
        go_ret
        exact ⟨rfl, q4⟩
    · have CB := Lib.hid fun (W : World) (hW : Below w.heap.size w W) => psmall_any B m f b W (hJ.below hW) hm false ⟨fun h => absurd h (by decide), fun h => absurd h sb⟩
      clear hI hl hJ hm hK ho sa sb
      go_enter Try.func8, Try.ntmps8
      go_wp2_with fail
      with_reducible refine (CA.out ).mono ?_
      rintro e1 w1 ⟨rfl, h1⟩
      have q1 := h1
      go_wp2_with fail
      with_reducible refine (CB.out _ q1).mono ?_
      rintro e2 w2 ⟨rfl, h2⟩
      have q2 := q1.trans (h2.mono q1.size)
      go_wp2_with fail
      with_reducible refine (CT.out _).mono ?_
      rintro e3 w3 ⟨rfl, h3⟩
      have q3 := q2.trans (h3.mono q2.size)
      go_wp2
      go_ret
      exact ⟨rfl, q3⟩
  · have CA := Lib.hid (psmall_any A n e a w hI hl false ⟨fun h => absurd h (by decide), fun h => absurd h sa⟩)
    clear hI hl hJ hm hK ho sa
    go_enter Try.func8, Try.ntmps8
    go_wp2_with fail
    with_reducible refine (CA.out ).mono ?_
    rintro e1 w1 ⟨rfl, h1⟩
    have q1 := h1
    go_wp2_with fail
    with_reducible refine (CT.out _).mono ?_
    rintro e2 w2 ⟨rfl, h2⟩
    have q2 := q1.trans (h2.mono q1.size)
    go_wp2
    go_ret
    exact ⟨rfl, q2⟩
end Go.Proofs.Ythbhjecfiiknaaa
