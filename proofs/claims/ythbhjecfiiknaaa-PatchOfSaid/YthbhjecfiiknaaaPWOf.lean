/- The walk of the law PatchOf. -/
import Derived.Test.YthbhjecfiiknaaaPtR
import Derived.Test.YthbhjecfiiknaaaPtV
namespace Go.Proofs.Ythbhjecfiiknaaa
open Go.RowKit
set_option linter.unusedVariables false
theorem rgro_tri (l : List E3) : rgro (tri l) = egrow l := by
  unfold rgro tri egrow egro
  rw [List.map_map]
  rfl
theorem pof_dlt (l : List E3) : dlt (pof l) = egrow l := by
  have := rawc_dlt (L := LL) (tri l) 0 0 0 0
  unfold pof
  rw [this, rgro_tri]
  omega
theorem eth_exists {l : List E3} {c : E3} (h : c ∈ l) : ∃ k, k < l.length ∧ eth l k = c := by
  obtain ⟨k, hk, rfl⟩ := List.mem_iff_getElem.1 h
  exact ⟨k, hk, by simp [eth, List.getD, hk]⟩
set_option maxHeartbeats 8000000 in
set_option maxRecDepth 100000 in
theorem patchOf_walk (n : Int) (A : Option Addr) (m c : Nat) (l : List E3) (w : World) (_w1 : Lit.wf (.int .i64 n)) (hA : EdsAt w A l) (hl : l.length = m) (_hn : m ≤ maxLen) (hc : Caps A m c) :
    Calls Try.prog 4 #[.int .i64 n, .slice A m c] w fun e w' => e = .returned (.bool true) ∧ Below w.heap.size w w' := by
  have CT := Lib.hid fun W => ptwo_any W
  clear _hn _w1
  by_cases g1 : n < 0
  · have k1 : decide (n < 0) = true := decide_eq_true g1
    clear hA hl hc
    go_enter Try.func4, Try.ntmps4
    go_wp2_with fail
    with_reducible refine (CT.out _).mono ?_
    rintro e1 w1 ⟨rfl, h1⟩
    have q1 := h1
    go_wp2
    go_ret
    exact ⟨rfl, q1⟩
  have k1 : decide (n < 0) = false := decide_eq_false g1
  by_cases g2 : 1000 < n
  · have k2 : decide (1000 < n) = true := decide_eq_true g2
    clear hA hl hc
    go_enter Try.func4, Try.ntmps4
    go_wp2_with fail
    with_reducible refine (CT.out _).mono ?_
    rintro e1 w1 ⟨rfl, h1⟩
    have q1 := h1
    go_wp2
    go_ret
    exact ⟨rfl, q1⟩
  have k2 : decide (1000 < n) = false := decide_eq_false g2
  by_cases g3 : 64 < m
  · have k3 : decide (64 < m) = true := decide_eq_true g3
    have k4 : decide ((64 : Int) < (m : Int)) = true := decide_eq_true (by omega)
    clear hA hl hc
    go_enter Try.func4, Try.ntmps4
    go_wp2_with fail
    with_reducible refine (CT.out _).mono ?_
    rintro e1 w1 ⟨rfl, h1⟩
    have q1 := h1
    go_wp2
    go_ret
    exact ⟨rfl, q1⟩
  have k3 : decide (64 < m) = false := decide_eq_false g3
  have k4 : decide ((64 : Int) < (m : Int)) = false := decide_eq_false (by omega)
  have CK := Lib.hid (rfCheckO_any n A m c l w hA hl)
  by_cases g4 : bchk n l = 0
  · obtain ⟨N, rfl⟩ : ∃ N : Nat, n = N := ⟨n.toNat, by omega⟩
    have hE : ERis N 0 l := echk_ris.1 (by
      have h := g4
      unfold bchk at h
      rw [if_neg (by omega)] at h
      exact h)
    rw [g4] at CK
    have hm : m ≤ 64 := by omega
    have hN : N ≤ 1000 := by omega
    have HA := Lib.hid hA
    have HL := Lib.hid hl
    have HE := Lib.hid hE
    have HC := Lib.hid hc
    have HAt := Lib.hid fun (j : Nat) (hj : j < l.length) => risO_at hE hj
    have HGO := Lib.hid fun (hs : ∀ e ∈ l, e.x.size ≤ 500) => egrowO_bd hE hN hs
    clear hA hl hE hc g1 g2 g3 g4
    go_enter Try.func4, Try.ntmps4
    go_wp2_with fail
    with_reducible refine CK.out.mono ?_
    rintro e w1 ⟨rfl, hb1⟩
    clear CK
    go_wp2_with fail
    go_loopg [5, 29] m (fun g z i wr => ∃ (j : Nat), i = .int .i64 j ∧ j ≤ m ∧ m - j ≤ g ∧ Below w.heap.size w wr ∧ Hid (z = .int .i64 (egrow (l.take j))) ∧ Hid (∀ k, k < j → (eth l k).x.size ≤ 500) ∧ Hid (-(1000 * (j : Int)) ≤ egrow (l.take j) ∧ egrow (l.take j) ≤ 500 * (j : Int)))
    case atStart => exact ⟨0, rfl, by omega, by omega, hb1, Lib.hid (by simp [egrow]), Lib.hid (fun k hk => absurd hk (Nat.not_lt_zero _)), Lib.hid (by simp [egrow])⟩
    case round =>
      obtain ⟨j, rfl, j1, j2, hb, hz, hall, hbd⟩ := hrel
      have hz := hz.out
      have hbd2 := hbd.out
      have HGT2 := Lib.hid fun (h : j < l.length) => egrow_takeO h
      obtain ⟨zv, hzv⟩ : ∃ zv, zv = egrow (l.take j) := ⟨_, rfl⟩
      rw [← hzv] at hz HGT2 hbd2
      subst hz
      have HZ := Lib.hid hzv
      clear hzv hbd
      obtain ⟨zb1, zb2⟩ := hbd2
      by_cases hlt : j < m
      · have hjl : j < l.length := by rw [HL.out]; exact hlt
        obtain ⟨a, b, g1, g2, g3, g4⟩ := HAt.out j hjl
        obtain ⟨bA, off, rfl, hbA, d0, d1, d2⟩ := (HA.out.below hb).drop1 hjl
        rw [g1] at d0
        rw [g2] at d1
        have hst := HGT2.out hjl
        rw [show egro (eth l j) = ((dec (eth l j).x).length : Int) - ((b : Int) - (a : Int)) from by unfold egro; rw [g1, g2]] at hst
        have HST := Lib.hid hst
        have HAL := Lib.hid fun (h : (eth l j).x.size ≤ 500) => (fun k hk => by
          rcases Nat.lt_succ_iff_lt_or_eq.1 hk with hk | rfl
          · exact hall.out k hk
          · exact h : ∀ k, k < j + 1 → (eth l k).x.size ≤ 500)
        clear hst g1 g2 HGT2 hall
        generalize hyy : (eth l j).x = yy at *
        clear hyy
        have hdl := dec_len yy
        have i1 : (0 : Int) ≤ j := by omega
        have i2 : (j : Int) < m := by omega
        have y6 : Below wr.heap.size wr (wr.alloc (.cells #[.int .i64 (a : Int), .int .i64 (b : Int), .string yy] 36)) := (Below.refl _ _).alloc (Nat.le_refl _) _
        have S6 : RawAt 36 (wr.alloc (.cells #[.int .i64 (a : Int), .int .i64 (b : Int), .string yy] 36)) wr.heap.size #[.int .i64 (a : Int), .int .i64 (b : Int), .string yy] := heap_alloc_new wr _
        have HS6 := Lib.hid S6
        have q6 := hb.trans (y6.mono hb.size)
        by_cases hsz : 500 < yy.size
        · have k5 : decide (500 < yy.size) = true := decide_eq_true hsz
          have k6 : decide ((500 : Int) < (yy.size : Int)) = true := decide_eq_true (by omega)
          clear S6 HAL HST
          go_wp2_with fail
          with_reducible refine (CT.out _).mono ?_
          rintro e w9 ⟨rfl, h9⟩
          go_wp2
          go_ret
          exact ⟨rfl, q6.trans (h9.mono q6.size)⟩
        · have k5 : decide (500 < yy.size) = false := decide_eq_false hsz
          have k6 : decide ((500 : Int) < (yy.size : Int)) = false := decide_eq_false (by omega)
          have HA2 := Lib.hid (HAL.out (by omega))
          have CD2 := Lib.hid fun W => (rdecode_any yy W (by omega)).mono fun e w' ⟨A, c, he, hb, _⟩ => (⟨A, c, he, hb⟩ : ∃ A c, e = Ending.returned (.slice A (dec yy).length c) ∧ Below W.heap.size W w')
          generalize (dec yy).length = cn at *
          have hw1 : IntKind.i64.wrap (zv + (cn : Int)) = zv + (cn : Int) := IntWalk.i64_in _ (by omega)
          have hw2 : IntKind.i64.wrap ((b : Int) - (a : Int)) = (b : Int) - (a : Int) := IntWalk.i64_in _ (by omega)
          have hw3 : IntKind.i64.wrap (zv + (cn : Int) - ((b : Int) - (a : Int))) = zv + (cn : Int) - ((b : Int) - (a : Int)) := IntWalk.i64_in _ (by omega)
          have HB2 : Hid (-(1000 * ((j + 1 : Nat) : Int)) ≤ egrow (l.take (j + 1)) ∧ egrow (l.take (j + 1)) ≤ 500 * ((j + 1 : Nat) : Int)) := Lib.hid (by rw [HST.out]; omega)
          have r2 := RawAt.cell S6 2
          simp at r2
          obtain ⟨yb, hyb⟩ : ∃ yb, yb = wr.heap.size := ⟨_, rfl⟩
          rw [← hyb] at HS6
          have HYB := Lib.hid hyb
          clear hyb S6 HAL hsz
          go_wp2_with fail
          rw [← HYB.out]
          generalize wr.alloc (.cells #[.int .i64 (a : Int), .int .i64 (b : Int), .string yy] 36) = W7 at *
          have MK : Hid (∀ W : World, Below W7.heap.size W7 W → (fun W => W.cell? ⟨yb, 0, none⟩ = some (.int .i64 (a : Int)) ∧ W.cell? ⟨yb, 1, none⟩ = some (.int .i64 (b : Int)) ∧ W.cell? ⟨yb, 2, none⟩ = some (.string yy) ∧ Below W7.heap.size W7 W) W) := fun W hW => ⟨RawAt.cell (RawAt.below HS6.out hW (RawAt.lt HS6.out)) 0, RawAt.cell (RawAt.below HS6.out hW (RawAt.lt HS6.out)) 1, RawAt.cell (RawAt.below HS6.out hW (RawAt.lt HS6.out)) 2, hW⟩
          have hW2 : Below W7.heap.size W7 W7.drew := (Below.refl _ _).drew
          clear d0 d1 d2 r2
          refine wp_region_noPanic ?_
          refine wp_region_held_drew (S := (fun W => W.cell? ⟨yb, 0, none⟩ = some (.int .i64 (a : Int)) ∧ W.cell? ⟨yb, 1, none⟩ = some (.int .i64 (b : Int)) ∧ W.cell? ⟨yb, 2, none⟩ = some (.string yy) ∧ Below W7.heap.size W7 W)) (by kernel_rfl) (MK.out _ hW2) (fun hHeld => ?_)
          refine wpAnyH_take (i := 0) (v := ?_) rfl (by kernel_rfl) (by kernel_rfl) (by kernel_rfl) (fun _ _ _ h => h) (Or.inl ⟨by rfl, ?_⟩) hHeld ?_
          rotate_left
          · intro w hSw
            (try dsimp only at hSw)
            go_simp
            try with_reducible rfl
          go_simp
          refine wpAnyH_take (i := 1) (v := ?_) rfl (by kernel_rfl) (by kernel_rfl) (by kernel_rfl) (fun _ _ _ h => h) (Or.inl ⟨by rfl, ?_⟩) hHeld ?_
          rotate_left
          · intro w hSw
            (try dsimp only at hSw)
            go_simp
            try with_reducible rfl
          go_simp
          refine wpAnyH_take (i := 2) (v := ?_) rfl (by kernel_rfl) (by kernel_rfl) (by kernel_rfl) (fun _ _ _ h => h) (Or.inl ⟨by rfl, ?_⟩) hHeld ?_
          rotate_left
          · intro w hSw
            (try dsimp only at hSw)
            go_simp
            try with_reducible rfl
          go_simp
          refine wpAnyH_take (i := 6) (v := ?_) rfl (by kernel_rfl) (by kernel_rfl) (by kernel_rfl) (fun _ _ _ h => h) (Or.inl ⟨by rfl, ?_⟩) hHeld ?_
          rotate_left
          · intro w hSw
            (try dsimp only at hSw)
            go_simp
            try with_reducible rfl
          go_simp
          refine wpAnyH_take (i := 7) (v := ?_) rfl (by kernel_rfl) (by kernel_rfl) (by kernel_rfl) (fun _ _ _ h => h) (Or.inl ⟨by rfl, ?_⟩) hHeld ?_
          rotate_left
          · intro w hSw
            (try dsimp only at hSw)
            go_simp
            try with_reducible rfl
          go_simp
          refine wpAnyH_take (i := 8) (v := ?_) rfl (by kernel_rfl) (by kernel_rfl) (by kernel_rfl) (fun _ _ _ h => h) (Or.inl ⟨by rfl, ?_⟩) hHeld ?_
          rotate_left
          · intro w hSw
            (try dsimp only at hSw)
            go_simp
            try with_reducible rfl
          go_simp
          refine wpAnyH_take (i := 9) (v := ?_) rfl (by kernel_rfl) (by kernel_rfl) (by kernel_rfl) (fun _ _ _ h => h) (Or.inl ⟨by rfl, ?_⟩) hHeld ?_
          rotate_left
          · intro w hSw
            (try dsimp only at hSw)
            go_simp
            try with_reducible rfl
          go_simp
          refine wpAnyH_take (i := 10) (v := ?_) rfl (by kernel_rfl) (by kernel_rfl) (by kernel_rfl) (fun _ _ _ h => h) (Or.inl ⟨by rfl, ?_⟩) hHeld ?_
          rotate_left
          · intro w hSw
            (try dsimp only at hSw)
            go_simp
            try with_reducible rfl
          go_simp
          refine wpAnyH_ready (rs := [3]) (by kernel_rfl) (by simp) ?_
          refine AllReadyH.cons rfl (fun K hK => ?_) ?_
          rotate_left
          · exact AllReadyH.nil
          go_simp
          go_wp2_with (first | (go_at_call 16; ((with_reducible refine (CD2.out _).mono ?_); rintro e w8 ⟨A8, c8, rfl, hb8⟩); have hW2 := hW2.trans (hb8.mono hW2.size)))
          refine hK.out _ _ (MK.out _ hW2) (fun hHeld => ?_)
          clear hK K
          go_simp
          refine wpAnyH_take (i := 4) (v := ?_) rfl (by kernel_rfl) (by kernel_rfl) (by kernel_rfl) (fun _ _ _ h => h) (Or.inl ⟨by rfl, ?_⟩) hHeld ?_
          rotate_left
          · intro w hSw
            (try dsimp only at hSw)
            go_simp
            try with_reducible rfl
          go_simp
          refine wpAnyH_take (i := 5) (v := ?_) rfl (by kernel_rfl) (by kernel_rfl) (by kernel_rfl) (fun _ _ _ h => h) (Or.inl ⟨by rfl, ?_⟩) hHeld ?_
          rotate_left
          · intro w hSw
            (try dsimp only at hSw)
            go_simp
            try with_reducible rfl
          go_simp
          refine wpAnyH_take (i := 11) (v := ?_) rfl (by kernel_rfl) (by kernel_rfl) (by kernel_rfl) (fun _ _ _ h => h) (Or.inl ⟨by rfl, ?_⟩) hHeld ?_
          rotate_left
          · intro w hSw
            (try dsimp only at hSw)
            go_simp
            try with_reducible rfl
          go_simp
          refine wpAnyH_take (i := 12) (v := ?_) rfl (by kernel_rfl) (by kernel_rfl) (by kernel_rfl) (fun _ _ _ h => h) (Or.inl ⟨by rfl, ?_⟩) hHeld ?_
          rotate_left
          · intro w hSw
            (try dsimp only at hSw)
            go_simp
            try with_reducible rfl
          go_simp
          refine wpAnyH_done (by kernel_rfl) ?_ _
          refine NoPanic.normal ?_
          go_wp2
          go_roundg (gk - 1)
          case measure => omega
          case rel => exact ⟨j + 1, by go_num, by omega, by omega, q6.trans (hW2.mono q6.size), Lib.hid (by rw [HST.out]; congr 1; omega), HA2, HB2⟩
      · have hj : j = m := by omega
        subst hj
        have hs : ∀ e ∈ l, e.x.size ≤ 500 := fun e he => by
          obtain ⟨k, hk, rfl⟩ := eth_exists he
          exact hall.out k (by have := HL.out; omega)
        have hs9 : ∀ e ∈ l, e.x.size ≤ 1000000000 := fun e he => by have := hs e he; omega
        have hz2 : zv = egrow l := by rw [HZ.out, List.take_of_length_le (by rw [HL.out]; omega)]
        have hnr := (bd_raw HE.out (by omega) (by have := HL.out; omega) hs9).2
        have hln : (pof l).length ≤ 200 := by
          have h1 := chg_len 0 0 (pcs LL 0 0 (rawc 0 0 (tri l)))
          have h2 := pcs_len LL 0 0 (rawc 0 0 (tri l))
          rw [rawc_len, show (tri l).length = l.length from by simp [tri]] at h2
          have h3 := HL.out
          show (chg 0 0 (pcs LL 0 0 (rawc 0 0 (tri l)))).length ≤ 200
          omega
        have CO := Lib.hid fun (W : World) (hW : Below w.heap.size w W) => pOf_any A j c N l W (HA.out.below hW) HL.out hm HE.out (by omega) hs9
        have CQ := Lib.hid fun (W : World) (hW : Below w.heap.size w W) => rOf_any A j c N l W (HA.out.below hW) HL.out HC.out HE.out hN hm hs
        have CR := Lib.hid fun (A' : Option Addr) (c' : Nat) (W : World) (hX : ChsAt W A' (pof l)) => refs_any A' (pof l).length c' _ W hX rfl (by omega)
        have CE := Lib.hid fun (A' B' : Option Addr) (c' d' : Nat) (W : World) (hX : ChsAt W A' (pof l)) (hY : ChsAt W B' (pof l)) => psame_any A' B' (pof l).length c' d' _ W hX hY rfl (by omega)
        have CP := Lib.hid fun (A' : Option Addr) (c' : Nat) (W : World) (hX : ChsAt W A' (pof l)) => pNormal_any A' (pof l).length c' _ W true hX rfl (by omega) ⟨fun _ => hnr, fun _ => rfl⟩
        have CD := Lib.hid fun (A' : Option Addr) (c' : Nat) (W : World) (hX : ChsAt W A' (pof l)) => pDelta_any A' (pof l).length c' _ W hX rfl (by omega) (nrm_mem hnr)
        rw [pof_dlt, ← hz2] at CD
        have b1 : (zv == zv) = true := by simp
        clear hs hs9 hz2 hnr hln HZ hall HGT2 HAt HGO HE HC HL HA zb1 zb2
        generalize pof l = lc at *
        go_wp2_with fail
        with_reducible refine (CO.out _ hb).mono ?_
        rintro e1 w1 ⟨A1, c1, rfl, hJ1, _, h1⟩
        have q1 := hb.trans (h1.mono hb.size)
        have J1 := Lib.hid hJ1
        clear hJ1
        go_wp2_with fail
        with_reducible refine (CR.out A1 c1 _ J1.out).mono ?_
        rintro e2 w2 ⟨A2, c2, rfl, hJ2, _, h2⟩
        have q2 := q1.trans (h2.mono q1.size)
        have J2 := Lib.hid hJ2
        clear hJ2
        go_wp2_with fail
        with_reducible refine (CQ.out _ q2).mono ?_
        rintro e3 w3 ⟨A3, c3, rfl, hJ3, h3⟩
        have q3 := q2.trans (h3.mono q2.size)
        have J3 := Lib.hid hJ3
        clear hJ3
        go_wp2_with fail
        with_reducible refine (CE.out A2 A3 c2 c3 _ (J2.out.below h3) J3.out).mono ?_
        rintro e4 w4 ⟨rfl, h4⟩
        have q4 := q3.trans (h4.mono q3.size)
        have p4 := ((J1.out.below h2).below h3).below h4
        go_wp2_with fail
        with_reducible refine (CP.out A1 c1 _ p4).mono ?_
        rintro e5 w5 ⟨rfl, h5⟩
        have q5 := q4.trans (h5.mono q4.size)
        go_wp2_with fail
        with_reducible refine (CD.out A1 c1 _ (p4.below h5)).mono ?_
        rintro e6 w6 ⟨rfl, h6⟩
        have q6 := q5.trans (h6.mono q5.size)
        go_wp2_with fail
        with_reducible refine (CT.out _).mono ?_
        rintro e7 w7 ⟨rfl, h7⟩
        have q7 := q6.trans (h7.mono q6.size)
        go_wp2
        go_ret
        exact ⟨rfl, q7⟩
  · have y1 : (bchk n l == 0) = false := by simp [g4]
    have y2 : (bchk n l != 0) = true := by simp [g4]
    clear hA hl hc
    generalize bchk n l = v at *
    clear g4
    go_enter Try.func4, Try.ntmps4
    go_wp2_with fail
    with_reducible refine (CK.out ).mono ?_
    rintro e1 w1 ⟨rfl, h1⟩
    have q1 := h1
    go_wp2_with fail
    with_reducible refine (CT.out _).mono ?_
    rintro e2 w2 ⟨rfl, h2⟩
    have q2 := q1.trans (h2.mono q1.size)
    go_wp2
    go_ret
    exact ⟨rfl, q2⟩
end Go.Proofs.Ythbhjecfiiknaaa
