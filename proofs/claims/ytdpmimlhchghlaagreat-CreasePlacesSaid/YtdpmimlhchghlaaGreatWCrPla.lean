/- Creases: the law CreasePlaces, walked. -/
import Derived.Test.YtdpmimlhchghlaaGreatCrW
import Derived.Test.YtdpmimlhchghlaaGreatCrY
import Derived.Test.YtdpmimlhchghlaaGreatCrR
import Derived.Test.YtdpmimlhchghlaaGreatTxO
namespace Go.Proofs.YtdpmimlhchghlaaGreat
open Go.RowKit Go.Sort
set_option linter.unusedVariables false
theorem cr_out {L : List (Int × Int)} {z : Nat} (h : CrOk 0 L z) {v : Int} (h0 : 0 ≤ v) (h1 : v ≤ z) : coutP (crP 0 L z) v = dcnt (cstS L z) v - dsub L v := by
  have e : cstS L z = cst 0 L z := cst_doc h
  have := coutP_doc L 0 z v h h0 h1
  rw [Int.sub_zero] at this
  rw [e]
  exact this
theorem cr_in {L : List (Int × Int)} {z : Nat} (h : CrOk 0 L z) {v : Nat} (h1 : v ≤ (cstS L z).length) : cinP (crP 0 L z) v = dpl (cstS L z) z v := by
  have e : cstS L z = cst 0 L z := cst_doc h
  rw [e] at h1 ⊢
  have := cinP_doc L 0 z v h h1
  rw [Int.sub_zero] at this
  exact this
set_option maxHeartbeats 16000000 in
set_option maxRecDepth 100000 in
theorem creasePlaces_walk (t : Txt) (at_ : Int) (w : World) (hT : TxtOk w t) (_wa : (Lit.int .i64 at_).wf = true) :
    Calls Tryz.prog 4 #[.agg #[.int .i64 t.n, .slice t.A t.m t.c, .slice t.B t.k t.d], .int .i64 at_] w fun e w' => e = .returned (.bool true) ∧ Below w.heap.size w w' := by
  obtain ⟨n, A, m, c, l, B, k, d, o⟩ := t
  obtain ⟨wf, la, mx, caps, rows, ok, lb, mxb, capsb, rowsb, okb⟩ := hT
  simp only at wf la mx caps rows ok lb mxb capsb rowsb okb ⊢
  have x1 : Below w.heap.size w (w.alloc (.cells #[.int .i64 n, .slice A m c, .slice B k d] 25)) := (Below.refl _ _).alloc (Nat.le_refl _) _
  have r1 : RawAt 25 (w.alloc (.cells #[.int .i64 n, .slice A m c, .slice B k d] 25)) w.heap.size #[.int .i64 n, .slice A m c, .slice B k d] := heap_alloc_new w _
  obtain ⟨W1, hW1⟩ : ∃ W1, W1 = w.alloc (.cells #[.int .i64 n, .slice A m c, .slice B k d] 25) := ⟨_, rfl⟩
  rw [← hW1] at x1 r1
  have HW1 := Lib.hid hW1
  have X1 := Lib.hid x1
  have R1 := Lib.hid r1
  have y0 : W1.cell? ⟨w.heap.size, 0, none⟩ = some (.int .i64 n) := RawAt.cell r1 0
  have y1 : W1.cell? ⟨w.heap.size, 1, none⟩ = some (.slice A m c) := RawAt.cell r1 1
  have y2 : W1.cell? ⟨w.heap.size, 2, none⟩ = some (.slice B k d) := RawAt.cell r1 2
  clear hW1 x1 r1
  have CLO := Lib.hid fun (b : Bool) (hb : b = true ↔ ¬ Short16 n l o) => long16_any n A m c l B k d o b W1 (rows.below X1.out) caps la mx (fun x hx => (ok x hx).2.2.2.2) lb mxb hb
  have C6 := Lib.hid fun W => csix_any W
  by_cases g : Short16 n l o
  · have CLF := Lib.hid (CLO.out false ⟨fun h => absurd h (by simp), fun h => absurd g h⟩)
    obtain ⟨g0, g1, g2, g3, g4, g5⟩ := g
    obtain ⟨N, rfl⟩ : ∃ N : Nat, n = N := ⟨n.toNat, by omega⟩
    have hx : Tx16 W1 N A m c l B k o := ⟨rows.below X1.out, caps, la, g4, g5, by omega, by rw [← la]; exact g2, rowsb.below X1.out, lb, by rw [← lb]; exact g3⟩
    have HWF := Lib.hid fun (a : In) (ha : a ∈ l) => (ok a ha).1
    have HX := Lib.hid hx
    have k1 := hx.k1
    have hzi := hx.zis
    have HZ := Lib.hid hzi.1
    have hzb := hzi.2
    have CW := Lib.hid fun (W : World) (hW : Below W1.heap.size W1 W) => woven16_any d (hx.below hW) HWF.out
    have CN := Lib.hid fun (a : Addr) (h : Nat) (W : World) (hT : WvAt W (some a) (wvP 0 (oI l) N) h) (hW : Below W1.heap.size W1 W) => cNew_any B k d o W hT hx.set.wv (hx.below hW).hB lb (by omega) (by rw [← hzi.1]; omega)
    have CR := Lib.hid fun (b : Bool) (hb : b = true ↔ RtOk 0 o N) (W : World) (hW : Below W1.heap.size W1 W) => rRight16 N B k d o b hb W (hx.below hW).hB lb (by omega)
    have CSZ := Lib.hid fun (W : World) (hW : Below W1.heap.size W1 W) => size16_any d (hx.below hW)
    clear CLO rows rowsb ok okb caps capsb g2 g3 g4 g5 hzi wf
    by_cases hr : RtOk 0 o N
    · have CRT := Lib.hid (CR.out true ⟨fun _ => hr, fun _ => rfl⟩)
      have CPL := Lib.hid fun (W : World) (hW : Below W1.heap.size W1 W) => places16_any d (HX.out.below hW) hr
      have hcr := hx.cr hr
      have hLk : (o.map (cpl (oI l))).length = k := by rw [List.length_map]; exact lb
      have HR := Lib.hid hr
      rw [← HZ.out] at CN
      obtain ⟨d1, d2, d3, d4⟩ := cr_doc hcr
      rw [← d2] at d4
      have hKz := cstS_len (o.map (cpl (oI l))) (zI N l)
      have HOUT := Lib.hid fun (h0 : 0 ≤ at_) (h1 : at_ ≤ zI N l) => cr_out hcr h0 h1
      have HIN := Lib.hid fun (v : Nat) (h1 : v ≤ (cstS (o.map (cpl (oI l))) (zI N l)).length) => cr_in hcr h1
      clear hx hr CR d1 d2 hcr
      generalize o.map (cpl (oI l)) = L at *
      generalize zI N l = z at *
      have CS := Lib.hid fun (A1 : Option Addr) (c1 : Nat) (W : World) (hA : RowsAt wencS 2 W A1 L) => rStarts16 z A1 k c1 L W hA hLk (by omega) (by omega)
      have CO := Lib.hid fun (A1 : Option Addr) (c1 : Nat) (W : World) (hA : RowsAt wencS 2 W A1 L) => rOut16 z A1 k c1 L at_ W hA hLk (by omega) (by omega)
      have CI := Lib.hid fun (A1 : Option Addr) (c1 : Nat) (W : World) (hA : RowsAt wencS 2 W A1 L) (v : Nat) (hv : v ≤ (cstS L z).length) => rIn16 z A1 k c1 L v W hA hLk (by omega) (by omega) hv
      have HL := Lib.hid hLk
      have X1L := Lib.hid (Below.refl W1.heap.size W1)
      clear hLk
      go_enter Tryz.func4, Tryz.ntmps4
      go_wp2_with fail
      rw [← HW1.out]
      go_wp2_with fail
      with_reducible refine (CLF.out).mono ?_
      rintro e w2 ⟨rfl, b2⟩
      have HQ2 := Lib.hid b2
      have R2 := Lib.hid (RawAt.below R1.out HQ2.out R1.out.lt)
      have z0 : w2.cell? ⟨w.heap.size, 0, none⟩ = some (.int .i64 N) := RawAt.cell R2.out 0
      have z1 : w2.cell? ⟨w.heap.size, 1, none⟩ = some (.slice A m c) := RawAt.cell R2.out 1
      have z2 : w2.cell? ⟨w.heap.size, 2, none⟩ = some (.slice B k d) := RawAt.cell R2.out 2
      clear b2
      go_wp2_with fail
      with_reducible refine (CRT.out _ HQ2.out).mono ?_
      rintro e w3 ⟨rfl, b3⟩
      have HQ3 := Lib.hid (HQ2.out.trans (b3.mono HQ2.out.size))
      clear b3
      have MK : Hid (∀ V : World, Below W1.heap.size W1 V → (fun V : World => V.cell? ⟨w.heap.size, 0, none⟩ = some (.int .i64 N) ∧ V.cell? ⟨w.heap.size, 1, none⟩ = some (.slice A m c) ∧ V.cell? ⟨w.heap.size, 2, none⟩ = some (.slice B k d)) V) := Lib.hid fun V hV => by
        have q := RawAt.below R1.out hV R1.out.lt
        exact ⟨RawAt.cell q 0, RawAt.cell q 1, RawAt.cell q 2⟩
      have hW2 : Below W1.heap.size W1 w3.drew := HQ3.out.drew
      clear CLF CRT z0 z1 z2
      go_wp2_with fail
      refine wp_region_noPanic ?_
      refine wp_region_held_drew (S := (fun V => V.cell? ⟨w.heap.size, 0, none⟩ = some (.int .i64 N) ∧ V.cell? ⟨w.heap.size, 1, none⟩ = some (.slice A m c) ∧ V.cell? ⟨w.heap.size, 2, none⟩ = some (.slice B k d))) (by kernel_rfl) (MK.out _ hW2) (fun hHeld => ?_)
      refine wpAnyH_take (i := 0) (v := ?_) rfl (by kernel_rfl) (by kernel_rfl) (by kernel_rfl) (fun _ _ _ h => h) (Or.inl ⟨by rfl, ?_⟩) hHeld ?_
      rotate_left
      · intro w hSw
        (try dsimp only at hSw)
        go_simp
        try with_reducible rfl
      go_simp
      refine wpAnyH_take (i := 2) (v := ?_) rfl (by kernel_rfl) (by kernel_rfl) (by kernel_rfl) (fun _ _ _ h => h) (Or.inl ⟨by rfl, ?_⟩) hHeld ?_
      rotate_left
      · intro w hSw
        (try dsimp only at hSw)
        go_simp
        try with_reducible rfl
      go_simp
      refine wpAnyH_take (i := 3) (v := ?_) rfl (by kernel_rfl) (by kernel_rfl) (by kernel_rfl) (fun _ _ _ h => h) (Or.inl ⟨by rfl, ?_⟩) hHeld ?_
      rotate_left
      · intro w hSw
        (try dsimp only at hSw)
        go_simp
        try with_reducible rfl
      go_simp
      refine wpAnyH_ready (rs := [1]) (by kernel_rfl) (by simp) ?_
      refine AllReadyH.cons rfl (fun K hK => ?_) ?_
      rotate_left
      · exact AllReadyH.nil
      go_simp
      go_wp2_with (first | (go_at_call 11; ((with_reducible refine (CW.out _ hW2).mono ?_); rintro e w4 ⟨a4, h4, rfl, hT4, b4⟩); have hW2 := hW2.trans (b4.mono hW2.size)) | (go_at_call 12; ((with_reducible refine (CN.out a4 h4 _ hT4 hW2).mono ?_); rintro e w5 ⟨hn, b5⟩); rcases hn with ⟨_, a5, h5, rfl, hC⟩ | ⟨hno, _⟩; rotate_left; exact absurd HR.out hno; have hW2 := hW2.trans (b5.mono hW2.size)))
      refine hK.out _ _ (by with_reducible exact MK.out _ hW2) (fun hHeld => ?_)
      clear hK K
      go_simp
      refine wpAnyH_ready (rs := [4]) (by kernel_rfl) (by simp) ?_
      refine AllReadyH.cons rfl (fun K hK => ?_) ?_
      rotate_left
      · exact AllReadyH.nil
      go_simp
      go_wp2_with (first | (go_at_call 11; ((with_reducible refine (CW.out _ hW2).mono ?_); rintro e w4 ⟨a4, h4, rfl, hT4, b4⟩); have hW2 := hW2.trans (b4.mono hW2.size)) | (go_at_call 12; ((with_reducible refine (CN.out a4 h4 _ hT4 hW2).mono ?_); rintro e w5 ⟨hn, b5⟩); rcases hn with ⟨_, a5, h5, rfl, hC⟩ | ⟨hno, _⟩; rotate_left; exact absurd HR.out hno; have hW2 := hW2.trans (b5.mono hW2.size)))
      refine hK.out _ _ (by with_reducible exact MK.out _ hW2) (fun hHeld => ?_)
      clear hK K
      go_simp
      refine wpAnyH_take (i := 5) (v := ?_) rfl (by kernel_rfl) (by kernel_rfl) (by kernel_rfl) (fun _ _ _ h => h) (Or.inl ⟨by rfl, ?_⟩) hHeld ?_
      rotate_left
      · intro w hSw
        (try dsimp only at hSw)
        go_simp
        try with_reducible rfl
      go_simp
      refine wpAnyH_take (i := 6) (v := ?_) rfl (by kernel_rfl) (by kernel_rfl) (by kernel_rfl) (fun _ _ _ h => h) (Or.inl ⟨by rfl, ?_⟩) hHeld ?_
      rotate_left
      · intro w hSw
        (try dsimp only at hSw)
        go_simp
        try with_reducible rfl
      go_simp
      refine wpAnyH_take (i := 7) (v := ?_) rfl (by kernel_rfl) (by kernel_rfl) (by kernel_rfl) (fun _ _ _ h => h) (Or.inl ⟨by rfl, ?_⟩) hHeld ?_
      rotate_left
      · intro w hSw
        (try dsimp only at hSw)
        go_simp
        try with_reducible rfl
      go_simp
      refine wpAnyH_take (i := 8) (v := ?_) rfl (by kernel_rfl) (by kernel_rfl) (by kernel_rfl) (fun _ _ _ h => h) (Or.inl ⟨by rfl, ?_⟩) hHeld ?_
      rotate_left
      · intro w hSw
        (try dsimp only at hSw)
        go_simp
        try with_reducible rfl
      go_simp
      refine wpAnyH_take (i := 9) (v := ?_) rfl (by kernel_rfl) (by kernel_rfl) (by kernel_rfl) (fun _ _ _ h => h) (Or.inl ⟨by rfl, ?_⟩) hHeld ?_
      rotate_left
      · intro w hSw
        (try dsimp only at hSw)
        go_simp
        try with_reducible rfl
      go_simp
      refine wpAnyH_done (by kernel_rfl) ?_ _
      refine NoPanic.normal ?_
      have HC := Lib.hid hC
      have HQ5 := Lib.hid hW2
      have R5 := Lib.hid (RawAt.below R1.out HQ5.out R1.out.lt)
      have z0 : w5.cell? ⟨w.heap.size, 0, none⟩ = some (.int .i64 N) := RawAt.cell R5.out 0
      have z1 : w5.cell? ⟨w.heap.size, 1, none⟩ = some (.slice A m c) := RawAt.cell R5.out 1
      have z2 : w5.cell? ⟨w.heap.size, 2, none⟩ = some (.slice B k d) := RawAt.cell R5.out 2
      clear hC hW2 b4 b5 hT4 CW CN MK
      go_wp2_with fail
      with_reducible refine (CSZ.out _ HQ5.out).mono ?_
      rintro e w6 ⟨rfl, b6⟩
      have HQ6 := Lib.hid (HQ5.out.trans (b6.mono HQ5.out.size))
      have HC6 := Lib.hid (HC.out.below b6)
      have R6 := Lib.hid (RawAt.below R1.out HQ6.out R1.out.lt)
      have u0 : w6.cell? ⟨w.heap.size, 0, none⟩ = some (.int .i64 N) := RawAt.cell R6.out 0
      have u1 : w6.cell? ⟨w.heap.size, 1, none⟩ = some (.slice A m c) := RawAt.cell R6.out 1
      have u2 : w6.cell? ⟨w.heap.size, 2, none⟩ = some (.slice B k d) := RawAt.cell R6.out 2
      clear b6 CSZ HC R5 HQ5 z0 z1 z2
      go_wp2_with fail
      with_reducible refine (CPL.out _ HQ6.out).mono ?_
      rintro e w7 ⟨v7, rfl, o7, b7⟩
      obtain ⟨A7, c7, rfl, hR7, _, _⟩ := rows_of_own wencS_len (by omega) o7
      have HQ7 := Lib.hid (HQ6.out.trans (b7.mono HQ6.out.size))
      have HC7 := Lib.hid (HC6.out.below b7)
      have HR7 := Lib.hid hR7
      clear b7 o7 hR7 CPL HC6 R6 HQ6 u0 u1 u2
      by_cases q : 0 ≤ at_ ∧ at_ ≤ z
      · have e1 : decide (at_ < 0) = false := decide_eq_false (by omega)
        have e2 : decide ((z : Int) < at_) = false := decide_eq_false (by omega)
        have COU := Lib.hid (crOut_yes HC7.out at_ ⟨q.1, by rw [d3]; exact q.2⟩)
        have heq := HOUT.out q.1 q.2
        rw [heq] at COU
        clear heq HOUT
        generalize dcnt (cstS L z) at_ - dsub L at_ = y at *
        have e3 : (y != y) = false := by simp
        go_wp2_with fail
        with_reducible refine (COU.out).mono ?_
        rintro e w8 ⟨rfl, b8⟩
        have HQ8 := Lib.hid (HQ7.out.trans (b8.mono HQ7.out.size))
        have HC8 := Lib.hid (HC7.out.below b8)
        have HR8 := Lib.hid (HR7.out.below b8)
        clear b8 COU
        go_wp2_with fail
        with_reducible refine (CO.out A7 c7 _ HR8.out).mono ?_
        rintro e w10 ⟨rfl, b10⟩
        have HQ10 := Lib.hid (HQ8.out.trans (b10.mono HQ8.out.size))
        have HC10 := Lib.hid (HC8.out.below b10)
        have HR10 := Lib.hid (HR8.out.below b10)
        clear b10
        by_cases q2 : at_ ≤ (cstS L z).length
        · obtain ⟨v, rfl⟩ : ∃ v : Nat, at_ = v := ⟨at_.toNat, by omega⟩
          have CIN := Lib.hid (crIn_yes HC10.out v ⟨by omega, by rw [d4]; exact q2⟩)
          rw [HIN.out v (by omega)] at CIN
          have CII := Lib.hid fun (W : World) (hA : RowsAt wencS 2 W A7 L) => CI.out A7 c7 W hA v (by omega)
          have e4 : decide (((cstS L z).length : Int) < (v : Int)) = false := decide_eq_false (by omega)
          generalize dpl (cstS L z) z v = y2 at *
          have e5 : (y2 == y2) = true := by simp
          go_wp2_with fail
          with_reducible refine (CIN.out).mono ?_
          rintro e w11 ⟨rfl, b11⟩
          have HQ11 := Lib.hid (HQ10.out.trans (b11.mono HQ10.out.size))
          have HR11 := Lib.hid (HR10.out.below b11)
          clear b11 CIN
          go_wp2_with fail
          with_reducible refine (CS.out A7 c7 _ HR11.out).mono ?_
          rintro e w12 ⟨v12, rfl, o12, b12⟩
          obtain ⟨A12, c12, rfl⟩ := own_form o12
          have HQ12 := Lib.hid (HQ11.out.trans (b12.mono HQ11.out.size))
          have HR12 := Lib.hid (HR11.out.below b12)
          clear b12 o12
          go_wp2_with fail
          with_reducible refine (CII.out _ HR12.out).mono ?_
          rintro e w13 ⟨rfl, b13⟩
          have HQ13 := Lib.hid (HQ12.out.trans (b13.mono HQ12.out.size))
          clear b13
          go_wp2_with fail
          with_reducible refine (C6.out _).mono ?_
          rintro e w9 ⟨rfl, b9⟩
          have HQ9 := Lib.hid (X1.out.trans ((HQ13.out.trans (b9.mono HQ13.out.size)).mono X1.out.size))
          clear b9
          go_wp2
          go_ret
          exact ⟨rfl, HQ9.out⟩
        · have CIN := Lib.hid (crIn_no HC10.out at_ (fun h => q2 (by rw [← d4]; exact h.2)))
          have e4 : decide (((cstS L z).length : Int) < at_) = true := decide_eq_true (by omega)
          go_wp2_with fail
          with_reducible refine (CIN.out).mono ?_
          rintro e w11 ⟨rfl, b11⟩
          have HQ11 := Lib.hid (HQ10.out.trans (b11.mono HQ10.out.size))
          have HR11 := Lib.hid (HR10.out.below b11)
          clear b11 CIN
          go_wp2_with fail
          with_reducible refine (CS.out A7 c7 _ HR11.out).mono ?_
          rintro e w12 ⟨v12, rfl, o12, b12⟩
          obtain ⟨A12, c12, rfl⟩ := own_form o12
          have HQ12 := Lib.hid (HQ11.out.trans (b12.mono HQ11.out.size))
          clear b12 o12
          go_wp2_with fail
          with_reducible refine (C6.out _).mono ?_
          rintro e w9 ⟨rfl, b9⟩
          have HQ9 := Lib.hid (X1.out.trans ((HQ12.out.trans (b9.mono HQ12.out.size)).mono X1.out.size))
          clear b9
          go_wp2
          go_ret
          exact ⟨rfl, HQ9.out⟩
      · have COU := Lib.hid (crOut_no HC7.out at_ (fun h => q ⟨h.1, by rw [← d3]; exact h.2⟩))
        have CIN0 := Lib.hid fun (W : World) (hW : Below w7.heap.size w7 W) => crIn_no (HC7.out.below hW) at_ (fun h => q ⟨h.1, by have := h.2; rw [d4] at this; omega⟩)
        by_cases q3 : at_ < 0
        · have e1 : decide (at_ < 0) = true := decide_eq_true q3
          go_wp2_with fail
          with_reducible refine (COU.out).mono ?_
          rintro e w8 ⟨rfl, b8⟩
          have HQ8 := Lib.hid (HQ7.out.trans (b8.mono HQ7.out.size))
          have CIN := Lib.hid (CIN0.out _ b8)
          clear b8 COU CIN0
          go_wp2_with fail
          with_reducible refine (CIN.out).mono ?_
          rintro e w11 ⟨rfl, b11⟩
          have HQ11 := Lib.hid (HQ8.out.trans (b11.mono HQ8.out.size))
          clear b11 CIN
          go_wp2_with fail
          with_reducible refine (C6.out _).mono ?_
          rintro e w9 ⟨rfl, b9⟩
          have HQ9 := Lib.hid (X1.out.trans ((HQ11.out.trans (b9.mono HQ11.out.size)).mono X1.out.size))
          clear b9
          go_wp2
          go_ret
          exact ⟨rfl, HQ9.out⟩
        · have e1 : decide (at_ < 0) = false := decide_eq_false q3
          have e2 : decide ((z : Int) < at_) = true := decide_eq_true (by omega)
          have e4 : decide (((cstS L z).length : Int) < at_) = true := decide_eq_true (by omega)
          go_wp2_with fail
          with_reducible refine (COU.out).mono ?_
          rintro e w8 ⟨rfl, b8⟩
          have HQ8 := Lib.hid (HQ7.out.trans (b8.mono HQ7.out.size))
          have HR8 := Lib.hid (HR7.out.below b8)
          have CIN := Lib.hid (CIN0.out _ b8)
          clear b8 COU CIN0
          go_wp2_with fail
          with_reducible refine (CIN.out).mono ?_
          rintro e w11 ⟨rfl, b11⟩
          have HQ11 := Lib.hid (HQ8.out.trans (b11.mono HQ8.out.size))
          have HR11 := Lib.hid (HR8.out.below b11)
          clear b11 CIN
          go_wp2_with fail
          with_reducible refine (CS.out A7 c7 _ HR11.out).mono ?_
          rintro e w12 ⟨v12, rfl, o12, b12⟩
          obtain ⟨A12, c12, rfl⟩ := own_form o12
          have HQ12 := Lib.hid (HQ11.out.trans (b12.mono HQ11.out.size))
          clear b12 o12
          go_wp2_with fail
          with_reducible refine (C6.out _).mono ?_
          rintro e w9 ⟨rfl, b9⟩
          have HQ9 := Lib.hid (X1.out.trans ((HQ12.out.trans (b9.mono HQ12.out.size)).mono X1.out.size))
          clear b9
          go_wp2
          go_ret
          exact ⟨rfl, HQ9.out⟩
    · have CRF := Lib.hid (CR.out false ⟨fun h => absurd h (by simp), fun h => absurd h hr⟩)
      clear hr CR hx
      go_enter Tryz.func4, Tryz.ntmps4
      go_wp2_with fail
      rw [← HW1.out]
      go_wp2_with fail
      with_reducible refine (CLF.out).mono ?_
      rintro e w2 ⟨rfl, b2⟩
      have HQ2 := Lib.hid b2
      have R2 := Lib.hid (RawAt.below R1.out HQ2.out R1.out.lt)
      have z0 : w2.cell? ⟨w.heap.size, 0, none⟩ = some (.int .i64 N) := RawAt.cell R2.out 0
      have z1 : w2.cell? ⟨w.heap.size, 1, none⟩ = some (.slice A m c) := RawAt.cell R2.out 1
      have z2 : w2.cell? ⟨w.heap.size, 2, none⟩ = some (.slice B k d) := RawAt.cell R2.out 2
      clear b2
      go_wp2_with fail
      with_reducible refine (CRF.out _ HQ2.out).mono ?_
      rintro e w3 ⟨rfl, b3⟩
      have HQ3 := Lib.hid (HQ2.out.trans (b3.mono HQ2.out.size))
      clear b3
      go_wp2_with fail
      with_reducible refine (C6.out _).mono ?_
      rintro e w9 ⟨rfl, b9⟩
      have HQ9 := Lib.hid (X1.out.trans ((HQ3.out.trans (b9.mono HQ3.out.size)).mono X1.out.size))
      clear b9
      go_wp2
      go_ret
      exact ⟨rfl, HQ9.out⟩
  · have CLT := Lib.hid (CLO.out true ⟨fun _ => g, fun _ => rfl⟩)
    clear CLO
    go_enter Tryz.func4, Tryz.ntmps4
    go_wp2_with fail
    rw [← HW1.out]
    go_wp2_with fail
    with_reducible refine (CLT.out).mono ?_
    rintro e w2 ⟨rfl, b2⟩
    have HQ2 := Lib.hid b2
    clear b2
    go_wp2_with fail
    with_reducible refine (C6.out _).mono ?_
    rintro e w9 ⟨rfl, b9⟩
    have HQ9 := Lib.hid (X1.out.trans ((HQ2.out.trans (b9.mono HQ2.out.size)).mono X1.out.size))
    clear b9
    go_wp2
    go_ret
    exact ⟨rfl, HQ9.out⟩
end Go.Proofs.YtdpmimlhchghlaaGreat
