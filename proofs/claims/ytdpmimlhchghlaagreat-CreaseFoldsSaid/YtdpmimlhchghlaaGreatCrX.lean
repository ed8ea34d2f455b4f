/- Creases: the laws' is. -/
import Derived.Test.YtdpmimlhchghlaaGreatCrV
import Derived.Deep.QuietTactic
import Derived.BigQuiet
namespace Go.Proofs.YtdpmimlhchghlaaGreat
open Go.RowKit Go.Sort
set_option linter.unusedVariables false
set_option maxHeartbeats 16000000 in
set_option maxRecDepth 100000 in
theorem is16_yes {n : Nat} {A : Option Addr} {m c : Nat} {l : List In} {B : Option Addr} {k : Nat} {hh : List (Int × Int)} {w : World} {a : Addr} {h : Nat} (d : Nat) (hx : Tx16 w n A m c l B k hh) (hr : RtOk 0 hh n) (ht : CrAt w (some a) (crP 0 (hh.map (cpl (oI l))) (zI n l)) h) :
    Calls Tryz.prog 14 #[.pointer (some a), .agg #[.int .i64 n, .slice A m c, .slice B k d]] w fun e w' => e = .returned (.bool true) ∧ Below w.heap.size w w' := by
  have hcr := hx.cr hr
  obtain ⟨d1, d2, d3, d4⟩ := cr_doc hcr
  obtain ⟨f1, f2, f3, f4⟩ := cr_facts ht
  have hzb := hx.zis.2
  have k1 := hx.k1
  have hLk : (hh.map (cpl (oI l))).length = k := by rw [List.length_map]; exact hx.hk
  have hpl : (cpcs (crP 0 (hh.map (cpl (oI l))) (zI n l))).length = (crP 0 (hh.map (cpl (oI l))) (zI n l)).length := by unfold cpcs; rw [List.length_map]
  have hbd : ∀ x ∈ hh.map (cpl (oI l)), 0 ≤ x.1 ∧ x.1 ≤ x.2 ∧ x.2 ≤ 1099511627776 := fun x hx => by
    have := CrOk.each hcr x hx
    omega
  have CSZ := Lib.hid fun (W : World) (hW : Below w.heap.size w W) => size16_any d (hx.below hW)
  have CPL := Lib.hid fun (W : World) (hW : Below w.heap.size w W) => places16_any d (hx.below hW) hr
  have CP := Lib.hid fun (W : World) (hW : Below w.heap.size w W) => crPcs (ht.below hW) (crP_tag _ _ _)
  have CZ := Lib.hid fun (W : World) (hW : Below w.heap.size w W) => crSizes (ht.below hW)
  have CH := Lib.hid fun (W : World) (hW : Below w.heap.size w W) => crHeight (ht.below hW)
  have CY := Lib.hid fun (W : World) => high_yes h (crP 0 (hh.map (cpl (oI l))) (zI n l)).length (by omega) f1 f2 (by omega) W
  rw [d3] at CZ
  clear f1 f2 hcr ht hr hx d3
  generalize hh.map (cpl (oI l)) = L at *
  have CPC := Lib.hid fun (A1 : Option Addr) (c1 : Nat) (W : World) (hA : RowsAt wencS 2 W A1 L) => rPieces16 (zI n l) A1 k c1 L W hA hLk (by omega) (by omega) hbd
  have CST := Lib.hid fun (A1 : Option Addr) (c1 : Nat) (W : World) (hA : RowsAt wencS 2 W A1 L) => rStarts16 (zI n l) A1 k c1 L W hA hLk (by omega) (by omega)
  rw [d1, hpl] at CPC
  rw [← d2] at d4
  generalize zI n l = z at *
  generalize hP : cpcs (crP 0 L z) = P at *
  generalize hM : (crP 0 L z).length = M at *
  generalize wdsum 1 (crP 0 L z) = T at *
  generalize hKK : (cstS L z).length = K at *
  generalize hSS : kfl encZ (cstS L z) = SS at *
  have HPL := Lib.hid hpl
  have kt : (T == (K : Int)) = true := by simpa using d4
  have kt' : ((K : Int) == T) = true := by simpa using d4.symm
  have kz : ((z : Int) == (z : Int)) = true := by simp
  have kM : ((M : Int) == (M : Int)) = true := by simp
  clear d1 d2 hbd hLk hpl hP hM hKK hSS d4
  have x1 : Below w.heap.size w (w.alloc (.cells #[.int .i64 n, .slice A m c, .slice B k d] 25)) := (Below.refl _ _).alloc (Nat.le_refl _) _
  have r1 : RawAt 25 (w.alloc (.cells #[.int .i64 n, .slice A m c, .slice B k d] 25)) w.heap.size #[.int .i64 n, .slice A m c, .slice B k d] := heap_alloc_new w _
  obtain ⟨W1, hW1⟩ : ∃ W1, W1 = w.alloc (.cells #[.int .i64 n, .slice A m c, .slice B k d] 25) := ⟨_, rfl⟩
  rw [← hW1] at x1 r1
  have HW1 := Lib.hid hW1
  have X1 := Lib.hid x1
  have R1 := Lib.hid r1
  have y0 : W1.cell? ⟨w.heap.size, 0, none⟩ = some (.int .i64 n) := RawAt.cell r1 0
  have y1 : W1.cell? ⟨w.heap.size, 1, none⟩ = some (.slice A m c) := RawAt.cell r1 1
  have y2 : W1.cell? ⟨w.heap.size, 2, none⟩ = some (.slice B k d) := RawAt.cell r1 2
  clear hW1 x1 r1
  clear y0 y1 y2
  go_enter Tryz.func14, Tryz.ntmps14
  go_wp2_with fail
  rw [← HW1.out]
  with_reducible refine (CP.out _ X1.out).mono ?_
  rintro e w2 ⟨v2, rfl, o2, b2⟩
  have HB2 := Lib.hid (X1.out.trans (b2.mono X1.out.size))
  have HR2 := Lib.hid (R1.out.below b2 R1.out.lt)
  obtain ⟨A2, c2, rfl, hR2, _, _⟩ := rows_of_own wencS_len (by omega) o2
  have HP2 := Lib.hid hR2
  clear b2 o2 hR2 CP X1 HW1 R1
  have MK : Hid (∀ V : World, Below w2.heap.size w2 V → (fun V : World => V.cell? ⟨w.heap.size, 0, none⟩ = some (.int .i64 n) ∧ V.cell? ⟨w.heap.size, 1, none⟩ = some (.slice A m c) ∧ V.cell? ⟨w.heap.size, 2, none⟩ = some (.slice B k d)) V) := Lib.hid fun V hV => by
    have q := RawAt.below HR2.out hV HR2.out.lt
    exact ⟨RawAt.cell q 0, RawAt.cell q 1, RawAt.cell q 2⟩
  have hW2 : Below w2.heap.size w2 w2.drew := (Below.refl _ _).drew
  go_wp2_with fail
  refine wp_region_noPanic ?_
  refine wp_region_held_drew (S := (fun V => V.cell? ⟨w.heap.size, 0, none⟩ = some (.int .i64 n) ∧ V.cell? ⟨w.heap.size, 1, none⟩ = some (.slice A m c) ∧ V.cell? ⟨w.heap.size, 2, none⟩ = some (.slice B k d))) (by kernel_rfl) (MK.out _ hW2) (fun hHeld => ?_)
  refine wpAnyH_take (i := 0) (v := ?_) rfl (by kernel_rfl) (by kernel_rfl) (by kernel_rfl) (fun _ _ _ h => h) (Or.inl ⟨by rfl, ?_⟩) hHeld ?_
  rotate_left
  · intro w hSw
    (try dsimp only at hSw)
    go_simp
    try with_reducible rfl
  go_simp
  refine wpAnyH_take (i := 2) (v := ?_) rfl (by kernel_rfl) (by kernel_rfl) (by kernel_rfl) (fun _ _ _ h => h) (Or.inl ⟨by rfl, ?_⟩) hHeld ?_
  rotate_left
  · intro w hSw
    (try dsimp only at hSw)
    go_simp
    try with_reducible rfl
  go_simp
  refine wpAnyH_ready (rs := [1]) (by kernel_rfl) (by simp) ?_
  refine AllReadyH.cons rfl (fun K hK => ?_) ?_
  rotate_left
  · exact AllReadyH.nil
  go_simp
  go_wp2_with (first | (go_at_call 15; ((with_reducible refine (CSZ.out _ (HB2.out.trans (hW2.mono HB2.out.size))).mono ?_); rintro e w4 ⟨rfl, b4⟩); have hW2 := hW2.trans (b4.mono hW2.size)) | (go_at_call 16; ((with_reducible refine (CPL.out _ (HB2.out.trans (hW2.mono HB2.out.size))).mono ?_); rintro e w5 ⟨v5, rfl, o5, b5⟩); obtain ⟨A5, c5, rfl, hR5, _, _⟩ := rows_of_own wencS_len (by omega) o5; have hW2 := hW2.trans (b5.mono hW2.size); clear o5) | (go_at_call 41; ((with_reducible refine (CPC.out A5 c5 _ hR5).mono ?_); rintro e w6 ⟨v6, rfl, o6, b6⟩); obtain ⟨A6, c6, rfl, hR6, _, _⟩ := rows_of_own wencS_len (by omega) o6; have hW2 := hW2.trans (b6.mono hW2.size); clear o6 hR5) | (go_at_call 20; ((with_reducible refine (CST.out A5 c5 _ hR5).mono ?_); rintro e w7 ⟨v7, rfl, o7, b7⟩); obtain ⟨A7, c7, rfl⟩ := own_form o7; have hW2 := hW2.trans (b7.mono hW2.size); clear o7 hR5) | (go_at_call 34; ((with_reducible refine (CH.out _ (HB2.out.trans (hW2.mono HB2.out.size))).mono ?_); rintro e w8 ⟨rfl, b8⟩); have hW2 := hW2.trans (b8.mono hW2.size)) | (go_at_call 42; ((with_reducible refine (CY.out _).mono ?_); rintro e w9 ⟨rfl, hw9⟩); have hw9 := hw9.symm; subst hw9))
  refine hK.out _ _ (by with_reducible exact MK.out _ hW2) (fun hHeld => ?_)
  clear hK K
  go_simp
  refine wpAnyH_ready (rs := [3]) (by kernel_rfl) (by simp) ?_
  refine AllReadyH.cons rfl (fun K hK => ?_) ?_
  rotate_left
  · exact AllReadyH.nil
  go_simp
  go_wp2_with (first | (go_at_call 15; ((with_reducible refine (CSZ.out _ (HB2.out.trans (hW2.mono HB2.out.size))).mono ?_); rintro e w4 ⟨rfl, b4⟩); have hW2 := hW2.trans (b4.mono hW2.size)) | (go_at_call 16; ((with_reducible refine (CPL.out _ (HB2.out.trans (hW2.mono HB2.out.size))).mono ?_); rintro e w5 ⟨v5, rfl, o5, b5⟩); obtain ⟨A5, c5, rfl, hR5, _, _⟩ := rows_of_own wencS_len (by omega) o5; have hW2 := hW2.trans (b5.mono hW2.size); clear o5) | (go_at_call 41; ((with_reducible refine (CPC.out A5 c5 _ hR5).mono ?_); rintro e w6 ⟨v6, rfl, o6, b6⟩); obtain ⟨A6, c6, rfl, hR6, _, _⟩ := rows_of_own wencS_len (by omega) o6; have hW2 := hW2.trans (b6.mono hW2.size); clear o6 hR5) | (go_at_call 20; ((with_reducible refine (CST.out A5 c5 _ hR5).mono ?_); rintro e w7 ⟨v7, rfl, o7, b7⟩); obtain ⟨A7, c7, rfl⟩ := own_form o7; have hW2 := hW2.trans (b7.mono hW2.size); clear o7 hR5) | (go_at_call 34; ((with_reducible refine (CH.out _ (HB2.out.trans (hW2.mono HB2.out.size))).mono ?_); rintro e w8 ⟨rfl, b8⟩); have hW2 := hW2.trans (b8.mono hW2.size)) | (go_at_call 42; ((with_reducible refine (CY.out _).mono ?_); rintro e w9 ⟨rfl, hw9⟩); have hw9 := hw9.symm; subst hw9))
  refine hK.out _ _ (by with_reducible exact MK.out _ hW2) (fun hHeld => ?_)
  clear hK K
  go_simp
  refine wpAnyH_ready (rs := [4]) (by kernel_rfl) (by simp) ?_
  refine AllReadyH.cons rfl (fun K hK => ?_) ?_
  rotate_left
  · exact AllReadyH.nil
  go_simp
  go_wp2_with (first | (go_at_call 15; ((with_reducible refine (CSZ.out _ (HB2.out.trans (hW2.mono HB2.out.size))).mono ?_); rintro e w4 ⟨rfl, b4⟩); have hW2 := hW2.trans (b4.mono hW2.size)) | (go_at_call 16; ((with_reducible refine (CPL.out _ (HB2.out.trans (hW2.mono HB2.out.size))).mono ?_); rintro e w5 ⟨v5, rfl, o5, b5⟩); obtain ⟨A5, c5, rfl, hR5, _, _⟩ := rows_of_own wencS_len (by omega) o5; have hW2 := hW2.trans (b5.mono hW2.size); clear o5) | (go_at_call 41; ((with_reducible refine (CPC.out A5 c5 _ hR5).mono ?_); rintro e w6 ⟨v6, rfl, o6, b6⟩); obtain ⟨A6, c6, rfl, hR6, _, _⟩ := rows_of_own wencS_len (by omega) o6; have hW2 := hW2.trans (b6.mono hW2.size); clear o6 hR5) | (go_at_call 20; ((with_reducible refine (CST.out A5 c5 _ hR5).mono ?_); rintro e w7 ⟨v7, rfl, o7, b7⟩); obtain ⟨A7, c7, rfl⟩ := own_form o7; have hW2 := hW2.trans (b7.mono hW2.size); clear o7 hR5) | (go_at_call 34; ((with_reducible refine (CH.out _ (HB2.out.trans (hW2.mono HB2.out.size))).mono ?_); rintro e w8 ⟨rfl, b8⟩); have hW2 := hW2.trans (b8.mono hW2.size)) | (go_at_call 42; ((with_reducible refine (CY.out _).mono ?_); rintro e w9 ⟨rfl, hw9⟩); have hw9 := hw9.symm; subst hw9))
  refine hK.out _ _ (by with_reducible exact MK.out _ hW2) (fun hHeld => ?_)
  clear hK K
  go_simp
  refine wpAnyH_take (i := 5) (v := ?_) rfl (by kernel_rfl) (by kernel_rfl) (by kernel_rfl) (fun _ _ _ h => h) (Or.inl ⟨by rfl, ?_⟩) hHeld ?_
  rotate_left
  · intro w hSw
    (try dsimp only at hSw)
    go_simp
    try with_reducible rfl
  go_simp
  refine wpAnyH_done (by kernel_rfl) ?_ _
  refine NoPanic.normal ?_
  have HB6 := Lib.hid hW2
  have HP6 := Lib.hid hR6
  have HP3 := Lib.hid (HP2.out.below hW2)
  clear hR6 hW2 b4 b5 b6 HP2
  go_wp2_with fail
  go_loopg [22] M (fun g i wr => ∃ j : Nat, i = .int .i64 j ∧ j ≤ M ∧ M - j ≤ g ∧ Hid (Below w6.heap.size w6 wr))
  case atStart => exact ⟨0, rfl, by omega, by omega, Lib.hid (Below.refl _ _)⟩
  case round =>
    obtain ⟨j, rfl, j1, j2, hb⟩ := hrel
    by_cases hlt : j < M
    · have hjl : j < P.length := by rw [HPL.out]; exact hlt
      have hb6 := HB6.out
      obtain ⟨bA, off, rfl, hbA, d0, d1⟩ := wrowsS ((HP3.out.below (show Below w6.heap.size w6 w6 from Below.refl _ _)).below hb.out) hjl
      obtain ⟨bB, off2, rfl, hbB, e0, e1⟩ := wrowsS (HP6.out.below hb.out) hjl
      generalize P[j] = it at *
      obtain ⟨p1, p2⟩ := it
      simp only at d0 d1 e0 e1
      have i1 : (0 : Int) ≤ j := by omega
      have i2 : (j : Int) < M := by omega
      have k2 : decide ((M : Int) ≤ j) = false := decide_eq_false (by omega)
      have k3 : decide (M ≤ j) = false := decide_eq_false (by omega)
      have k4 : ¬ ((M : Int) ≤ j) := by omega
      have x3 : Below wr.heap.size wr (wr.alloc (.cells #[.int .i64 p1, .int .i64 p2] 89)) := (Below.refl _ _).alloc (Nat.le_refl _) _
      have R3 : RawAt 89 (wr.alloc (.cells #[.int .i64 p1, .int .i64 p2] 89)) wr.heap.size #[.int .i64 p1, .int .i64 p2] := heap_alloc_new wr _
      have HB3 := Lib.hid (hb.out.trans (x3.mono hb.out.size))
      have g0 : (wr.alloc (.cells #[.int .i64 p1, .int .i64 p2] 89)).cell? ⟨wr.heap.size, 0, none⟩ = some (.int .i64 p1) := RawAt.cell R3 0
      have g1 : (wr.alloc (.cells #[.int .i64 p1, .int .i64 p2] 89)).cell? ⟨wr.heap.size, 1, none⟩ = some (.int .i64 p2) := RawAt.cell R3 1
      have e0' := ((old_cells x3).1 _ (off2 + j * 2) hbB).trans e0
      have e1' := ((old_cells x3).1 _ (off2 + j * 2 + 1) hbB).trans e1
      clear x3 R3 hb hb6 HB6
      obtain ⟨W3, hW3⟩ : ∃ W3, W3 = wr.alloc (.cells #[.int .i64 p1, .int .i64 p2] 89) := ⟨_, rfl⟩
      rw [← hW3] at HB3 g0 g1 e0' e1'
      have HW3 := Lib.hid hW3
      clear hW3
      go_wp2_with fail
      rw [← HW3.out]
      go_quiet (fail)
      have HQ := Lib.hid (drewN_below HB3.out nq)
      clear HB3 g0 g1 e0' e1' d0 d1 e0 e1
      generalize W3.drewN nq = W4 at *
      go_wp2
      go_roundg (gk - 1)
      case measure => omega
      case rel => exact ⟨j + 1, by go_num, by omega, by omega, HQ⟩
    · obtain rfl : j = M := by omega
      have HB7 := Lib.hid (HB6.out.trans (hb.out.mono HB6.out.size))
      have HB8 := Lib.hid (HB2.out.trans (HB7.out.mono HB2.out.size))
      have CZ7 := Lib.hid (CZ.out _ HB8.out)
      clear hb
      go_wp2_with fail
      with_reducible refine (CZ7.out).mono ?_
      rintro e w8 ⟨rfl, b8⟩
      have HB9 := Lib.hid (HB7.out.trans (b8.mono HB7.out.size))
      clear b8 CZ7 CZ
      have hW2 : Below w2.heap.size w2 w8.drew := HB9.out.drew
      go_wp2_with fail
      refine wp_region_noPanic ?_
      refine wp_region_held_drew (S := (fun V => V.cell? ⟨w.heap.size, 0, none⟩ = some (.int .i64 n) ∧ V.cell? ⟨w.heap.size, 1, none⟩ = some (.slice A m c) ∧ V.cell? ⟨w.heap.size, 2, none⟩ = some (.slice B k d))) (by kernel_rfl) (MK.out _ hW2) (fun hHeld => ?_)
      refine wpAnyH_take (i := 0) (v := ?_) rfl (by kernel_rfl) (by kernel_rfl) (by kernel_rfl) (fun _ _ _ h => h) (Or.inl ⟨by rfl, ?_⟩) hHeld ?_
      rotate_left
      · intro w hSw
        (try dsimp only at hSw)
        go_simp
        try with_reducible rfl
      go_simp
      refine wpAnyH_take (i := 1) (v := ?_) rfl (by kernel_rfl) (by kernel_rfl) (by kernel_rfl) (fun _ _ _ h => h) (Or.inl ⟨by rfl, ?_⟩) hHeld ?_
      rotate_left
      · intro w hSw
        (try dsimp only at hSw)
        go_simp
        try with_reducible rfl
      go_simp
      refine wpAnyH_take (i := 2) (v := ?_) rfl (by kernel_rfl) (by kernel_rfl) (by kernel_rfl) (fun _ _ _ h => h) (Or.inl ⟨by rfl, ?_⟩) hHeld ?_
      rotate_left
      · intro w hSw
        (try dsimp only at hSw)
        go_simp
        try with_reducible rfl
      go_simp
      refine wpAnyH_take (i := 3) (v := ?_) rfl (by kernel_rfl) (by kernel_rfl) (by kernel_rfl) (fun _ _ _ h => h) (Or.inl ⟨by rfl, ?_⟩) hHeld ?_
      rotate_left
      · intro w hSw
        (try dsimp only at hSw)
        go_simp
        try with_reducible rfl
      go_simp
      refine wpAnyH_take (i := 4) (v := ?_) rfl (by kernel_rfl) (by kernel_rfl) (by kernel_rfl) (fun _ _ _ h => h) (Or.inl ⟨by rfl, ?_⟩) hHeld ?_
      rotate_left
      · intro w hSw
        (try dsimp only at hSw)
        go_simp
        try with_reducible rfl
      go_simp
      refine wpAnyH_take (i := 5) (v := ?_) rfl (by kernel_rfl) (by kernel_rfl) (by kernel_rfl) (fun _ _ _ h => h) (Or.inl ⟨by rfl, ?_⟩) hHeld ?_
      rotate_left
      · intro w hSw
        (try dsimp only at hSw)
        go_simp
        try with_reducible rfl
      go_simp
      refine wpAnyH_take (i := 6) (v := ?_) rfl (by kernel_rfl) (by kernel_rfl) (by kernel_rfl) (fun _ _ _ h => h) (Or.inl ⟨by rfl, ?_⟩) hHeld ?_
      rotate_left
      · intro w hSw
        (try dsimp only at hSw)
        go_simp
        try with_reducible rfl
      go_simp
      refine wpAnyH_take (i := 7) (v := ?_) rfl (by kernel_rfl) (by kernel_rfl) (by kernel_rfl) (fun _ _ _ h => h) (Or.inl ⟨by rfl, ?_⟩) hHeld ?_
      rotate_left
      · intro w hSw
        (try dsimp only at hSw)
        go_simp
        try with_reducible rfl
      go_simp
      refine wpAnyH_ready (rs := [8]) (by kernel_rfl) (by simp) ?_
      refine AllReadyH.cons rfl (fun K hK => ?_) ?_
      rotate_left
      · exact AllReadyH.nil
      go_simp
      go_wp2_with (first | (go_at_call 15; ((with_reducible refine (CSZ.out _ (HB2.out.trans (hW2.mono HB2.out.size))).mono ?_); rintro e w4 ⟨rfl, b4⟩); have hW2 := hW2.trans (b4.mono hW2.size)) | (go_at_call 16; ((with_reducible refine (CPL.out _ (HB2.out.trans (hW2.mono HB2.out.size))).mono ?_); rintro e w5 ⟨v5, rfl, o5, b5⟩); obtain ⟨A5, c5, rfl, hR5, _, _⟩ := rows_of_own wencS_len (by omega) o5; have hW2 := hW2.trans (b5.mono hW2.size); clear o5) | (go_at_call 41; ((with_reducible refine (CPC.out A5 c5 _ hR5).mono ?_); rintro e w6 ⟨v6, rfl, o6, b6⟩); obtain ⟨A6, c6, rfl, hR6, _, _⟩ := rows_of_own wencS_len (by omega) o6; have hW2 := hW2.trans (b6.mono hW2.size); clear o6 hR5) | (go_at_call 20; ((with_reducible refine (CST.out A5 c5 _ hR5).mono ?_); rintro e w7 ⟨v7, rfl, o7, b7⟩); obtain ⟨A7, c7, rfl⟩ := own_form o7; have hW2 := hW2.trans (b7.mono hW2.size); clear o7 hR5) | (go_at_call 34; ((with_reducible refine (CH.out _ (HB2.out.trans (hW2.mono HB2.out.size))).mono ?_); rintro e w8 ⟨rfl, b8⟩); have hW2 := hW2.trans (b8.mono hW2.size)) | (go_at_call 42; ((with_reducible refine (CY.out _).mono ?_); rintro e w9 ⟨rfl, hw9⟩); have hw9 := hw9.symm; subst hw9))
      refine hK.out _ _ (by with_reducible exact MK.out _ hW2) (fun hHeld => ?_)
      clear hK K
      go_simp
      refine wpAnyH_take (i := 9) (v := ?_) rfl (by kernel_rfl) (by kernel_rfl) (by kernel_rfl) (fun _ _ _ h => h) (Or.inl ⟨by rfl, ?_⟩) hHeld ?_
      rotate_left
      · intro w hSw
        (try dsimp only at hSw)
        go_simp
        try with_reducible rfl
      go_simp
      refine wpAnyH_take (i := 10) (v := ?_) rfl (by kernel_rfl) (by kernel_rfl) (by kernel_rfl) (fun _ _ _ h => h) (Or.inl ⟨by rfl, ?_⟩) hHeld ?_
      rotate_left
      · intro w hSw
        (try dsimp only at hSw)
        go_simp
        try with_reducible rfl
      go_simp
      refine wpAnyH_take (i := 11) (v := ?_) rfl (by kernel_rfl) (by kernel_rfl) (by kernel_rfl) (fun _ _ _ h => h) (Or.inl ⟨by rfl, ?_⟩) hHeld ?_
      rotate_left
      · intro w hSw
        (try dsimp only at hSw)
        go_simp
        try with_reducible rfl
      go_simp
      refine wpAnyH_take (i := 12) (v := ?_) rfl (by kernel_rfl) (by kernel_rfl) (by kernel_rfl) (fun _ _ _ h => h) (Or.inl ⟨by rfl, ?_⟩) hHeld ?_
      rotate_left
      · intro w hSw
        (try dsimp only at hSw)
        go_simp
        try with_reducible rfl
      go_simp
      refine wpAnyH_take (i := 13) (v := ?_) rfl (by kernel_rfl) (by kernel_rfl) (by kernel_rfl) (fun _ _ _ h => h) (Or.inl ⟨by rfl, ?_⟩) hHeld ?_
      rotate_left
      · intro w hSw
        (try dsimp only at hSw)
        go_simp
        try with_reducible rfl
      go_simp
      refine wpAnyH_take (i := 15) (v := ?_) rfl (by kernel_rfl) (by kernel_rfl) (by kernel_rfl) (fun _ _ _ h => h) (Or.inl ⟨by rfl, ?_⟩) hHeld ?_
      rotate_left
      · intro w hSw
        (try dsimp only at hSw)
        go_simp
        try with_reducible rfl
      go_simp
      refine wpAnyH_ready (rs := [14]) (by kernel_rfl) (by simp) ?_
      refine AllReadyH.cons rfl (fun K hK => ?_) ?_
      rotate_left
      · exact AllReadyH.nil
      go_simp
      go_wp2_with (first | (go_at_call 15; ((with_reducible refine (CSZ.out _ (HB2.out.trans (hW2.mono HB2.out.size))).mono ?_); rintro e w4 ⟨rfl, b4⟩); have hW2 := hW2.trans (b4.mono hW2.size)) | (go_at_call 16; ((with_reducible refine (CPL.out _ (HB2.out.trans (hW2.mono HB2.out.size))).mono ?_); rintro e w5 ⟨v5, rfl, o5, b5⟩); obtain ⟨A5, c5, rfl, hR5, _, _⟩ := rows_of_own wencS_len (by omega) o5; have hW2 := hW2.trans (b5.mono hW2.size); clear o5) | (go_at_call 41; ((with_reducible refine (CPC.out A5 c5 _ hR5).mono ?_); rintro e w6 ⟨v6, rfl, o6, b6⟩); obtain ⟨A6, c6, rfl, hR6, _, _⟩ := rows_of_own wencS_len (by omega) o6; have hW2 := hW2.trans (b6.mono hW2.size); clear o6 hR5) | (go_at_call 20; ((with_reducible refine (CST.out A5 c5 _ hR5).mono ?_); rintro e w7 ⟨v7, rfl, o7, b7⟩); obtain ⟨A7, c7, rfl⟩ := own_form o7; have hW2 := hW2.trans (b7.mono hW2.size); clear o7 hR5) | (go_at_call 34; ((with_reducible refine (CH.out _ (HB2.out.trans (hW2.mono HB2.out.size))).mono ?_); rintro e w8 ⟨rfl, b8⟩); have hW2 := hW2.trans (b8.mono hW2.size)) | (go_at_call 42; ((with_reducible refine (CY.out _).mono ?_); rintro e w9 ⟨rfl, hw9⟩); have hw9 := hw9.symm; subst hw9))
      refine hK.out _ _ (by with_reducible exact MK.out _ hW2) (fun hHeld => ?_)
      clear hK K
      go_simp
      refine wpAnyH_ready (rs := [16]) (by kernel_rfl) (by simp) ?_
      refine AllReadyH.cons rfl (fun K hK => ?_) ?_
      rotate_left
      · exact AllReadyH.nil
      go_simp
      go_wp2_with (first | (go_at_call 15; ((with_reducible refine (CSZ.out _ (HB2.out.trans (hW2.mono HB2.out.size))).mono ?_); rintro e w4 ⟨rfl, b4⟩); have hW2 := hW2.trans (b4.mono hW2.size)) | (go_at_call 16; ((with_reducible refine (CPL.out _ (HB2.out.trans (hW2.mono HB2.out.size))).mono ?_); rintro e w5 ⟨v5, rfl, o5, b5⟩); obtain ⟨A5, c5, rfl, hR5, _, _⟩ := rows_of_own wencS_len (by omega) o5; have hW2 := hW2.trans (b5.mono hW2.size); clear o5) | (go_at_call 41; ((with_reducible refine (CPC.out A5 c5 _ hR5).mono ?_); rintro e w6 ⟨v6, rfl, o6, b6⟩); obtain ⟨A6, c6, rfl, hR6, _, _⟩ := rows_of_own wencS_len (by omega) o6; have hW2 := hW2.trans (b6.mono hW2.size); clear o6 hR5) | (go_at_call 20; ((with_reducible refine (CST.out A5 c5 _ hR5).mono ?_); rintro e w7 ⟨v7, rfl, o7, b7⟩); obtain ⟨A7, c7, rfl⟩ := own_form o7; have hW2 := hW2.trans (b7.mono hW2.size); clear o7 hR5) | (go_at_call 34; ((with_reducible refine (CH.out _ (HB2.out.trans (hW2.mono HB2.out.size))).mono ?_); rintro e w8 ⟨rfl, b8⟩); have hW2 := hW2.trans (b8.mono hW2.size)) | (go_at_call 42; ((with_reducible refine (CY.out _).mono ?_); rintro e w9 ⟨rfl, hw9⟩); have hw9 := hw9.symm; subst hw9))
      refine hK.out _ _ (by with_reducible exact MK.out _ hW2) (fun hHeld => ?_)
      clear hK K
      go_simp
      refine wpAnyH_ready (rs := [17]) (by kernel_rfl) (by simp) ?_
      refine AllReadyH.cons rfl (fun K hK => ?_) ?_
      rotate_left
      · exact AllReadyH.nil
      go_simp
      go_wp2_with (first | (go_at_call 15; ((with_reducible refine (CSZ.out _ (HB2.out.trans (hW2.mono HB2.out.size))).mono ?_); rintro e w4 ⟨rfl, b4⟩); have hW2 := hW2.trans (b4.mono hW2.size)) | (go_at_call 16; ((with_reducible refine (CPL.out _ (HB2.out.trans (hW2.mono HB2.out.size))).mono ?_); rintro e w5 ⟨v5, rfl, o5, b5⟩); obtain ⟨A5, c5, rfl, hR5, _, _⟩ := rows_of_own wencS_len (by omega) o5; have hW2 := hW2.trans (b5.mono hW2.size); clear o5) | (go_at_call 41; ((with_reducible refine (CPC.out A5 c5 _ hR5).mono ?_); rintro e w6 ⟨v6, rfl, o6, b6⟩); obtain ⟨A6, c6, rfl, hR6, _, _⟩ := rows_of_own wencS_len (by omega) o6; have hW2 := hW2.trans (b6.mono hW2.size); clear o6 hR5) | (go_at_call 20; ((with_reducible refine (CST.out A5 c5 _ hR5).mono ?_); rintro e w7 ⟨v7, rfl, o7, b7⟩); obtain ⟨A7, c7, rfl⟩ := own_form o7; have hW2 := hW2.trans (b7.mono hW2.size); clear o7 hR5) | (go_at_call 34; ((with_reducible refine (CH.out _ (HB2.out.trans (hW2.mono HB2.out.size))).mono ?_); rintro e w8 ⟨rfl, b8⟩); have hW2 := hW2.trans (b8.mono hW2.size)) | (go_at_call 42; ((with_reducible refine (CY.out _).mono ?_); rintro e w9 ⟨rfl, hw9⟩); have hw9 := hw9.symm; subst hw9))
      refine hK.out _ _ (by with_reducible exact MK.out _ hW2) (fun hHeld => ?_)
      clear hK K
      go_simp
      refine wpAnyH_take (i := 18) (v := ?_) rfl (by kernel_rfl) (by kernel_rfl) (by kernel_rfl) (fun _ _ _ h => h) (Or.inl ⟨by rfl, ?_⟩) hHeld ?_
      rotate_left
      · intro w hSw
        (try dsimp only at hSw)
        go_simp
        try with_reducible rfl
      go_simp
      refine wpAnyH_take (i := 19) (v := ?_) rfl (by kernel_rfl) (by kernel_rfl) (by kernel_rfl) (fun _ _ _ h => h) (Or.inl ⟨by rfl, ?_⟩) hHeld ?_
      rotate_left
      · intro w hSw
        (try dsimp only at hSw)
        go_simp
        try with_reducible rfl
      go_simp
      refine wpAnyH_take (i := 20) (v := ?_) rfl (by kernel_rfl) (by kernel_rfl) (by kernel_rfl) (fun _ _ _ h => h) (Or.inl ⟨by rfl, ?_⟩) hHeld ?_
      rotate_left
      · intro w hSw
        (try dsimp only at hSw)
        go_simp
        try with_reducible rfl
      go_simp
      refine wpAnyH_take (i := 21) (v := ?_) rfl (by kernel_rfl) (by kernel_rfl) (by kernel_rfl) (fun _ _ _ h => h) (Or.inl ⟨by rfl, ?_⟩) hHeld ?_
      rotate_left
      · intro w hSw
        (try dsimp only at hSw)
        go_simp
        try with_reducible rfl
      go_simp
      refine wpAnyH_take (i := 22) (v := ?_) rfl (by kernel_rfl) (by kernel_rfl) (by kernel_rfl) (fun _ _ _ h => h) (Or.inl ⟨by rfl, ?_⟩) hHeld ?_
      rotate_left
      · intro w hSw
        (try dsimp only at hSw)
        go_simp
        try with_reducible rfl
      go_simp
      refine wpAnyH_take (i := 24) (v := ?_) rfl (by kernel_rfl) (by kernel_rfl) (by kernel_rfl) (fun _ _ _ h => h) (Or.inl ⟨by rfl, ?_⟩) hHeld ?_
      rotate_left
      · intro w hSw
        (try dsimp only at hSw)
        go_simp
        try with_reducible rfl
      go_simp
      refine wpAnyH_take (i := 25) (v := ?_) rfl (by kernel_rfl) (by kernel_rfl) (by kernel_rfl) (fun _ _ _ h => h) (Or.inl ⟨by rfl, ?_⟩) hHeld ?_
      rotate_left
      · intro w hSw
        (try dsimp only at hSw)
        go_simp
        try with_reducible rfl
      go_simp
      refine wpAnyH_ready (rs := [23]) (by kernel_rfl) (by simp) ?_
      refine AllReadyH.cons rfl (fun K hK => ?_) ?_
      rotate_left
      · exact AllReadyH.nil
      go_simp
      go_wp2_with (first | (go_at_call 15; ((with_reducible refine (CSZ.out _ (HB2.out.trans (hW2.mono HB2.out.size))).mono ?_); rintro e w4 ⟨rfl, b4⟩); have hW2 := hW2.trans (b4.mono hW2.size)) | (go_at_call 16; ((with_reducible refine (CPL.out _ (HB2.out.trans (hW2.mono HB2.out.size))).mono ?_); rintro e w5 ⟨v5, rfl, o5, b5⟩); obtain ⟨A5, c5, rfl, hR5, _, _⟩ := rows_of_own wencS_len (by omega) o5; have hW2 := hW2.trans (b5.mono hW2.size); clear o5) | (go_at_call 41; ((with_reducible refine (CPC.out A5 c5 _ hR5).mono ?_); rintro e w6 ⟨v6, rfl, o6, b6⟩); obtain ⟨A6, c6, rfl, hR6, _, _⟩ := rows_of_own wencS_len (by omega) o6; have hW2 := hW2.trans (b6.mono hW2.size); clear o6 hR5) | (go_at_call 20; ((with_reducible refine (CST.out A5 c5 _ hR5).mono ?_); rintro e w7 ⟨v7, rfl, o7, b7⟩); obtain ⟨A7, c7, rfl⟩ := own_form o7; have hW2 := hW2.trans (b7.mono hW2.size); clear o7 hR5) | (go_at_call 34; ((with_reducible refine (CH.out _ (HB2.out.trans (hW2.mono HB2.out.size))).mono ?_); rintro e w8 ⟨rfl, b8⟩); have hW2 := hW2.trans (b8.mono hW2.size)) | (go_at_call 42; ((with_reducible refine (CY.out _).mono ?_); rintro e w9 ⟨rfl, hw9⟩); have hw9 := hw9.symm; subst hw9))
      refine hK.out _ _ (by with_reducible exact MK.out _ hW2) (fun hHeld => ?_)
      clear hK K
      go_simp
      refine wpAnyH_ready (rs := [26]) (by kernel_rfl) (by simp) ?_
      refine AllReadyH.cons rfl (fun K hK => ?_) ?_
      rotate_left
      · exact AllReadyH.nil
      go_simp
      go_wp2_with (first | (go_at_call 15; ((with_reducible refine (CSZ.out _ (HB2.out.trans (hW2.mono HB2.out.size))).mono ?_); rintro e w4 ⟨rfl, b4⟩); have hW2 := hW2.trans (b4.mono hW2.size)) | (go_at_call 16; ((with_reducible refine (CPL.out _ (HB2.out.trans (hW2.mono HB2.out.size))).mono ?_); rintro e w5 ⟨v5, rfl, o5, b5⟩); obtain ⟨A5, c5, rfl, hR5, _, _⟩ := rows_of_own wencS_len (by omega) o5; have hW2 := hW2.trans (b5.mono hW2.size); clear o5) | (go_at_call 41; ((with_reducible refine (CPC.out A5 c5 _ hR5).mono ?_); rintro e w6 ⟨v6, rfl, o6, b6⟩); obtain ⟨A6, c6, rfl, hR6, _, _⟩ := rows_of_own wencS_len (by omega) o6; have hW2 := hW2.trans (b6.mono hW2.size); clear o6 hR5) | (go_at_call 20; ((with_reducible refine (CST.out A5 c5 _ hR5).mono ?_); rintro e w7 ⟨v7, rfl, o7, b7⟩); obtain ⟨A7, c7, rfl⟩ := own_form o7; have hW2 := hW2.trans (b7.mono hW2.size); clear o7 hR5) | (go_at_call 34; ((with_reducible refine (CH.out _ (HB2.out.trans (hW2.mono HB2.out.size))).mono ?_); rintro e w8 ⟨rfl, b8⟩); have hW2 := hW2.trans (b8.mono hW2.size)) | (go_at_call 42; ((with_reducible refine (CY.out _).mono ?_); rintro e w9 ⟨rfl, hw9⟩); have hw9 := hw9.symm; subst hw9))
      refine hK.out _ _ (by with_reducible exact MK.out _ hW2) (fun hHeld => ?_)
      clear hK K
      go_simp
      refine wpAnyH_take (i := 27) (v := ?_) rfl (by kernel_rfl) (by kernel_rfl) (by kernel_rfl) (fun _ _ _ h => h) (Or.inl ⟨by rfl, ?_⟩) hHeld ?_
      rotate_left
      · intro w hSw
        (try dsimp only at hSw)
        go_simp
        try with_reducible rfl
      go_simp
      refine wpAnyH_take (i := 28) (v := ?_) rfl (by kernel_rfl) (by kernel_rfl) (by kernel_rfl) (fun _ _ _ h => h) (Or.inl ⟨by rfl, ?_⟩) hHeld ?_
      rotate_left
      · intro w hSw
        (try dsimp only at hSw)
        go_simp
        try with_reducible rfl
      go_simp
      refine wpAnyH_done (by kernel_rfl) ?_ _
      refine NoPanic.normal ?_
      have HBX := Lib.hid (HB2.out.trans (hW2.mono HB2.out.size))
      clear hW2
      go_wp2
      go_ret
      exact ⟨rfl, HBX.out⟩
end Go.Proofs.YtdpmimlhchghlaaGreat
