/- Flow: the law's is, where it is so. -/
import Derived.Test.YtnfjleobcfhpnaaFlI
import Derived.Test.YtnfjleobcfhpnaaFlE
import Derived.Test.YtnfjleobcfhpnaaTreeK
import Derived.Test.YtnfjleobcfhpnaaRefHigh
namespace Go.Proofs.Ytnfjleobcfhpnaa
open Go.RowKit
set_option linter.unusedVariables false
theorem tp_facts {w : World} {p : Option Addr} {l : List I7} {h : Nat} (ht : TP w p l h) : (h = 0 ↔ l.length = 0) ∧ (2 ≤ h → 2 * four (h - 1) ≤ (l.length : Int)) ∧ h ≤ 30000 ∧ l.length ≤ 30000 := by
  cases p with
  | none =>
    rcases ht with ⟨_, rfl, rfl⟩ | ⟨b, v, h1, _⟩
    · exact ⟨by simp, fun h => absurd h (by omega), by omega, by simp⟩
    · cases h1
  | some a =>
    obtain ⟨_, a1, a2, a3, a4⟩ := TT.facts (w := w) (a := a) ht
    exact ⟨a2, a3, a4, a1⟩
theorem fl_facts {w : World} {p : Option Addr} {l : List Ln} {h : Nat} (ht : FlAt w p l h) : (h = 0 ↔ l.length = 0) ∧ (2 ≤ h → four (h - 2) ≤ (l.length : Int) + 1) ∧ h ≤ 30000 ∧ l.length ≤ 30000 := by
  have key : ∀ q, TP w q (l.map itm) h → (h = 0 ↔ l.length = 0) ∧ (2 ≤ h → four (h - 2) ≤ (l.length : Int) + 1) ∧ h ≤ 30000 ∧ l.length ≤ 30000 := fun q hq => by
    obtain ⟨a1, a2, a3, a4⟩ := tp_facts hq
    rw [List.length_map] at a1 a2 a4
    refine ⟨a1, fun h2 => ?_, a3, a4⟩
    have q1 := a2 h2
    have q2 := four_succ (h - 2)
    have q3 := four_pos (h - 2)
    rw [show h - 1 = h - 2 + 1 from by omega] at q1
    omega
  rcases ht with ⟨rfl, rfl, rfl⟩ | ⟨b, q, h1, h2, h3⟩
  · exact ⟨by simp, fun h => absurd h (by omega), by omega, by simp⟩
  · exact key q h3
set_option maxHeartbeats 16000000 in
set_option maxRecDepth 100000 in
theorem flis {a : Addr} {l : List Ln} {h : Nat} {w : World} (ht : FlAt w (some a) l h) (hl : Loks l) (B : Option Addr) (n d : Nat) (hB : RowsAt encL 4 w B l) (hn : l.length = n) :
    Calls Try.prog 29 #[.pointer (some a), .slice B n d] w fun e w' => e = .returned (.bool true) ∧ Below w.heap.size w w' := by
  obtain ⟨f1, f2, f3, f4⟩ := fl_facts ht
  obtain ⟨pl, hp, _⟩ := flwidest ht hl
  have CL := Lib.hid (fllines ht (by omega))
  have CW := Lib.hid fun (W : World) (hW : Below w.heap.size w W) => by
    obtain ⟨pl2, hp2, c⟩ := flwidest (ht.below hW) hl
    obtain rfl := hp2.unique hp
    exact c
  have C0 := Lib.hid fun (W : World) (hW : Below w.heap.size w W) => flsum (ht.below hW) hl
  have CC := Lib.hid fun (W : World) (hW : Below w.heap.size w W) => flcount (ht.below hW) hl
  have CH := Lib.hid fun (W : World) (hW : Below w.heap.size w W) => flheight (ht.below hW)
  have CU := Lib.hid fun (W : World) (hW : Below w.heap.size w W) => lsum22 B n d l W (hB.below hW) hn (by omega) hl
  have CV := Lib.hid fun (W : World) (hW : Below w.heap.size w W) => lwid22 B n d l W (hB.below hW) hn (by omega) hl pl hp
  have CY := Lib.hid fun (W : World) => high_yes h n (by omega) (by rw [← hn]; exact f1) (by rw [← hn]; exact f2) (by omega) W
  have HB := Lib.hid hB
  have HN := Lib.hid hn
  have hnn : n ≤ 30000 := by omega
  rw [hn] at CL CC
  obtain ⟨S, hS⟩ : ∃ S, S = lsum l := ⟨_, rfl⟩
  rw [← hS] at CW C0 CU
  clear ht hl hB hn f1 f2 f3 f4 hp hS
  have k0 : (h : Int) = h := rfl
  go_enter Try.func29, Try.ntmps29
  go_wp2_with fail
  with_reducible refine CL.out.mono ?_
  rintro e w1 ⟨v1, rfl, o1, b1⟩
  obtain ⟨A1, c1, rfl, hR1, _, _⟩ := rows_of_own encL_len (by omega) o1
  have CR := Lib.hid (lrefs A1 n c1 l w1 hR1 HN.out (by omega))
  have HB1 := Lib.hid b1
  clear o1 b1 hR1 CL
  go_wp2_with fail
  with_reducible refine CR.out.mono ?_
  rintro e w2 ⟨v2, rfl, o2, b2⟩
  obtain ⟨A2, c2, rfl, hR2, _, _⟩ := rows_of_own encL_len (by omega) o2
  have HR2 := Lib.hid hR2
  have HB2 := Lib.hid (HB1.out.trans (b2.mono HB1.out.size))
  clear o2 b2 hR2 CR
  go_wp2_with fail
  go_loopg [18] n (fun g i wr => ∃ k : Nat, i = .int .i64 k ∧ k ≤ n ∧ n - k ≤ g ∧ Hid (Below w2.heap.size w2 wr))
  case atStart => exact ⟨0, rfl, by omega, by omega, Lib.hid (Below.refl _ _)⟩
  case round =>
    obtain ⟨k, rfl, h1, h2, hb⟩ := hrel
    by_cases hlt : k < n
    · have hkl : k < l.length := by rw [HN.out]; exact hlt
      obtain ⟨bA, off, rfl, hbA, d0, d1, d2, d3⟩ := rowsL (HR2.out.below hb.out) hkl
      have x3 : Below wr.heap.size wr (wr.alloc (.cells #[.int .i64 l[k].s, .int .i64 l[k].b, .int .i64 l[k].r, .int .i64 l[k].wd] 72)) := (Below.refl _ _).alloc (Nat.le_refl _) _
      have HB3 := Lib.hid (hb.out.trans (x3.mono hb.out.size))
      obtain ⟨bB, off2, rfl, hbB, u0, u1, u2, u3⟩ := rowsL (HB.out.below (HB2.out.trans (HB3.out.mono HB2.out.size))) hkl
      generalize l[k] = a at *
      have R3 : RawAt 72 (wr.alloc (.cells #[.int .i64 a.s, .int .i64 a.b, .int .i64 a.r, .int .i64 a.wd] 72)) wr.heap.size #[.int .i64 a.s, .int .i64 a.b, .int .i64 a.r, .int .i64 a.wd] := heap_alloc_new wr _
      have c0 := RawAt.cell R3 0
      have c1' := RawAt.cell R3 1
      have c2' := RawAt.cell R3 2
      have c3' := RawAt.cell R3 3
      simp at c0 c1' c2' c3'
      have i1 : (0 : Int) ≤ k := by omega
      have i2 : (k : Int) < n := by omega
      have i3 : decide ((n : Int) ≤ k) = false := decide_eq_false (by omega)
      have i4 : decide (n ≤ k) = false := decide_eq_false (by omega)
      have i5 : ¬ (n ≤ k) := by omega
      clear x3 hb R3
      go_wp2_with fail
      go_quiet (fail)
      have HQ := Lib.hid (drewN_below HB3.out nq)
      go_wp2
      go_roundg (gk - 1)
      case measure => omega
      case rel => exact ⟨k + 1, by go_num, by omega, by omega, HQ⟩
    · obtain rfl : n = k := by omega
      have HB3 := Lib.hid (HB2.out.trans (hb.out.mono HB2.out.size))
      clear hb HR2
      go_wp2_with fail
      with_reducible refine (CW.out _ HB3.out).mono ?_
      rintro e w4 ⟨rfl, b4⟩
      have HB4 := Lib.hid (HB3.out.trans (b4.mono HB3.out.size))
      clear b4 CW
      go_wp2_with fail
      with_reducible refine (CU.out _ HB4.out).mono ?_
      rintro e w5 ⟨rfl, b5⟩
      have b5' := HB4.out.trans (b5.mono HB4.out.size)
      have R9 : RawAt 72 (w5.alloc (.cells #[.int .i64 S.s, .int .i64 S.b, .int .i64 S.r, .int .i64 S.wd] 72)) w5.heap.size #[.int .i64 S.s, .int .i64 S.b, .int .i64 S.r, .int .i64 S.wd] := heap_alloc_new w5 _
      have x9 : Below w5.heap.size w5 (w5.alloc (.cells #[.int .i64 S.s, .int .i64 S.b, .int .i64 S.r, .int .i64 S.wd] 72)) := (Below.refl _ _).alloc (Nat.le_refl _) _
      have HB9 := Lib.hid (b5'.trans (x9.mono b5'.size))
      obtain ⟨W9, hW9⟩ : ∃ W9, W9 = w5.alloc (.cells #[.int .i64 S.s, .int .i64 S.b, .int .i64 S.r, .int .i64 S.wd] 72) := ⟨_, rfl⟩
      obtain ⟨b9, hb9⟩ : ∃ b9, b9 = w5.heap.size := ⟨_, rfl⟩
      rw [← hW9, ← hb9] at R9
      rw [← hW9] at HB9
      have HR9 := Lib.hid R9
      have HW9 := Lib.hid hW9
      have HB9E := Lib.hid hb9
      have MK : Hid (∀ W : World, Below W9.heap.size W9 W → (fun W => W.cell? ⟨b9, 0, none⟩ = some (.int .i64 S.s) ∧ W.cell? ⟨b9, 1, none⟩ = some (.int .i64 S.b) ∧ W.cell? ⟨b9, 2, none⟩ = some (.int .i64 S.r) ∧ W.cell? ⟨b9, 3, none⟩ = some (.int .i64 S.wd)) W) := Lib.hid fun W hW => ⟨RawAt.cell (HR9.out.below hW HR9.out.lt) 0, RawAt.cell (HR9.out.below hW HR9.out.lt) 1, RawAt.cell (HR9.out.below hW HR9.out.lt) 2, RawAt.cell (HR9.out.below hW HR9.out.lt) 3⟩
      have hW2 : Below W9.heap.size W9 W9.drew := (Below.refl _ _).drew
      clear b5 b5' R9 x9 hW9 hb9 CU
      go_wp2_with fail
      rw [← HW9.out, ← HB9E.out]
      refine wp_region_noPanic ?_
      refine wp_region_held_drew (S := (fun W => W.cell? ⟨b9, 0, none⟩ = some (.int .i64 S.s) ∧ W.cell? ⟨b9, 1, none⟩ = some (.int .i64 S.b) ∧ W.cell? ⟨b9, 2, none⟩ = some (.int .i64 S.r) ∧ W.cell? ⟨b9, 3, none⟩ = some (.int .i64 S.wd))) (by kernel_rfl) (MK.out _ hW2) (fun hHeld => ?_)
      refine wpAnyH_take (i := 0) (v := ?_) rfl (by kernel_rfl) (by kernel_rfl) (by kernel_rfl) (fun _ _ _ h => h) (Or.inl ⟨by rfl, ?_⟩) hHeld ?_
      rotate_left
      · intro w hSw
        (try dsimp only at hSw)
        go_simp
        try with_reducible rfl
      go_simp
      refine wpAnyH_take (i := 1) (v := ?_) rfl (by kernel_rfl) (by kernel_rfl) (by kernel_rfl) (fun _ _ _ h => h) (Or.inl ⟨by rfl, ?_⟩) hHeld ?_
      rotate_left
      · intro w hSw
        (try dsimp only at hSw)
        go_simp
        try with_reducible rfl
      go_simp
      refine wpAnyH_take (i := 2) (v := ?_) rfl (by kernel_rfl) (by kernel_rfl) (by kernel_rfl) (fun _ _ _ h => h) (Or.inl ⟨by rfl, ?_⟩) hHeld ?_
      rotate_left
      · intro w hSw
        (try dsimp only at hSw)
        go_simp
        try with_reducible rfl
      go_simp
      refine wpAnyH_take (i := 3) (v := ?_) rfl (by kernel_rfl) (by kernel_rfl) (by kernel_rfl) (fun _ _ _ h => h) (Or.inl ⟨by rfl, ?_⟩) hHeld ?_
      rotate_left
      · intro w hSw
        (try dsimp only at hSw)
        go_simp
        try with_reducible rfl
      go_simp
      refine wpAnyH_take (i := 4) (v := ?_) rfl (by kernel_rfl) (by kernel_rfl) (by kernel_rfl) (fun _ _ _ h => h) (Or.inl ⟨by rfl, ?_⟩) hHeld ?_
      rotate_left
      · intro w hSw
        (try dsimp only at hSw)
        go_simp
        try with_reducible rfl
      go_simp
      refine wpAnyH_take (i := 5) (v := ?_) rfl (by kernel_rfl) (by kernel_rfl) (by kernel_rfl) (fun _ _ _ h => h) (Or.inl ⟨by rfl, ?_⟩) hHeld ?_
      rotate_left
      · intro w hSw
        (try dsimp only at hSw)
        go_simp
        try with_reducible rfl
      go_simp
      refine wpAnyH_take (i := 6) (v := ?_) rfl (by kernel_rfl) (by kernel_rfl) (by kernel_rfl) (fun _ _ _ h => h) (Or.inl ⟨by rfl, ?_⟩) hHeld ?_
      rotate_left
      · intro w hSw
        (try dsimp only at hSw)
        go_simp
        try with_reducible rfl
      go_simp
      refine wpAnyH_take (i := 12) (v := ?_) rfl (by kernel_rfl) (by kernel_rfl) (by kernel_rfl) (fun _ _ _ h => h) (Or.inl ⟨by rfl, ?_⟩) hHeld ?_
      rotate_left
      · intro w hSw
        (try dsimp only at hSw)
        go_simp
        try with_reducible rfl
      go_simp
      refine wpAnyH_ready (rs := [7]) (by kernel_rfl) (by simp) ?_
      refine AllReadyH.cons rfl (fun K hK => ?_) ?_
      rotate_left
      · exact AllReadyH.nil
      go_simp
      go_wp2_with (first | (go_at_call 54; ((with_reducible refine (C0.out _ (HB9.out.trans (hW2.mono HB9.out.size))).mono ?_); rintro e wS ⟨rfl, hbS⟩); have hW2 := hW2.trans (hbS.mono hW2.size)) | (go_at_call 28; ((refine (lrefs (some ⟨wS.heap.size, 0, none⟩) 1 1 [S] _ (rows_of_block (enc := encL) (k := 4) encL_len (heap_alloc_new wS _) (l := [S]) rfl) rfl (by omega)).mono ?_); rintro e wR ⟨vR, rfl, oR, hbR⟩); obtain ⟨AR, cR, rfl, hRR, _, _⟩ := rows_of_own encL_len (by omega) oR; obtain ⟨bR, offR, rfl, hbRl, r0, r1, r2, r3⟩ := rowsL hRR (j := 0) (by simp); simp at r0 r1 r2 r3; have hW2 := (hW2.alloc hW2.size (.cells #[.int .i64 S.s, .int .i64 S.b, .int .i64 S.r, .int .i64 S.wd] 78)).trans (hbR.mono (by have := hW2.size; simp; omega)); clear oR hRR) | (go_at_call 50; ((with_reducible refine (CC.out _ (HB9.out.trans (hW2.mono HB9.out.size))).mono ?_); rintro e wC ⟨rfl, hbC⟩); have hW2 := hW2.trans (hbC.mono hW2.size)) | (go_at_call 55; ((with_reducible refine (CV.out _ (HB9.out.trans (hW2.mono HB9.out.size))).mono ?_); rintro e wV ⟨rfl, hbV⟩); have hW2 := hW2.trans (hbV.mono hW2.size)) | (go_at_call 51; ((with_reducible refine (CH.out _ (HB9.out.trans (hW2.mono HB9.out.size))).mono ?_); rintro e wH ⟨rfl, hbH⟩); have hW2 := hW2.trans (hbH.mono hW2.size)) | (go_at_call 56; ((with_reducible refine (CY.out _).mono ?_); rintro e wY ⟨rfl, hwY⟩); have hwY := hwY.symm; subst hwY))
      refine hK.out _ _ (by first | (with_reducible exact MK.out _ hW2) | exact MK.out _ (hW2.alloc hW2.size _)) (fun hHeld => ?_)
      clear hK K
      go_simp
      refine wpAnyH_ready (rs := [8]) (by kernel_rfl) (by simp) ?_
      refine AllReadyH.cons rfl (fun K hK => ?_) ?_
      rotate_left
      · exact AllReadyH.nil
      go_simp
      go_wp2_with (first | (go_at_call 54; ((with_reducible refine (C0.out _ (HB9.out.trans (hW2.mono HB9.out.size))).mono ?_); rintro e wS ⟨rfl, hbS⟩); have hW2 := hW2.trans (hbS.mono hW2.size)) | (go_at_call 28; ((refine (lrefs (some ⟨wS.heap.size, 0, none⟩) 1 1 [S] _ (rows_of_block (enc := encL) (k := 4) encL_len (heap_alloc_new wS _) (l := [S]) rfl) rfl (by omega)).mono ?_); rintro e wR ⟨vR, rfl, oR, hbR⟩); obtain ⟨AR, cR, rfl, hRR, _, _⟩ := rows_of_own encL_len (by omega) oR; obtain ⟨bR, offR, rfl, hbRl, r0, r1, r2, r3⟩ := rowsL hRR (j := 0) (by simp); simp at r0 r1 r2 r3; have hW2 := (hW2.alloc hW2.size (.cells #[.int .i64 S.s, .int .i64 S.b, .int .i64 S.r, .int .i64 S.wd] 78)).trans (hbR.mono (by have := hW2.size; simp; omega)); clear oR hRR) | (go_at_call 50; ((with_reducible refine (CC.out _ (HB9.out.trans (hW2.mono HB9.out.size))).mono ?_); rintro e wC ⟨rfl, hbC⟩); have hW2 := hW2.trans (hbC.mono hW2.size)) | (go_at_call 55; ((with_reducible refine (CV.out _ (HB9.out.trans (hW2.mono HB9.out.size))).mono ?_); rintro e wV ⟨rfl, hbV⟩); have hW2 := hW2.trans (hbV.mono hW2.size)) | (go_at_call 51; ((with_reducible refine (CH.out _ (HB9.out.trans (hW2.mono HB9.out.size))).mono ?_); rintro e wH ⟨rfl, hbH⟩); have hW2 := hW2.trans (hbH.mono hW2.size)) | (go_at_call 56; ((with_reducible refine (CY.out _).mono ?_); rintro e wY ⟨rfl, hwY⟩); have hwY := hwY.symm; subst hwY))
      refine hK.out _ _ (by first | (with_reducible exact MK.out _ hW2) | exact MK.out _ (hW2.alloc hW2.size _)) (fun hHeld => ?_)
      clear hK K
      go_simp
      refine wpAnyH_ready (rs := [9]) (by kernel_rfl) (by simp) ?_
      refine AllReadyH.cons rfl (fun K hK => ?_) ?_
      rotate_left
      · exact AllReadyH.nil
      go_simp
      go_wp2_with (first | (go_at_call 54; ((with_reducible refine (C0.out _ (HB9.out.trans (hW2.mono HB9.out.size))).mono ?_); rintro e wS ⟨rfl, hbS⟩); have hW2 := hW2.trans (hbS.mono hW2.size)) | (go_at_call 28; ((refine (lrefs (some ⟨wS.heap.size, 0, none⟩) 1 1 [S] _ (rows_of_block (enc := encL) (k := 4) encL_len (heap_alloc_new wS _) (l := [S]) rfl) rfl (by omega)).mono ?_); rintro e wR ⟨vR, rfl, oR, hbR⟩); obtain ⟨AR, cR, rfl, hRR, _, _⟩ := rows_of_own encL_len (by omega) oR; obtain ⟨bR, offR, rfl, hbRl, r0, r1, r2, r3⟩ := rowsL hRR (j := 0) (by simp); simp at r0 r1 r2 r3; have hW2 := (hW2.alloc hW2.size (.cells #[.int .i64 S.s, .int .i64 S.b, .int .i64 S.r, .int .i64 S.wd] 78)).trans (hbR.mono (by have := hW2.size; simp; omega)); clear oR hRR) | (go_at_call 50; ((with_reducible refine (CC.out _ (HB9.out.trans (hW2.mono HB9.out.size))).mono ?_); rintro e wC ⟨rfl, hbC⟩); have hW2 := hW2.trans (hbC.mono hW2.size)) | (go_at_call 55; ((with_reducible refine (CV.out _ (HB9.out.trans (hW2.mono HB9.out.size))).mono ?_); rintro e wV ⟨rfl, hbV⟩); have hW2 := hW2.trans (hbV.mono hW2.size)) | (go_at_call 51; ((with_reducible refine (CH.out _ (HB9.out.trans (hW2.mono HB9.out.size))).mono ?_); rintro e wH ⟨rfl, hbH⟩); have hW2 := hW2.trans (hbH.mono hW2.size)) | (go_at_call 56; ((with_reducible refine (CY.out _).mono ?_); rintro e wY ⟨rfl, hwY⟩); have hwY := hwY.symm; subst hwY))
      refine hK.out _ _ (by first | (with_reducible exact MK.out _ hW2) | exact MK.out _ (hW2.alloc hW2.size _)) (fun hHeld => ?_)
      clear hK K
      go_simp
      refine wpAnyH_take (i := 10) (v := ?_) rfl (by kernel_rfl) (by kernel_rfl) (by kernel_rfl) (fun _ _ _ h => h) (Or.inl ⟨by rfl, ?_⟩) hHeld ?_
      rotate_left
      · intro w hSw
        (try dsimp only at hSw)
        go_simp
        try with_reducible rfl
      go_simp
      refine wpAnyH_ready (rs := [11]) (by kernel_rfl) (by simp) ?_
      refine AllReadyH.cons rfl (fun K hK => ?_) ?_
      rotate_left
      · exact AllReadyH.nil
      go_simp
      go_wp2_with (first | (go_at_call 54; ((with_reducible refine (C0.out _ (HB9.out.trans (hW2.mono HB9.out.size))).mono ?_); rintro e wS ⟨rfl, hbS⟩); have hW2 := hW2.trans (hbS.mono hW2.size)) | (go_at_call 28; ((refine (lrefs (some ⟨wS.heap.size, 0, none⟩) 1 1 [S] _ (rows_of_block (enc := encL) (k := 4) encL_len (heap_alloc_new wS _) (l := [S]) rfl) rfl (by omega)).mono ?_); rintro e wR ⟨vR, rfl, oR, hbR⟩); obtain ⟨AR, cR, rfl, hRR, _, _⟩ := rows_of_own encL_len (by omega) oR; obtain ⟨bR, offR, rfl, hbRl, r0, r1, r2, r3⟩ := rowsL hRR (j := 0) (by simp); simp at r0 r1 r2 r3; have hW2 := (hW2.alloc hW2.size (.cells #[.int .i64 S.s, .int .i64 S.b, .int .i64 S.r, .int .i64 S.wd] 78)).trans (hbR.mono (by have := hW2.size; simp; omega)); clear oR hRR) | (go_at_call 50; ((with_reducible refine (CC.out _ (HB9.out.trans (hW2.mono HB9.out.size))).mono ?_); rintro e wC ⟨rfl, hbC⟩); have hW2 := hW2.trans (hbC.mono hW2.size)) | (go_at_call 55; ((with_reducible refine (CV.out _ (HB9.out.trans (hW2.mono HB9.out.size))).mono ?_); rintro e wV ⟨rfl, hbV⟩); have hW2 := hW2.trans (hbV.mono hW2.size)) | (go_at_call 51; ((with_reducible refine (CH.out _ (HB9.out.trans (hW2.mono HB9.out.size))).mono ?_); rintro e wH ⟨rfl, hbH⟩); have hW2 := hW2.trans (hbH.mono hW2.size)) | (go_at_call 56; ((with_reducible refine (CY.out _).mono ?_); rintro e wY ⟨rfl, hwY⟩); have hwY := hwY.symm; subst hwY))
      refine hK.out _ _ (by first | (with_reducible exact MK.out _ hW2) | exact MK.out _ (hW2.alloc hW2.size _)) (fun hHeld => ?_)
      clear hK K
      go_simp
      refine wpAnyH_take (i := 13) (v := ?_) rfl (by kernel_rfl) (by kernel_rfl) (by kernel_rfl) (fun _ _ _ h => h) (Or.inl ⟨by rfl, ?_⟩) hHeld ?_
      rotate_left
      · intro w hSw
        (try dsimp only at hSw)
        go_simp
        try with_reducible rfl
      go_simp
      refine wpAnyH_take (i := 14) (v := ?_) rfl (by kernel_rfl) (by kernel_rfl) (by kernel_rfl) (fun _ _ _ h => h) (Or.inl ⟨by rfl, ?_⟩) hHeld ?_
      rotate_left
      · intro w hSw
        (try dsimp only at hSw)
        go_simp
        try with_reducible rfl
      go_simp
      refine wpAnyH_take (i := 15) (v := ?_) rfl (by kernel_rfl) (by kernel_rfl) (by kernel_rfl) (fun _ _ _ h => h) (Or.inl ⟨by rfl, ?_⟩) hHeld ?_
      rotate_left
      · intro w hSw
        (try dsimp only at hSw)
        go_simp
        try with_reducible rfl
      go_simp
      refine wpAnyH_take (i := 16) (v := ?_) rfl (by kernel_rfl) (by kernel_rfl) (by kernel_rfl) (fun _ _ _ h => h) (Or.inl ⟨by rfl, ?_⟩) hHeld ?_
      rotate_left
      · intro w hSw
        (try dsimp only at hSw)
        go_simp
        try with_reducible rfl
      go_simp
      refine wpAnyH_take (i := 18) (v := ?_) rfl (by kernel_rfl) (by kernel_rfl) (by kernel_rfl) (fun _ _ _ h => h) (Or.inl ⟨by rfl, ?_⟩) hHeld ?_
      rotate_left
      · intro w hSw
        (try dsimp only at hSw)
        go_simp
        try with_reducible rfl
      go_simp
      refine wpAnyH_take (i := 19) (v := ?_) rfl (by kernel_rfl) (by kernel_rfl) (by kernel_rfl) (fun _ _ _ h => h) (Or.inl ⟨by rfl, ?_⟩) hHeld ?_
      rotate_left
      · intro w hSw
        (try dsimp only at hSw)
        go_simp
        try with_reducible rfl
      go_simp
      refine wpAnyH_ready (rs := [17]) (by kernel_rfl) (by simp) ?_
      refine AllReadyH.cons rfl (fun K hK => ?_) ?_
      rotate_left
      · exact AllReadyH.nil
      go_simp
      go_wp2_with (first | (go_at_call 54; ((with_reducible refine (C0.out _ (HB9.out.trans (hW2.mono HB9.out.size))).mono ?_); rintro e wS ⟨rfl, hbS⟩); have hW2 := hW2.trans (hbS.mono hW2.size)) | (go_at_call 28; ((refine (lrefs (some ⟨wS.heap.size, 0, none⟩) 1 1 [S] _ (rows_of_block (enc := encL) (k := 4) encL_len (heap_alloc_new wS _) (l := [S]) rfl) rfl (by omega)).mono ?_); rintro e wR ⟨vR, rfl, oR, hbR⟩); obtain ⟨AR, cR, rfl, hRR, _, _⟩ := rows_of_own encL_len (by omega) oR; obtain ⟨bR, offR, rfl, hbRl, r0, r1, r2, r3⟩ := rowsL hRR (j := 0) (by simp); simp at r0 r1 r2 r3; have hW2 := (hW2.alloc hW2.size (.cells #[.int .i64 S.s, .int .i64 S.b, .int .i64 S.r, .int .i64 S.wd] 78)).trans (hbR.mono (by have := hW2.size; simp; omega)); clear oR hRR) | (go_at_call 50; ((with_reducible refine (CC.out _ (HB9.out.trans (hW2.mono HB9.out.size))).mono ?_); rintro e wC ⟨rfl, hbC⟩); have hW2 := hW2.trans (hbC.mono hW2.size)) | (go_at_call 55; ((with_reducible refine (CV.out _ (HB9.out.trans (hW2.mono HB9.out.size))).mono ?_); rintro e wV ⟨rfl, hbV⟩); have hW2 := hW2.trans (hbV.mono hW2.size)) | (go_at_call 51; ((with_reducible refine (CH.out _ (HB9.out.trans (hW2.mono HB9.out.size))).mono ?_); rintro e wH ⟨rfl, hbH⟩); have hW2 := hW2.trans (hbH.mono hW2.size)) | (go_at_call 56; ((with_reducible refine (CY.out _).mono ?_); rintro e wY ⟨rfl, hwY⟩); have hwY := hwY.symm; subst hwY))
      refine hK.out _ _ (by first | (with_reducible exact MK.out _ hW2) | exact MK.out _ (hW2.alloc hW2.size _)) (fun hHeld => ?_)
      clear hK K
      go_simp
      refine wpAnyH_take (i := 20) (v := ?_) rfl (by kernel_rfl) (by kernel_rfl) (by kernel_rfl) (fun _ _ _ h => h) (Or.inl ⟨by rfl, ?_⟩) hHeld ?_
      rotate_left
      · intro w hSw
        (try dsimp only at hSw)
        go_simp
        try with_reducible rfl
      go_simp
      refine wpAnyH_take (i := 21) (v := ?_) rfl (by kernel_rfl) (by kernel_rfl) (by kernel_rfl) (fun _ _ _ h => h) (Or.inl ⟨by rfl, ?_⟩) hHeld ?_
      rotate_left
      · intro w hSw
        (try dsimp only at hSw)
        go_simp
        try with_reducible rfl
      go_simp
      refine wpAnyH_take (i := 22) (v := ?_) rfl (by kernel_rfl) (by kernel_rfl) (by kernel_rfl) (fun _ _ _ h => h) (Or.inl ⟨by rfl, ?_⟩) hHeld ?_
      rotate_left
      · intro w hSw
        (try dsimp only at hSw)
        go_simp
        try with_reducible rfl
      go_simp
      refine wpAnyH_take (i := 23) (v := ?_) rfl (by kernel_rfl) (by kernel_rfl) (by kernel_rfl) (fun _ _ _ h => h) (Or.inl ⟨by rfl, ?_⟩) hHeld ?_
      rotate_left
      · intro w hSw
        (try dsimp only at hSw)
        go_simp
        try with_reducible rfl
      go_simp
      refine wpAnyH_take (i := 24) (v := ?_) rfl (by kernel_rfl) (by kernel_rfl) (by kernel_rfl) (fun _ _ _ h => h) (Or.inl ⟨by rfl, ?_⟩) hHeld ?_
      rotate_left
      · intro w hSw
        (try dsimp only at hSw)
        go_simp
        try with_reducible rfl
      go_simp
      refine wpAnyH_ready (rs := [25]) (by kernel_rfl) (by simp) ?_
      refine AllReadyH.cons rfl (fun K hK => ?_) ?_
      rotate_left
      · exact AllReadyH.nil
      go_simp
      go_wp2_with (first | (go_at_call 54; ((with_reducible refine (C0.out _ (HB9.out.trans (hW2.mono HB9.out.size))).mono ?_); rintro e wS ⟨rfl, hbS⟩); have hW2 := hW2.trans (hbS.mono hW2.size)) | (go_at_call 28; ((refine (lrefs (some ⟨wS.heap.size, 0, none⟩) 1 1 [S] _ (rows_of_block (enc := encL) (k := 4) encL_len (heap_alloc_new wS _) (l := [S]) rfl) rfl (by omega)).mono ?_); rintro e wR ⟨vR, rfl, oR, hbR⟩); obtain ⟨AR, cR, rfl, hRR, _, _⟩ := rows_of_own encL_len (by omega) oR; obtain ⟨bR, offR, rfl, hbRl, r0, r1, r2, r3⟩ := rowsL hRR (j := 0) (by simp); simp at r0 r1 r2 r3; have hW2 := (hW2.alloc hW2.size (.cells #[.int .i64 S.s, .int .i64 S.b, .int .i64 S.r, .int .i64 S.wd] 78)).trans (hbR.mono (by have := hW2.size; simp; omega)); clear oR hRR) | (go_at_call 50; ((with_reducible refine (CC.out _ (HB9.out.trans (hW2.mono HB9.out.size))).mono ?_); rintro e wC ⟨rfl, hbC⟩); have hW2 := hW2.trans (hbC.mono hW2.size)) | (go_at_call 55; ((with_reducible refine (CV.out _ (HB9.out.trans (hW2.mono HB9.out.size))).mono ?_); rintro e wV ⟨rfl, hbV⟩); have hW2 := hW2.trans (hbV.mono hW2.size)) | (go_at_call 51; ((with_reducible refine (CH.out _ (HB9.out.trans (hW2.mono HB9.out.size))).mono ?_); rintro e wH ⟨rfl, hbH⟩); have hW2 := hW2.trans (hbH.mono hW2.size)) | (go_at_call 56; ((with_reducible refine (CY.out _).mono ?_); rintro e wY ⟨rfl, hwY⟩); have hwY := hwY.symm; subst hwY))
      refine hK.out _ _ (by first | (with_reducible exact MK.out _ hW2) | exact MK.out _ (hW2.alloc hW2.size _)) (fun hHeld => ?_)
      clear hK K
      go_simp
      refine wpAnyH_take (i := 26) (v := ?_) rfl (by kernel_rfl) (by kernel_rfl) (by kernel_rfl) (fun _ _ _ h => h) (Or.inl ⟨by rfl, ?_⟩) hHeld ?_
      rotate_left
      · intro w hSw
        (try dsimp only at hSw)
        go_simp
        try with_reducible rfl
      go_simp
      refine wpAnyH_take (i := 27) (v := ?_) rfl (by kernel_rfl) (by kernel_rfl) (by kernel_rfl) (fun _ _ _ h => h) (Or.inl ⟨by rfl, ?_⟩) hHeld ?_
      rotate_left
      · intro w hSw
        (try dsimp only at hSw)
        go_simp
        try with_reducible rfl
      go_simp
      refine wpAnyH_take (i := 28) (v := ?_) rfl (by kernel_rfl) (by kernel_rfl) (by kernel_rfl) (fun _ _ _ h => h) (Or.inl ⟨by rfl, ?_⟩) hHeld ?_
      rotate_left
      · intro w hSw
        (try dsimp only at hSw)
        go_simp
        try with_reducible rfl
      go_simp
      refine wpAnyH_take (i := 29) (v := ?_) rfl (by kernel_rfl) (by kernel_rfl) (by kernel_rfl) (fun _ _ _ h => h) (Or.inl ⟨by rfl, ?_⟩) hHeld ?_
      rotate_left
      · intro w hSw
        (try dsimp only at hSw)
        go_simp
        try with_reducible rfl
      go_simp
      refine wpAnyH_take (i := 30) (v := ?_) rfl (by kernel_rfl) (by kernel_rfl) (by kernel_rfl) (fun _ _ _ h => h) (Or.inl ⟨by rfl, ?_⟩) hHeld ?_
      rotate_left
      · intro w hSw
        (try dsimp only at hSw)
        go_simp
        try with_reducible rfl
      go_simp
      refine wpAnyH_take (i := 31) (v := ?_) rfl (by kernel_rfl) (by kernel_rfl) (by kernel_rfl) (fun _ _ _ h => h) (Or.inl ⟨by rfl, ?_⟩) hHeld ?_
      rotate_left
      · intro w hSw
        (try dsimp only at hSw)
        go_simp
        try with_reducible rfl
      go_simp
      refine wpAnyH_take (i := 32) (v := ?_) rfl (by kernel_rfl) (by kernel_rfl) (by kernel_rfl) (fun _ _ _ h => h) (Or.inl ⟨by rfl, ?_⟩) hHeld ?_
      rotate_left
      · intro w hSw
        (try dsimp only at hSw)
        go_simp
        try with_reducible rfl
      go_simp
      refine wpAnyH_take (i := 33) (v := ?_) rfl (by kernel_rfl) (by kernel_rfl) (by kernel_rfl) (fun _ _ _ h => h) (Or.inl ⟨by rfl, ?_⟩) hHeld ?_
      rotate_left
      · intro w hSw
        (try dsimp only at hSw)
        go_simp
        try with_reducible rfl
      go_simp
      refine wpAnyH_take (i := 34) (v := ?_) rfl (by kernel_rfl) (by kernel_rfl) (by kernel_rfl) (fun _ _ _ h => h) (Or.inl ⟨by rfl, ?_⟩) hHeld ?_
      rotate_left
      · intro w hSw
        (try dsimp only at hSw)
        go_simp
        try with_reducible rfl
      go_simp
      refine wpAnyH_take (i := 35) (v := ?_) rfl (by kernel_rfl) (by kernel_rfl) (by kernel_rfl) (fun _ _ _ h => h) (Or.inl ⟨by rfl, ?_⟩) hHeld ?_
      rotate_left
      · intro w hSw
        (try dsimp only at hSw)
        go_simp
        try with_reducible rfl
      go_simp
      refine wpAnyH_take (i := 37) (v := ?_) rfl (by kernel_rfl) (by kernel_rfl) (by kernel_rfl) (fun _ _ _ h => h) (Or.inl ⟨by rfl, ?_⟩) hHeld ?_
      rotate_left
      · intro w hSw
        (try dsimp only at hSw)
        go_simp
        try with_reducible rfl
      go_simp
      refine wpAnyH_take (i := 38) (v := ?_) rfl (by kernel_rfl) (by kernel_rfl) (by kernel_rfl) (fun _ _ _ h => h) (Or.inl ⟨by rfl, ?_⟩) hHeld ?_
      rotate_left
      · intro w hSw
        (try dsimp only at hSw)
        go_simp
        try with_reducible rfl
      go_simp
      refine wpAnyH_ready (rs := [36]) (by kernel_rfl) (by simp) ?_
      refine AllReadyH.cons rfl (fun K hK => ?_) ?_
      rotate_left
      · exact AllReadyH.nil
      go_simp
      go_wp2_with (first | (go_at_call 54; ((with_reducible refine (C0.out _ (HB9.out.trans (hW2.mono HB9.out.size))).mono ?_); rintro e wS ⟨rfl, hbS⟩); have hW2 := hW2.trans (hbS.mono hW2.size)) | (go_at_call 28; ((refine (lrefs (some ⟨wS.heap.size, 0, none⟩) 1 1 [S] _ (rows_of_block (enc := encL) (k := 4) encL_len (heap_alloc_new wS _) (l := [S]) rfl) rfl (by omega)).mono ?_); rintro e wR ⟨vR, rfl, oR, hbR⟩); obtain ⟨AR, cR, rfl, hRR, _, _⟩ := rows_of_own encL_len (by omega) oR; obtain ⟨bR, offR, rfl, hbRl, r0, r1, r2, r3⟩ := rowsL hRR (j := 0) (by simp); simp at r0 r1 r2 r3; have hW2 := (hW2.alloc hW2.size (.cells #[.int .i64 S.s, .int .i64 S.b, .int .i64 S.r, .int .i64 S.wd] 78)).trans (hbR.mono (by have := hW2.size; simp; omega)); clear oR hRR) | (go_at_call 50; ((with_reducible refine (CC.out _ (HB9.out.trans (hW2.mono HB9.out.size))).mono ?_); rintro e wC ⟨rfl, hbC⟩); have hW2 := hW2.trans (hbC.mono hW2.size)) | (go_at_call 55; ((with_reducible refine (CV.out _ (HB9.out.trans (hW2.mono HB9.out.size))).mono ?_); rintro e wV ⟨rfl, hbV⟩); have hW2 := hW2.trans (hbV.mono hW2.size)) | (go_at_call 51; ((with_reducible refine (CH.out _ (HB9.out.trans (hW2.mono HB9.out.size))).mono ?_); rintro e wH ⟨rfl, hbH⟩); have hW2 := hW2.trans (hbH.mono hW2.size)) | (go_at_call 56; ((with_reducible refine (CY.out _).mono ?_); rintro e wY ⟨rfl, hwY⟩); have hwY := hwY.symm; subst hwY))
      refine hK.out _ _ (by first | (with_reducible exact MK.out _ hW2) | exact MK.out _ (hW2.alloc hW2.size _)) (fun hHeld => ?_)
      clear hK K
      go_simp
      refine wpAnyH_ready (rs := [39]) (by kernel_rfl) (by simp) ?_
      refine AllReadyH.cons rfl (fun K hK => ?_) ?_
      rotate_left
      · exact AllReadyH.nil
      go_simp
      go_wp2_with (first | (go_at_call 54; ((with_reducible refine (C0.out _ (HB9.out.trans (hW2.mono HB9.out.size))).mono ?_); rintro e wS ⟨rfl, hbS⟩); have hW2 := hW2.trans (hbS.mono hW2.size)) | (go_at_call 28; ((refine (lrefs (some ⟨wS.heap.size, 0, none⟩) 1 1 [S] _ (rows_of_block (enc := encL) (k := 4) encL_len (heap_alloc_new wS _) (l := [S]) rfl) rfl (by omega)).mono ?_); rintro e wR ⟨vR, rfl, oR, hbR⟩); obtain ⟨AR, cR, rfl, hRR, _, _⟩ := rows_of_own encL_len (by omega) oR; obtain ⟨bR, offR, rfl, hbRl, r0, r1, r2, r3⟩ := rowsL hRR (j := 0) (by simp); simp at r0 r1 r2 r3; have hW2 := (hW2.alloc hW2.size (.cells #[.int .i64 S.s, .int .i64 S.b, .int .i64 S.r, .int .i64 S.wd] 78)).trans (hbR.mono (by have := hW2.size; simp; omega)); clear oR hRR) | (go_at_call 50; ((with_reducible refine (CC.out _ (HB9.out.trans (hW2.mono HB9.out.size))).mono ?_); rintro e wC ⟨rfl, hbC⟩); have hW2 := hW2.trans (hbC.mono hW2.size)) | (go_at_call 55; ((with_reducible refine (CV.out _ (HB9.out.trans (hW2.mono HB9.out.size))).mono ?_); rintro e wV ⟨rfl, hbV⟩); have hW2 := hW2.trans (hbV.mono hW2.size)) | (go_at_call 51; ((with_reducible refine (CH.out _ (HB9.out.trans (hW2.mono HB9.out.size))).mono ?_); rintro e wH ⟨rfl, hbH⟩); have hW2 := hW2.trans (hbH.mono hW2.size)) | (go_at_call 56; ((with_reducible refine (CY.out _).mono ?_); rintro e wY ⟨rfl, hwY⟩); have hwY := hwY.symm; subst hwY))
      refine hK.out _ _ (by first | (with_reducible exact MK.out _ hW2) | exact MK.out _ (hW2.alloc hW2.size _)) (fun hHeld => ?_)
      clear hK K
      go_simp
      refine wpAnyH_take (i := 40) (v := ?_) rfl (by kernel_rfl) (by kernel_rfl) (by kernel_rfl) (fun _ _ _ h => h) (Or.inl ⟨by rfl, ?_⟩) hHeld ?_
      rotate_left
      · intro w hSw
        (try dsimp only at hSw)
        go_simp
        try with_reducible rfl
      go_simp
      refine wpAnyH_take (i := 41) (v := ?_) rfl (by kernel_rfl) (by kernel_rfl) (by kernel_rfl) (fun _ _ _ h => h) (Or.inl ⟨by rfl, ?_⟩) hHeld ?_
      rotate_left
      · intro w hSw
        (try dsimp only at hSw)
        go_simp
        try with_reducible rfl
      go_simp
      refine wpAnyH_done (by kernel_rfl) ?_ _
      refine NoPanic.normal ?_
      have HBZ := Lib.hid (HB9.out.trans (hW2.mono HB9.out.size))
      clear hW2 hHeld
      go_wp2
      go_ret
      exact ⟨rfl, HBZ.out⟩
end Go.Proofs.Ytnfjleobcfhpnaa
