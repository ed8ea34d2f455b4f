/- The law DiffSame: its walk. -/
import Derived.Test.YtebjkgeldjgnfaaDfH
namespace Go.Proofs.Ytebjkgeldjgnfaa
open Go.RowKit
set_option linter.unusedVariables false
set_option maxHeartbeats 8000000 in
set_option maxRecDepth 100000 in
theorem diffSame_walk (a b : Rw) (w : World) (ha : RwOk w a) (hb : RwOk w b) :
    Calls Try.prog 3 #[.agg #[.slice a.A a.n a.c, .int .i64 a.st, .int .i64 a.en, .int .i64 a.bu, .bool a.wr, .bool a.fo, .int .i64 a.wd], .agg #[.slice b.A b.n b.c, .int .i64 b.st, .int .i64 b.en, .int .i64 b.bu, .bool b.wr, .bool b.fo, .int .i64 b.wd]] w fun e w' => e = .returned (.bool true) ∧ Below w.heap.size w w' := by
  have x1 : Below w.heap.size w (w.alloc (.cells #[.slice a.A a.n a.c, .int .i64 a.st, .int .i64 a.en, .int .i64 a.bu, .bool a.wr, .bool a.fo, .int .i64 a.wd] 24)) := (Below.refl _ _).alloc (Nat.le_refl _) _
  have R1 : RawAt 24 (w.alloc (.cells #[.slice a.A a.n a.c, .int .i64 a.st, .int .i64 a.en, .int .i64 a.bu, .bool a.wr, .bool a.fo, .int .i64 a.wd] 24)) w.heap.size #[.slice a.A a.n a.c, .int .i64 a.st, .int .i64 a.en, .int .i64 a.bu, .bool a.wr, .bool a.fo, .int .i64 a.wd] := heap_alloc_new w _
  have z1 : (w.alloc (.cells #[.slice a.A a.n a.c, .int .i64 a.st, .int .i64 a.en, .int .i64 a.bu, .bool a.wr, .bool a.fo, .int .i64 a.wd] 24)).heap.size = w.heap.size + 1 := by simp
  have x2 : Below (w.heap.size + 1) (w.alloc (.cells #[.slice a.A a.n a.c, .int .i64 a.st, .int .i64 a.en, .int .i64 a.bu, .bool a.wr, .bool a.fo, .int .i64 a.wd] 24)) ((w.alloc (.cells #[.slice a.A a.n a.c, .int .i64 a.st, .int .i64 a.en, .int .i64 a.bu, .bool a.wr, .bool a.fo, .int .i64 a.wd] 24)).alloc (.cells #[.slice b.A b.n b.c, .int .i64 b.st, .int .i64 b.en, .int .i64 b.bu, .bool b.wr, .bool b.fo, .int .i64 b.wd] 24)) := (Below.refl _ _).alloc (by rw [z1]; exact Nat.le_refl _) _
  have R2 : RawAt 24 ((w.alloc (.cells #[.slice a.A a.n a.c, .int .i64 a.st, .int .i64 a.en, .int .i64 a.bu, .bool a.wr, .bool a.fo, .int .i64 a.wd] 24)).alloc (.cells #[.slice b.A b.n b.c, .int .i64 b.st, .int .i64 b.en, .int .i64 b.bu, .bool b.wr, .bool b.fo, .int .i64 b.wd] 24)) (w.heap.size + 1) #[.slice b.A b.n b.c, .int .i64 b.st, .int .i64 b.en, .int .i64 b.bu, .bool b.wr, .bool b.fo, .int .i64 b.wd] := by
    have h := heap_alloc_new (w.alloc (.cells #[.slice a.A a.n a.c, .int .i64 a.st, .int .i64 a.en, .int .i64 a.bu, .bool a.wr, .bool a.fo, .int .i64 a.wd] 24)) (.cells #[.slice b.A b.n b.c, .int .i64 b.st, .int .i64 b.en, .int .i64 b.bu, .bool b.wr, .bool b.fo, .int .i64 b.wd] 24)
    rw [z1] at h
    exact h
  have HA0 := Lib.hid (RawAt.below R1 x2 (by omega))
  have HB0 := Lib.hid R2
  have HBX := Lib.hid (x1.trans (x2.mono (by omega)))
  clear x1 R1 z1 x2 R2
  by_cases g1 : 200 < a.n
  · have k1 : decide ((200 : Int) < (a.n : Int)) = true := decide_eq_true (by omega)
    clear ha hb
    go_enter Try.func3, Try.ntmps3
    go_wp2_with fail
    with_reducible refine (dMid_any _).mono ?_
    rintro e w9 ⟨rfl, hb9⟩
    have HB9 := Lib.hid (HBX.out.trans (hb9.mono HBX.out.size))
    go_wp2
    go_ret
    exact ⟨rfl, HB9.out⟩
  · have k1 : decide ((200 : Int) < (a.n : Int)) = false := decide_eq_false (by omega)
    by_cases g2 : 200 < b.n
    · have k2 : decide ((200 : Int) < (b.n : Int)) = true := decide_eq_true (by omega)
      clear ha hb
      go_enter Try.func3, Try.ntmps3
      go_wp2_with fail
      with_reducible refine (dMid_any _).mono ?_
      rintro e w9 ⟨rfl, hb9⟩
      have HB9 := Lib.hid (HBX.out.trans (hb9.mono HBX.out.size))
      go_wp2
      go_ret
      exact ⟨rfl, HB9.out⟩
    · have k2 : decide ((200 : Int) < (b.n : Int)) = false := decide_eq_false (by omega)
      obtain ⟨bv, hbv⟩ : ∃ bv : Bool, bv = true ↔ RS a b := by
        by_cases g : RS a b
        · exact ⟨true, ⟨fun _ => g, fun _ => rfl⟩⟩
        · exact ⟨false, ⟨(fun h => by cases h), fun h => absurd h g⟩⟩
      have C1 := Lib.hid fun W (hW : Below w.heap.size w W) => dSame_any a b bv hbv W (ha.below hW) (hb.below hW) (by omega) (by omega)
      have C2 := Lib.hid fun W (hW : Below w.heap.size w W) => dRSame_any a b bv hbv W (ha.below hW) (hb.below hW) (by omega) (by omega)
      have C3 := Lib.hid fun W (hW : Below w.heap.size w W) => dSame_any a a true ⟨fun _ => RS.refl a, fun _ => rfl⟩ W (ha.below hW) (ha.below hW) (by omega) (by omega)
      have C4 := Lib.hid fun W (hW : Below w.heap.size w W) => dSame_any b a bv (hbv.trans ⟨RS.symm, RS.symm⟩) W (hb.below hW) (ha.below hW) (by omega) (by omega)
      have hbb : (bv == bv) = true := by simp
      clear hbv ha hb
      go_enter Try.func3, Try.ntmps3
      go_wp2_with fail
      generalize hW0 : (w.alloc (.cells #[.slice a.A a.n a.c, .int .i64 a.st, .int .i64 a.en, .int .i64 a.bu, .bool a.wr, .bool a.fo, .int .i64 a.wd] 24)).alloc (.cells #[.slice b.A b.n b.c, .int .i64 b.st, .int .i64 b.en, .int .i64 b.bu, .bool b.wr, .bool b.fo, .int .i64 b.wd] 24) = w0 at *
      have MK : Hid (∀ W : World, Below w0.heap.size w0 W → (fun W => (W.cell? ⟨w.heap.size, 0, none⟩ = some (.slice a.A a.n a.c) ∧ W.cell? ⟨w.heap.size, 1, none⟩ = some (.int .i64 a.st) ∧ W.cell? ⟨w.heap.size, 2, none⟩ = some (.int .i64 a.en) ∧ W.cell? ⟨w.heap.size, 3, none⟩ = some (.int .i64 a.bu) ∧ W.cell? ⟨w.heap.size, 4, none⟩ = some (.bool a.wr) ∧ W.cell? ⟨w.heap.size, 5, none⟩ = some (.bool a.fo) ∧ W.cell? ⟨w.heap.size, 6, none⟩ = some (.int .i64 a.wd)) ∧ (W.cell? ⟨w.heap.size + 1, 0, none⟩ = some (.slice b.A b.n b.c) ∧ W.cell? ⟨w.heap.size + 1, 1, none⟩ = some (.int .i64 b.st) ∧ W.cell? ⟨w.heap.size + 1, 2, none⟩ = some (.int .i64 b.en) ∧ W.cell? ⟨w.heap.size + 1, 3, none⟩ = some (.int .i64 b.bu) ∧ W.cell? ⟨w.heap.size + 1, 4, none⟩ = some (.bool b.wr) ∧ W.cell? ⟨w.heap.size + 1, 5, none⟩ = some (.bool b.fo) ∧ W.cell? ⟨w.heap.size + 1, 6, none⟩ = some (.int .i64 b.wd)) ∧ Below w0.heap.size w0 W) W) := fun W hW => by
        have r1 := RawAt.below HA0.out hW (RawAt.lt HA0.out)
        have r2 := RawAt.below HB0.out hW (RawAt.lt HB0.out)
        exact ⟨⟨RawAt.cell r1 0, RawAt.cell r1 1, RawAt.cell r1 2, RawAt.cell r1 3, RawAt.cell r1 4, RawAt.cell r1 5, RawAt.cell r1 6⟩, ⟨RawAt.cell r2 0, RawAt.cell r2 1, RawAt.cell r2 2, RawAt.cell r2 3, RawAt.cell r2 4, RawAt.cell r2 5, RawAt.cell r2 6⟩, hW⟩
      have hW2 : Below w0.heap.size w0 w0.drew := (Below.refl _ _).drew
      refine wp_region_noPanic ?_
      refine wp_region_held_drew (S := (fun W => (W.cell? ⟨w.heap.size, 0, none⟩ = some (.slice a.A a.n a.c) ∧ W.cell? ⟨w.heap.size, 1, none⟩ = some (.int .i64 a.st) ∧ W.cell? ⟨w.heap.size, 2, none⟩ = some (.int .i64 a.en) ∧ W.cell? ⟨w.heap.size, 3, none⟩ = some (.int .i64 a.bu) ∧ W.cell? ⟨w.heap.size, 4, none⟩ = some (.bool a.wr) ∧ W.cell? ⟨w.heap.size, 5, none⟩ = some (.bool a.fo) ∧ W.cell? ⟨w.heap.size, 6, none⟩ = some (.int .i64 a.wd)) ∧ (W.cell? ⟨w.heap.size + 1, 0, none⟩ = some (.slice b.A b.n b.c) ∧ W.cell? ⟨w.heap.size + 1, 1, none⟩ = some (.int .i64 b.st) ∧ W.cell? ⟨w.heap.size + 1, 2, none⟩ = some (.int .i64 b.en) ∧ W.cell? ⟨w.heap.size + 1, 3, none⟩ = some (.int .i64 b.bu) ∧ W.cell? ⟨w.heap.size + 1, 4, none⟩ = some (.bool b.wr) ∧ W.cell? ⟨w.heap.size + 1, 5, none⟩ = some (.bool b.fo) ∧ W.cell? ⟨w.heap.size + 1, 6, none⟩ = some (.int .i64 b.wd)) ∧ Below w0.heap.size w0 W)) (by kernel_rfl) (MK.out _ hW2) (fun hHeld => ?_)
      refine wpAnyH_take (i := 0) (v := ?_) rfl (by kernel_rfl) (by kernel_rfl) (by kernel_rfl) (fun _ _ _ h => h) (Or.inl ⟨by rfl, ?_⟩) hHeld ?_
      rotate_left
      · intro w hSw
        (try dsimp only at hSw)
        go_simp
        try with_reducible rfl
      go_simp
      refine wpAnyH_take (i := 1) (v := ?_) rfl (by kernel_rfl) (by kernel_rfl) (by kernel_rfl) (fun _ _ _ h => h) (Or.inl ⟨by rfl, ?_⟩) hHeld ?_
      rotate_left
      · intro w hSw
        (try dsimp only at hSw)
        go_simp
        try with_reducible rfl
      go_simp
      refine wpAnyH_take (i := 3) (v := ?_) rfl (by kernel_rfl) (by kernel_rfl) (by kernel_rfl) (fun _ _ _ h => h) (Or.inl ⟨by rfl, ?_⟩) hHeld ?_
      rotate_left
      · intro w hSw
        (try dsimp only at hSw)
        go_simp
        try with_reducible rfl
      go_simp
      refine wpAnyH_take (i := 4) (v := ?_) rfl (by kernel_rfl) (by kernel_rfl) (by kernel_rfl) (fun _ _ _ h => h) (Or.inl ⟨by rfl, ?_⟩) hHeld ?_
      rotate_left
      · intro w hSw
        (try dsimp only at hSw)
        go_simp
        try with_reducible rfl
      go_simp
      refine wpAnyH_ready (rs := [2]) (by kernel_rfl) (by simp) ?_
      refine AllReadyH.cons rfl (fun K hK => ?_) ?_
      rotate_left
      · exact AllReadyH.nil
      go_simp
      go_wp2_with (first | (go_at_call 10; ((with_reducible refine (C1.out _ (HBX.out.trans (hW2.mono HBX.out.size))).mono ?_); rintro e w2 ⟨rfl, hb2⟩); have hW2 := hW2.trans (hb2.mono hW2.size)) | (go_at_call 11; ((with_reducible refine (C2.out _ (HBX.out.trans (hW2.mono HBX.out.size))).mono ?_); rintro e w3 ⟨rfl, hb3⟩); have hW2 := hW2.trans (hb3.mono hW2.size)) | (go_at_call 10; ((with_reducible refine (C3.out _ (HBX.out.trans (hW2.mono HBX.out.size))).mono ?_); rintro e w4 ⟨rfl, hb4⟩); have hW2 := hW2.trans (hb4.mono hW2.size)) | (go_at_call 10; ((with_reducible refine (C4.out _ (HBX.out.trans (hW2.mono HBX.out.size))).mono ?_); rintro e w5 ⟨rfl, hb5⟩); have hW2 := hW2.trans (hb5.mono hW2.size)) | (go_at_call 9; ((with_reducible refine (dMid_any _).mono ?_); rintro e w9 ⟨rfl, hb9⟩); have hW2 := hW2.trans (hb9.mono hW2.size)))
      refine hK.out _ _ (MK.out _ hW2) (fun hHeld => ?_)
      clear hK K
      go_simp
      refine wpAnyH_ready (rs := [5]) (by kernel_rfl) (by simp) ?_
      refine AllReadyH.cons rfl (fun K hK => ?_) ?_
      rotate_left
      · exact AllReadyH.nil
      go_simp
      go_wp2_with (first | (go_at_call 10; ((with_reducible refine (C1.out _ (HBX.out.trans (hW2.mono HBX.out.size))).mono ?_); rintro e w2 ⟨rfl, hb2⟩); have hW2 := hW2.trans (hb2.mono hW2.size)) | (go_at_call 11; ((with_reducible refine (C2.out _ (HBX.out.trans (hW2.mono HBX.out.size))).mono ?_); rintro e w3 ⟨rfl, hb3⟩); have hW2 := hW2.trans (hb3.mono hW2.size)) | (go_at_call 10; ((with_reducible refine (C3.out _ (HBX.out.trans (hW2.mono HBX.out.size))).mono ?_); rintro e w4 ⟨rfl, hb4⟩); have hW2 := hW2.trans (hb4.mono hW2.size)) | (go_at_call 10; ((with_reducible refine (C4.out _ (HBX.out.trans (hW2.mono HBX.out.size))).mono ?_); rintro e w5 ⟨rfl, hb5⟩); have hW2 := hW2.trans (hb5.mono hW2.size)) | (go_at_call 9; ((with_reducible refine (dMid_any _).mono ?_); rintro e w9 ⟨rfl, hb9⟩); have hW2 := hW2.trans (hb9.mono hW2.size)))
      refine hK.out _ _ (MK.out _ hW2) (fun hHeld => ?_)
      clear hK K
      go_simp
      refine wpAnyH_take (i := 6) (v := ?_) rfl (by kernel_rfl) (by kernel_rfl) (by kernel_rfl) (fun _ _ _ h => h) (Or.inl ⟨by rfl, ?_⟩) hHeld ?_
      rotate_left
      · intro w hSw
        (try dsimp only at hSw)
        go_simp
        try with_reducible rfl
      go_simp
      refine wpAnyH_take (i := 7) (v := ?_) rfl (by kernel_rfl) (by kernel_rfl) (by kernel_rfl) (fun _ _ _ h => h) (Or.inl ⟨by rfl, ?_⟩) hHeld ?_
      rotate_left
      · intro w hSw
        (try dsimp only at hSw)
        go_simp
        try with_reducible rfl
      go_simp
      refine wpAnyH_take (i := 8) (v := ?_) rfl (by kernel_rfl) (by kernel_rfl) (by kernel_rfl) (fun _ _ _ h => h) (Or.inl ⟨by rfl, ?_⟩) hHeld ?_
      rotate_left
      · intro w hSw
        (try dsimp only at hSw)
        go_simp
        try with_reducible rfl
      go_simp
      refine wpAnyH_take (i := 9) (v := ?_) rfl (by kernel_rfl) (by kernel_rfl) (by kernel_rfl) (fun _ _ _ h => h) (Or.inl ⟨by rfl, ?_⟩) hHeld ?_
      rotate_left
      · intro w hSw
        (try dsimp only at hSw)
        go_simp
        try with_reducible rfl
      go_simp
      refine wpAnyH_ready (rs := [10]) (by kernel_rfl) (by simp) ?_
      refine AllReadyH.cons rfl (fun K hK => ?_) ?_
      rotate_left
      · exact AllReadyH.nil
      go_simp
      go_wp2_with (first | (go_at_call 10; ((with_reducible refine (C1.out _ (HBX.out.trans (hW2.mono HBX.out.size))).mono ?_); rintro e w2 ⟨rfl, hb2⟩); have hW2 := hW2.trans (hb2.mono hW2.size)) | (go_at_call 11; ((with_reducible refine (C2.out _ (HBX.out.trans (hW2.mono HBX.out.size))).mono ?_); rintro e w3 ⟨rfl, hb3⟩); have hW2 := hW2.trans (hb3.mono hW2.size)) | (go_at_call 10; ((with_reducible refine (C3.out _ (HBX.out.trans (hW2.mono HBX.out.size))).mono ?_); rintro e w4 ⟨rfl, hb4⟩); have hW2 := hW2.trans (hb4.mono hW2.size)) | (go_at_call 10; ((with_reducible refine (C4.out _ (HBX.out.trans (hW2.mono HBX.out.size))).mono ?_); rintro e w5 ⟨rfl, hb5⟩); have hW2 := hW2.trans (hb5.mono hW2.size)) | (go_at_call 9; ((with_reducible refine (dMid_any _).mono ?_); rintro e w9 ⟨rfl, hb9⟩); have hW2 := hW2.trans (hb9.mono hW2.size)))
      refine hK.out _ _ (MK.out _ hW2) (fun hHeld => ?_)
      clear hK K
      go_simp
      refine wpAnyH_take (i := 11) (v := ?_) rfl (by kernel_rfl) (by kernel_rfl) (by kernel_rfl) (fun _ _ _ h => h) (Or.inl ⟨by rfl, ?_⟩) hHeld ?_
      rotate_left
      · intro w hSw
        (try dsimp only at hSw)
        go_simp
        try with_reducible rfl
      go_simp
      refine wpAnyH_take (i := 12) (v := ?_) rfl (by kernel_rfl) (by kernel_rfl) (by kernel_rfl) (fun _ _ _ h => h) (Or.inl ⟨by rfl, ?_⟩) hHeld ?_
      rotate_left
      · intro w hSw
        (try dsimp only at hSw)
        go_simp
        try with_reducible rfl
      go_simp
      refine wpAnyH_take (i := 13) (v := ?_) rfl (by kernel_rfl) (by kernel_rfl) (by kernel_rfl) (fun _ _ _ h => h) (Or.inl ⟨by rfl, ?_⟩) hHeld ?_
      rotate_left
      · intro w hSw
        (try dsimp only at hSw)
        go_simp
        try with_reducible rfl
      go_simp
      refine wpAnyH_take (i := 14) (v := ?_) rfl (by kernel_rfl) (by kernel_rfl) (by kernel_rfl) (fun _ _ _ h => h) (Or.inl ⟨by rfl, ?_⟩) hHeld ?_
      rotate_left
      · intro w hSw
        (try dsimp only at hSw)
        go_simp
        try with_reducible rfl
      go_simp
      refine wpAnyH_take (i := 16) (v := ?_) rfl (by kernel_rfl) (by kernel_rfl) (by kernel_rfl) (fun _ _ _ h => h) (Or.inl ⟨by rfl, ?_⟩) hHeld ?_
      rotate_left
      · intro w hSw
        (try dsimp only at hSw)
        go_simp
        try with_reducible rfl
      go_simp
      refine wpAnyH_take (i := 17) (v := ?_) rfl (by kernel_rfl) (by kernel_rfl) (by kernel_rfl) (fun _ _ _ h => h) (Or.inl ⟨by rfl, ?_⟩) hHeld ?_
      rotate_left
      · intro w hSw
        (try dsimp only at hSw)
        go_simp
        try with_reducible rfl
      go_simp
      refine wpAnyH_ready (rs := [15]) (by kernel_rfl) (by simp) ?_
      refine AllReadyH.cons rfl (fun K hK => ?_) ?_
      rotate_left
      · exact AllReadyH.nil
      go_simp
      go_wp2_with (first | (go_at_call 10; ((with_reducible refine (C1.out _ (HBX.out.trans (hW2.mono HBX.out.size))).mono ?_); rintro e w2 ⟨rfl, hb2⟩); have hW2 := hW2.trans (hb2.mono hW2.size)) | (go_at_call 11; ((with_reducible refine (C2.out _ (HBX.out.trans (hW2.mono HBX.out.size))).mono ?_); rintro e w3 ⟨rfl, hb3⟩); have hW2 := hW2.trans (hb3.mono hW2.size)) | (go_at_call 10; ((with_reducible refine (C3.out _ (HBX.out.trans (hW2.mono HBX.out.size))).mono ?_); rintro e w4 ⟨rfl, hb4⟩); have hW2 := hW2.trans (hb4.mono hW2.size)) | (go_at_call 10; ((with_reducible refine (C4.out _ (HBX.out.trans (hW2.mono HBX.out.size))).mono ?_); rintro e w5 ⟨rfl, hb5⟩); have hW2 := hW2.trans (hb5.mono hW2.size)) | (go_at_call 9; ((with_reducible refine (dMid_any _).mono ?_); rintro e w9 ⟨rfl, hb9⟩); have hW2 := hW2.trans (hb9.mono hW2.size)))
      refine hK.out _ _ (MK.out _ hW2) (fun hHeld => ?_)
      clear hK K
      go_simp
      refine wpAnyH_ready (rs := [18]) (by kernel_rfl) (by simp) ?_
      refine AllReadyH.cons rfl (fun K hK => ?_) ?_
      rotate_left
      · exact AllReadyH.nil
      go_simp
      go_wp2_with (first | (go_at_call 10; ((with_reducible refine (C1.out _ (HBX.out.trans (hW2.mono HBX.out.size))).mono ?_); rintro e w2 ⟨rfl, hb2⟩); have hW2 := hW2.trans (hb2.mono hW2.size)) | (go_at_call 11; ((with_reducible refine (C2.out _ (HBX.out.trans (hW2.mono HBX.out.size))).mono ?_); rintro e w3 ⟨rfl, hb3⟩); have hW2 := hW2.trans (hb3.mono hW2.size)) | (go_at_call 10; ((with_reducible refine (C3.out _ (HBX.out.trans (hW2.mono HBX.out.size))).mono ?_); rintro e w4 ⟨rfl, hb4⟩); have hW2 := hW2.trans (hb4.mono hW2.size)) | (go_at_call 10; ((with_reducible refine (C4.out _ (HBX.out.trans (hW2.mono HBX.out.size))).mono ?_); rintro e w5 ⟨rfl, hb5⟩); have hW2 := hW2.trans (hb5.mono hW2.size)) | (go_at_call 9; ((with_reducible refine (dMid_any _).mono ?_); rintro e w9 ⟨rfl, hb9⟩); have hW2 := hW2.trans (hb9.mono hW2.size)))
      refine hK.out _ _ (MK.out _ hW2) (fun hHeld => ?_)
      clear hK K
      go_simp
      refine wpAnyH_take (i := 19) (v := ?_) rfl (by kernel_rfl) (by kernel_rfl) (by kernel_rfl) (fun _ _ _ h => h) (Or.inl ⟨by rfl, ?_⟩) hHeld ?_
      rotate_left
      · intro w hSw
        (try dsimp only at hSw)
        go_simp
        try with_reducible rfl
      go_simp
      refine wpAnyH_take (i := 20) (v := ?_) rfl (by kernel_rfl) (by kernel_rfl) (by kernel_rfl) (fun _ _ _ h => h) (Or.inl ⟨by rfl, ?_⟩) hHeld ?_
      rotate_left
      · intro w hSw
        (try dsimp only at hSw)
        go_simp
        try with_reducible rfl
      go_simp
      refine wpAnyH_take (i := 21) (v := ?_) rfl (by kernel_rfl) (by kernel_rfl) (by kernel_rfl) (fun _ _ _ h => h) (Or.inl ⟨by rfl, ?_⟩) hHeld ?_
      rotate_left
      · intro w hSw
        (try dsimp only at hSw)
        go_simp
        try with_reducible rfl
      go_simp
      refine wpAnyH_ready (rs := [22]) (by kernel_rfl) (by simp) ?_
      refine AllReadyH.cons rfl (fun K hK => ?_) ?_
      rotate_left
      · exact AllReadyH.nil
      go_simp
      go_wp2_with (first | (go_at_call 10; ((with_reducible refine (C1.out _ (HBX.out.trans (hW2.mono HBX.out.size))).mono ?_); rintro e w2 ⟨rfl, hb2⟩); have hW2 := hW2.trans (hb2.mono hW2.size)) | (go_at_call 11; ((with_reducible refine (C2.out _ (HBX.out.trans (hW2.mono HBX.out.size))).mono ?_); rintro e w3 ⟨rfl, hb3⟩); have hW2 := hW2.trans (hb3.mono hW2.size)) | (go_at_call 10; ((with_reducible refine (C3.out _ (HBX.out.trans (hW2.mono HBX.out.size))).mono ?_); rintro e w4 ⟨rfl, hb4⟩); have hW2 := hW2.trans (hb4.mono hW2.size)) | (go_at_call 10; ((with_reducible refine (C4.out _ (HBX.out.trans (hW2.mono HBX.out.size))).mono ?_); rintro e w5 ⟨rfl, hb5⟩); have hW2 := hW2.trans (hb5.mono hW2.size)) | (go_at_call 9; ((with_reducible refine (dMid_any _).mono ?_); rintro e w9 ⟨rfl, hb9⟩); have hW2 := hW2.trans (hb9.mono hW2.size)))
      refine hK.out _ _ (MK.out _ hW2) (fun hHeld => ?_)
      clear hK K
      go_simp
      refine wpAnyH_take (i := 23) (v := ?_) rfl (by kernel_rfl) (by kernel_rfl) (by kernel_rfl) (fun _ _ _ h => h) (Or.inl ⟨by rfl, ?_⟩) hHeld ?_
      rotate_left
      · intro w hSw
        (try dsimp only at hSw)
        go_simp
        try with_reducible rfl
      go_simp
      refine wpAnyH_take (i := 24) (v := ?_) rfl (by kernel_rfl) (by kernel_rfl) (by kernel_rfl) (fun _ _ _ h => h) (Or.inl ⟨by rfl, ?_⟩) hHeld ?_
      rotate_left
      · intro w hSw
        (try dsimp only at hSw)
        go_simp
        try with_reducible rfl
      go_simp
      refine wpAnyH_done (by kernel_rfl) ?_ _
      refine NoPanic.normal ?_
      go_wp2
      go_ret
      exact ⟨rfl, HBX.out.trans (hW2.mono HBX.out.size)⟩
end Go.Proofs.Ytebjkgeldjgnfaa
