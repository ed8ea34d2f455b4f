/- The law DiffSound: its walk. -/
import Derived.Test.YtebjkgeldjgnfaaDfH
import Derived.Test.YtebjkgeldjgnfaaDfF
namespace Go.Proofs.Ytebjkgeldjgnfaa
open Go.RowKit
set_option linter.unusedVariables false
set_option maxHeartbeats 8000000 in
set_option maxRecDepth 100000 in
theorem diffSound_walk (A : Option Addr) (n c : Nat) (l : List Rw) (B : Option Addr) (m d : Nat) (o : List Rw) (p : Rp) (w : World) (hA : RowsAt encR 7 w A l) (hl : l.length = n) (hn : n ≤ maxLen) (hc : Caps A n c) (okl : ∀ s ∈ l, RwOk w s) (hB : RowsAt encR 7 w B o) (hy : o.length = m) (hm : m ≤ maxLen) (hd : Caps B m d) (oko : ∀ s ∈ o, RwOk w s) (hp : RpOk p) :
    Calls Try.prog 5 #[.slice A n c, .slice B m d, .agg #[.int .i64 p.a, .int .i64 p.b, .int .i64 p.c, .int .i64 p.d]] w fun e w' => e = .returned (.bool true) ∧ Below w.heap.size w w' := by
  have R0 : Hid (RawAt 28 (w.alloc (.cells #[.int .i64 p.a, .int .i64 p.b, .int .i64 p.c, .int .i64 p.d] 28)) w.heap.size #[.int .i64 p.a, .int .i64 p.b, .int .i64 p.c, .int .i64 p.d]) := Lib.hid (heap_alloc_new w _)
  have HB0 : Hid (Below w.heap.size w (w.alloc (.cells #[.int .i64 p.a, .int .i64 p.b, .int .i64 p.c, .int .i64 p.d] 28))) := Lib.hid ((Below.refl _ _).alloc (Nat.le_refl _) _)
  clear hp
  have okl2 : ∀ s ∈ l, RwOk w s ∧ s.n ≤ 9223372036854775807 := fun s hs => ⟨okl s hs, by have := (okl s hs).max; simpa only [maxLen] using this⟩
  have oko2 : ∀ s ∈ o, RwOk w s ∧ s.n ≤ 9223372036854775807 := fun s hs => ⟨oko s hs, by have := (oko s hs).max; simpa only [maxLen] using this⟩
  have hn2 : n ≤ 9223372036854775807 := by simpa only [maxLen] using hn
  have hm2 : m ≤ 9223372036854775807 := by simpa only [maxLen] using hm
  obtain ⟨b1, hb1⟩ : ∃ b, rlg 0 l = b := ⟨_, rfl⟩
  obtain ⟨b2, hb2⟩ : ∃ b, rlg 0 o = b := ⟨_, rfl⟩
  have CL1 := Lib.hid fun W (hW : Below w.heap.size w W) => dLong_any A n c l b1 hb1 W (hA.below hW) hl hn
  have CL2 := Lib.hid fun W (hW : Below w.heap.size w W) => dLong_any B m d o b2 hb2 W (hB.below hW) hy hm
  clear hb1 hb2
  go_enter Try.func5, Try.ntmps5
  go_wp2_with fail
  with_reducible refine (CL1.out _ HB0.out).mono ?_
  rintro e w1 ⟨rfl, hq1⟩
  have HB1 := Lib.hid (HB0.out.trans (hq1.mono HB0.out.size))
  have R1 := Lib.hid (RawAt.below R0.out hq1 (RawAt.lt R0.out))
  clear R0
  clear hq1 CL1
  cases b1
  · go_wp2_with fail
    with_reducible refine (CL2.out _ HB1.out).mono ?_
    rintro e w2 ⟨rfl, hq2⟩
    have HB2 := Lib.hid (HB1.out.trans (hq2.mono HB1.out.size))
    have R2 := Lib.hid (RawAt.below R1.out hq2 (RawAt.lt R1.out))
    clear hq2 CL2
    cases b2
    · skip
      obtain ⟨bv, hbv⟩ : ∃ bv : Bool, bv = true ↔ Snd l o p := by
        by_cases g : Snd l o p
        · exact ⟨true, ⟨fun _ => g, fun _ => rfl⟩⟩
        · exact ⟨false, ⟨(fun h => by cases h), fun h => absurd h g⟩⟩
      have C1 := Lib.hid fun W (hW : Below w.heap.size w W) => dSound_any A B n c m d l o p bv hbv W (hA.below hW) hl (hB.below hW) hy (fun s hs => ⟨(okl2 s hs).1.below hW, (okl2 s hs).2⟩) (fun s hs => ⟨(oko2 s hs).1.below hW, (oko2 s hs).2⟩) hn2 hm2
      have C2 := Lib.hid fun W (hW : Below w.heap.size w W) => dRSound_any A B n c m d l o p bv hbv W (hA.below hW) hl (hB.below hW) hy (fun s hs => ⟨(okl2 s hs).1.below hW, (okl2 s hs).2⟩) (fun s hs => ⟨(oko2 s hs).1.below hW, (oko2 s hs).2⟩) hn2 hm2
      have hbb : (bv == bv) = true := by simp
      clear hbv hA hl hn hc okl hB hy hm hd oko okl2 oko2 hn2 hm2
      go_wp2_with fail
      have MK : Hid (∀ W : World, Below w2.heap.size w2 W → (fun W => (W.cell? ⟨w.heap.size, 0, none⟩ = some (.int .i64 p.a) ∧ W.cell? ⟨w.heap.size, 1, none⟩ = some (.int .i64 p.b) ∧ W.cell? ⟨w.heap.size, 2, none⟩ = some (.int .i64 p.c) ∧ W.cell? ⟨w.heap.size, 3, none⟩ = some (.int .i64 p.d)) ∧ Below w2.heap.size w2 W) W) := fun W hW => by
        have r1 := RawAt.below R2.out hW (RawAt.lt R2.out)
        exact ⟨⟨RawAt.cell r1 0, RawAt.cell r1 1, RawAt.cell r1 2, RawAt.cell r1 3⟩, hW⟩
      have hW2 : Below w2.heap.size w2 w2.drew := (Below.refl _ _).drew
      refine wp_region_noPanic ?_
      refine wp_region_held_drew (S := (fun W => (W.cell? ⟨w.heap.size, 0, none⟩ = some (.int .i64 p.a) ∧ W.cell? ⟨w.heap.size, 1, none⟩ = some (.int .i64 p.b) ∧ W.cell? ⟨w.heap.size, 2, none⟩ = some (.int .i64 p.c) ∧ W.cell? ⟨w.heap.size, 3, none⟩ = some (.int .i64 p.d)) ∧ Below w2.heap.size w2 W)) (by kernel_rfl) (MK.out _ hW2) (fun hHeld => ?_)
      refine wpAnyH_take (i := 0) (v := ?_) rfl (by kernel_rfl) (by kernel_rfl) (by kernel_rfl) (fun _ _ _ h => h) (Or.inl ⟨by rfl, ?_⟩) hHeld ?_
      rotate_left
      · intro w hSw
        (try dsimp only at hSw)
        go_simp
        try with_reducible rfl
      go_simp
      refine wpAnyH_take (i := 1) (v := ?_) rfl (by kernel_rfl) (by kernel_rfl) (by kernel_rfl) (fun _ _ _ h => h) (Or.inl ⟨by rfl, ?_⟩) hHeld ?_
      rotate_left
      · intro w hSw
        (try dsimp only at hSw)
        go_simp
        try with_reducible rfl
      go_simp
      refine wpAnyH_take (i := 2) (v := ?_) rfl (by kernel_rfl) (by kernel_rfl) (by kernel_rfl) (fun _ _ _ h => h) (Or.inl ⟨by rfl, ?_⟩) hHeld ?_
      rotate_left
      · intro w hSw
        (try dsimp only at hSw)
        go_simp
        try with_reducible rfl
      go_simp
      refine wpAnyH_take (i := 4) (v := ?_) rfl (by kernel_rfl) (by kernel_rfl) (by kernel_rfl) (fun _ _ _ h => h) (Or.inl ⟨by rfl, ?_⟩) hHeld ?_
      rotate_left
      · intro w hSw
        (try dsimp only at hSw)
        go_simp
        try with_reducible rfl
      go_simp
      refine wpAnyH_take (i := 5) (v := ?_) rfl (by kernel_rfl) (by kernel_rfl) (by kernel_rfl) (fun _ _ _ h => h) (Or.inl ⟨by rfl, ?_⟩) hHeld ?_
      rotate_left
      · intro w hSw
        (try dsimp only at hSw)
        go_simp
        try with_reducible rfl
      go_simp
      refine wpAnyH_take (i := 6) (v := ?_) rfl (by kernel_rfl) (by kernel_rfl) (by kernel_rfl) (fun _ _ _ h => h) (Or.inl ⟨by rfl, ?_⟩) hHeld ?_
      rotate_left
      · intro w hSw
        (try dsimp only at hSw)
        go_simp
        try with_reducible rfl
      go_simp
      refine wpAnyH_ready (rs := [3]) (by kernel_rfl) (by simp) ?_
      refine AllReadyH.cons rfl (fun K hK => ?_) ?_
      rotate_left
      · exact AllReadyH.nil
      go_simp
      go_wp2_with (first | (go_at_call 15; ((with_reducible refine (C1.out _ (HB2.out.trans (hW2.mono HB2.out.size))).mono ?_); rintro e w3 ⟨rfl, hb3⟩); have hW2 := hW2.trans (hb3.mono hW2.size)) | (go_at_call 16; ((with_reducible refine (C2.out _ (HB2.out.trans (hW2.mono HB2.out.size))).mono ?_); rintro e w4 ⟨rfl, hb4⟩); have hW2 := hW2.trans (hb4.mono hW2.size)) | (go_at_call 9; ((with_reducible refine (dMid_any _).mono ?_); rintro e w9 ⟨rfl, hb9⟩); have hW2 := hW2.trans (hb9.mono hW2.size)))
      refine hK.out _ _ (MK.out _ hW2) (fun hHeld => ?_)
      clear hK K
      go_simp
      refine wpAnyH_ready (rs := [7]) (by kernel_rfl) (by simp) ?_
      refine AllReadyH.cons rfl (fun K hK => ?_) ?_
      rotate_left
      · exact AllReadyH.nil
      go_simp
      go_wp2_with (first | (go_at_call 15; ((with_reducible refine (C1.out _ (HB2.out.trans (hW2.mono HB2.out.size))).mono ?_); rintro e w3 ⟨rfl, hb3⟩); have hW2 := hW2.trans (hb3.mono hW2.size)) | (go_at_call 16; ((with_reducible refine (C2.out _ (HB2.out.trans (hW2.mono HB2.out.size))).mono ?_); rintro e w4 ⟨rfl, hb4⟩); have hW2 := hW2.trans (hb4.mono hW2.size)) | (go_at_call 9; ((with_reducible refine (dMid_any _).mono ?_); rintro e w9 ⟨rfl, hb9⟩); have hW2 := hW2.trans (hb9.mono hW2.size)))
      refine hK.out _ _ (MK.out _ hW2) (fun hHeld => ?_)
      clear hK K
      go_simp
      refine wpAnyH_take (i := 8) (v := ?_) rfl (by kernel_rfl) (by kernel_rfl) (by kernel_rfl) (fun _ _ _ h => h) (Or.inl ⟨by rfl, ?_⟩) hHeld ?_
      rotate_left
      · intro w hSw
        (try dsimp only at hSw)
        go_simp
        try with_reducible rfl
      go_simp
      refine wpAnyH_take (i := 9) (v := ?_) rfl (by kernel_rfl) (by kernel_rfl) (by kernel_rfl) (fun _ _ _ h => h) (Or.inl ⟨by rfl, ?_⟩) hHeld ?_
      rotate_left
      · intro w hSw
        (try dsimp only at hSw)
        go_simp
        try with_reducible rfl
      go_simp
      refine wpAnyH_ready (rs := [10]) (by kernel_rfl) (by simp) ?_
      refine AllReadyH.cons rfl (fun K hK => ?_) ?_
      rotate_left
      · exact AllReadyH.nil
      go_simp
      go_wp2_with (first | (go_at_call 15; ((with_reducible refine (C1.out _ (HB2.out.trans (hW2.mono HB2.out.size))).mono ?_); rintro e w3 ⟨rfl, hb3⟩); have hW2 := hW2.trans (hb3.mono hW2.size)) | (go_at_call 16; ((with_reducible refine (C2.out _ (HB2.out.trans (hW2.mono HB2.out.size))).mono ?_); rintro e w4 ⟨rfl, hb4⟩); have hW2 := hW2.trans (hb4.mono hW2.size)) | (go_at_call 9; ((with_reducible refine (dMid_any _).mono ?_); rintro e w9 ⟨rfl, hb9⟩); have hW2 := hW2.trans (hb9.mono hW2.size)))
      refine hK.out _ _ (MK.out _ hW2) (fun hHeld => ?_)
      clear hK K
      go_simp
      refine wpAnyH_take (i := 11) (v := ?_) rfl (by kernel_rfl) (by kernel_rfl) (by kernel_rfl) (fun _ _ _ h => h) (Or.inl ⟨by rfl, ?_⟩) hHeld ?_
      rotate_left
      · intro w hSw
        (try dsimp only at hSw)
        go_simp
        try with_reducible rfl
      go_simp
      refine wpAnyH_take (i := 12) (v := ?_) rfl (by kernel_rfl) (by kernel_rfl) (by kernel_rfl) (fun _ _ _ h => h) (Or.inl ⟨by rfl, ?_⟩) hHeld ?_
      rotate_left
      · intro w hSw
        (try dsimp only at hSw)
        go_simp
        try with_reducible rfl
      go_simp
      refine wpAnyH_done (by kernel_rfl) ?_ _
      refine NoPanic.normal ?_
      go_wp2
      go_ret
      exact ⟨rfl, HB2.out.trans (hW2.mono HB2.out.size)⟩
    · go_wp2_with fail
      with_reducible refine (dMid_any _).mono ?_
      rintro e w9 ⟨rfl, hb9⟩
      have HB9 := Lib.hid (HB2.out.trans (hb9.mono HB2.out.size))
      go_wp2
      go_ret
      exact ⟨rfl, HB9.out⟩
  · go_wp2_with fail
    with_reducible refine (dMid_any _).mono ?_
    rintro e w9 ⟨rfl, hb9⟩
    have HB9 := Lib.hid (HB1.out.trans (hb9.mono HB1.out.size))
    go_wp2
    go_ret
    exact ⟨rfl, HB9.out⟩
end Go.Proofs.Ytebjkgeldjgnfaa
