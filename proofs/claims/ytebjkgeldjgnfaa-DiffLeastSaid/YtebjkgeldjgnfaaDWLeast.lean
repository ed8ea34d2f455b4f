/- The law DiffLeast: its walk. -/
import Derived.Test.YtebjkgeldjgnfaaDfH
import Derived.Test.YtebjkgeldjgnfaaDfG
namespace Go.Proofs.Ytebjkgeldjgnfaa
open Go.RowKit
set_option linter.unusedVariables false
set_option maxHeartbeats 8000000 in
set_option maxRecDepth 100000 in
theorem diffLeast_walk (A : Option Addr) (n c : Nat) (l : List Rw) (B : Option Addr) (m d : Nat) (o : List Rw) (w : World) (hA : RowsAt encR 7 w A l) (hl : l.length = n) (hn : n ≤ maxLen) (hc : Caps A n c) (okl : ∀ s ∈ l, RwOk w s) (hB : RowsAt encR 7 w B o) (hy : o.length = m) (hm : m ≤ maxLen) (hd : Caps B m d) (oko : ∀ s ∈ o, RwOk w s) :
    Calls Try.prog 6 #[.slice A n c, .slice B m d] w fun e w' => e = .returned (.bool true) ∧ Below w.heap.size w w' := by
  have HB0 : Hid (Below w.heap.size w w) := Lib.hid (Below.refl _ _)
  have okl2 : ∀ s ∈ l, RwOk w s ∧ s.n ≤ 9223372036854775807 := fun s hs => ⟨okl s hs, by have := (okl s hs).max; simpa only [maxLen] using this⟩
  have oko2 : ∀ s ∈ o, RwOk w s ∧ s.n ≤ 9223372036854775807 := fun s hs => ⟨oko s hs, by have := (oko s hs).max; simpa only [maxLen] using this⟩
  have hn2 : n ≤ 9223372036854775807 := by simpa only [maxLen] using hn
  have hm2 : m ≤ 9223372036854775807 := by simpa only [maxLen] using hm
  obtain ⟨b1, hb1⟩ : ∃ b, rlg 0 l = b := ⟨_, rfl⟩
  obtain ⟨b2, hb2⟩ : ∃ b, rlg 0 o = b := ⟨_, rfl⟩
  have CL1 := Lib.hid fun W (hW : Below w.heap.size w W) => dLong_any A n c l b1 hb1 W (hA.below hW) hl hn
  have CL2 := Lib.hid fun W (hW : Below w.heap.size w W) => dLong_any B m d o b2 hb2 W (hB.below hW) hy hm
  clear hb1 hb2
  go_enter Try.func6, Try.ntmps6
  go_wp2_with fail
  with_reducible refine (CL1.out _ HB0.out).mono ?_
  rintro e w1 ⟨rfl, hq1⟩
  have HB1 := Lib.hid (HB0.out.trans (hq1.mono HB0.out.size))
  clear hq1 CL1
  cases b1
  · go_wp2_with fail
    with_reducible refine (CL2.out _ HB1.out).mono ?_
    rintro e w2 ⟨rfl, hq2⟩
    have HB2 := Lib.hid (HB1.out.trans (hq2.mono HB1.out.size))
    clear hq2 CL2
    cases b2
    · skip
      obtain ⟨p, hp⟩ := lst_ex l o
      obtain ⟨q, hq⟩ := lst_ex l l
      have hqs := hq.same
      rw [hl] at hqs
      have C1 := Lib.hid fun W (hW : Below w.heap.size w W) => dLeast_any A B n c m d l o p hp W (hA.below hW) hl (hB.below hW) hy (fun s hs => ⟨(okl2 s hs).1.below hW, (okl2 s hs).2⟩) (fun s hs => ⟨(oko2 s hs).1.below hW, (oko2 s hs).2⟩) hn2 hm2
      have C2 := Lib.hid fun W (hW : Below w.heap.size w W) => dLeast_any A A n c n c l l q hq W (hA.below hW) hl (hA.below hW) hl (fun s hs => ⟨(okl2 s hs).1.below hW, (okl2 s hs).2⟩) (fun s hs => ⟨(okl2 s hs).1.below hW, (okl2 s hs).2⟩) hn2 hn2
      have C3 := Lib.hid fun W (hW : Below w.heap.size w W) => dRLeast_any A B n c m d l o p hp W (hA.below hW) hl (hB.below hW) hy (fun s hs => ⟨(okl2 s hs).1.below hW, (okl2 s hs).2⟩) (fun s hs => ⟨(oko2 s hs).1.below hW, (oko2 s hs).2⟩) hn2 hm2
      have C4 := Lib.hid fun W (hW : Below w.heap.size w W) => dSound_any A B n c m d l o p true ⟨fun _ => hp.snd, fun _ => rfl⟩ W (hA.below hW) hl (hB.below hW) hy (fun s hs => ⟨(okl2 s hs).1.below hW, (okl2 s hs).2⟩) (fun s hs => ⟨(oko2 s hs).1.below hW, (oko2 s hs).2⟩) hn2 hm2
      rw [hqs.1, hqs.2] at C2
      clear hp hq hqs hA hl hn hc okl hB hy hm hd oko okl2 oko2 hn2 hm2
      go_wp2_with fail
      with_reducible refine (C1.out _ HB2.out).mono ?_
      rintro e w3 ⟨rfl, hq3⟩
      have HB3 := Lib.hid (HB2.out.trans (hq3.mono HB2.out.size))
      clear hq3 C1
      have x4 : Below w3.heap.size w3 (w3.alloc (.cells #[.int .i64 p.a, .int .i64 p.b, .int .i64 p.c, .int .i64 p.d] 28)) := (Below.refl _ _).alloc (Nat.le_refl _) _
      have R4 : RawAt 28 (w3.alloc (.cells #[.int .i64 p.a, .int .i64 p.b, .int .i64 p.c, .int .i64 p.d] 28)) w3.heap.size #[.int .i64 p.a, .int .i64 p.b, .int .i64 p.c, .int .i64 p.d] := heap_alloc_new w3 _
      have HB4 := Lib.hid (HB3.out.trans (x4.mono HB3.out.size))
      have HR4 := Lib.hid R4
      clear x4 R4
      obtain ⟨b4, hb4⟩ : ∃ b4, b4 = w3.heap.size := ⟨_, rfl⟩
      rw [← hb4] at HR4
      have HE4 := Lib.hid hb4
      clear hb4
      go_wp2_with fail
      rw [← HE4.out]
      generalize hW4 : w3.alloc (.cells #[.int .i64 p.a, .int .i64 p.b, .int .i64 p.c, .int .i64 p.d] 28) = w4 at *
      have HW4 := Lib.hid hW4
      clear hW4
      with_reducible refine (C2.out _ HB4.out).mono ?_
      rintro e w5 ⟨rfl, hq5⟩
      have HB5 := Lib.hid (HB4.out.trans (hq5.mono HB4.out.size))
      have HR5 := Lib.hid (RawAt.below HR4.out hq5 (RawAt.lt HR4.out))
      clear hq5 C2 HR4
      have x6 : Below w5.heap.size w5 (w5.alloc (.cells #[.int .i64 (n : Int), .int .i64 (n : Int), .int .i64 q.c, .int .i64 q.d] 28)) := (Below.refl _ _).alloc (Nat.le_refl _) _
      have Q6 : RawAt 28 (w5.alloc (.cells #[.int .i64 (n : Int), .int .i64 (n : Int), .int .i64 q.c, .int .i64 q.d] 28)) w5.heap.size #[.int .i64 (n : Int), .int .i64 (n : Int), .int .i64 q.c, .int .i64 q.d] := heap_alloc_new w5 _
      have HB6 := Lib.hid (HB5.out.trans (x6.mono HB5.out.size))
      have HR6 := Lib.hid (RawAt.below HR5.out x6 (RawAt.lt HR5.out))
      have HQ6 := Lib.hid Q6
      clear x6 Q6 HR5
      obtain ⟨b6, hb6⟩ : ∃ b6, b6 = w5.heap.size := ⟨_, rfl⟩
      rw [← hb6] at HQ6
      have HE6 := Lib.hid hb6
      clear hb6
      go_wp2_with fail
      rw [← HE6.out]
      generalize hW6 : w5.alloc (.cells #[.int .i64 (n : Int), .int .i64 (n : Int), .int .i64 q.c, .int .i64 q.d] 28) = w6 at *
      have HW6 := Lib.hid hW6
      clear hW6
      have hnn : ((n : Int) == (n : Int)) = true := by simp
      have MK : Hid (∀ W : World, Below w6.heap.size w6 W → (fun W => (W.cell? ⟨b4, 0, none⟩ = some (.int .i64 p.a) ∧ W.cell? ⟨b4, 1, none⟩ = some (.int .i64 p.b) ∧ W.cell? ⟨b4, 2, none⟩ = some (.int .i64 p.c) ∧ W.cell? ⟨b4, 3, none⟩ = some (.int .i64 p.d)) ∧ (W.cell? ⟨b6, 0, none⟩ = some (.int .i64 (n : Int)) ∧ W.cell? ⟨b6, 1, none⟩ = some (.int .i64 (n : Int))) ∧ Below w6.heap.size w6 W) W) := fun W hW => by
        have r1 := RawAt.below HR6.out hW (RawAt.lt HR6.out)
        have r2 := RawAt.below HQ6.out hW (RawAt.lt HQ6.out)
        exact ⟨⟨RawAt.cell r1 0, RawAt.cell r1 1, RawAt.cell r1 2, RawAt.cell r1 3⟩, ⟨RawAt.cell r2 0, RawAt.cell r2 1⟩, hW⟩
      have hW2 : Below w6.heap.size w6 w6.drew := (Below.refl _ _).drew
      refine wp_region_noPanic ?_
      refine wp_region_held_drew (S := (fun W => (W.cell? ⟨b4, 0, none⟩ = some (.int .i64 p.a) ∧ W.cell? ⟨b4, 1, none⟩ = some (.int .i64 p.b) ∧ W.cell? ⟨b4, 2, none⟩ = some (.int .i64 p.c) ∧ W.cell? ⟨b4, 3, none⟩ = some (.int .i64 p.d)) ∧ (W.cell? ⟨b6, 0, none⟩ = some (.int .i64 (n : Int)) ∧ W.cell? ⟨b6, 1, none⟩ = some (.int .i64 (n : Int))) ∧ Below w6.heap.size w6 W)) (by kernel_rfl) (MK.out _ hW2) (fun hHeld => ?_)
      refine wpAnyH_take (i := 0) (v := ?_) rfl (by kernel_rfl) (by kernel_rfl) (by kernel_rfl) (fun _ _ _ h => h) (Or.inl ⟨by rfl, ?_⟩) hHeld ?_
      rotate_left
      · intro w hSw
        (try dsimp only at hSw)
        go_simp
        try with_reducible rfl
      go_simp
      refine wpAnyH_take (i := 1) (v := ?_) rfl (by kernel_rfl) (by kernel_rfl) (by kernel_rfl) (fun _ _ _ h => h) (Or.inl ⟨by rfl, ?_⟩) hHeld ?_
      rotate_left
      · intro w hSw
        (try dsimp only at hSw)
        go_simp
        try with_reducible rfl
      go_simp
      refine wpAnyH_take (i := 2) (v := ?_) rfl (by kernel_rfl) (by kernel_rfl) (by kernel_rfl) (fun _ _ _ h => h) (Or.inl ⟨by rfl, ?_⟩) hHeld ?_
      rotate_left
      · intro w hSw
        (try dsimp only at hSw)
        go_simp
        try with_reducible rfl
      go_simp
      refine wpAnyH_ready (rs := [3]) (by kernel_rfl) (by simp) ?_
      refine AllReadyH.cons rfl (fun K hK => ?_) ?_
      rotate_left
      · exact AllReadyH.nil
      go_simp
      go_wp2_with (first | (go_at_call 18; ((with_reducible refine (C3.out _ (HB6.out.trans (hW2.mono HB6.out.size))).mono ?_); rintro e w7 ⟨rfl, hb7⟩); have hW2 := hW2.trans (hb7.mono hW2.size)) | (go_at_call 15; ((with_reducible refine (C4.out _ (HB6.out.trans (hW2.mono HB6.out.size))).mono ?_); rintro e w8 ⟨rfl, hb8⟩); have hW2 := hW2.trans (hb8.mono hW2.size)) | (go_at_call 9; ((with_reducible refine (dMid_any _).mono ?_); rintro e w9 ⟨rfl, hb9⟩); have hW2 := hW2.trans (hb9.mono hW2.size)))
      refine hK.out _ _ (MK.out _ hW2) (fun hHeld => ?_)
      clear hK K
      go_simp
      refine wpAnyH_take (i := 4) (v := ?_) rfl (by kernel_rfl) (by kernel_rfl) (by kernel_rfl) (fun _ _ _ h => h) (Or.inl ⟨by rfl, ?_⟩) hHeld ?_
      rotate_left
      · intro w hSw
        (try dsimp only at hSw)
        go_simp
        try with_reducible rfl
      go_simp
      refine wpAnyH_take (i := 5) (v := ?_) rfl (by kernel_rfl) (by kernel_rfl) (by kernel_rfl) (fun _ _ _ h => h) (Or.inl ⟨by rfl, ?_⟩) hHeld ?_
      rotate_left
      · intro w hSw
        (try dsimp only at hSw)
        go_simp
        try with_reducible rfl
      go_simp
      refine wpAnyH_take (i := 6) (v := ?_) rfl (by kernel_rfl) (by kernel_rfl) (by kernel_rfl) (fun _ _ _ h => h) (Or.inl ⟨by rfl, ?_⟩) hHeld ?_
      rotate_left
      · intro w hSw
        (try dsimp only at hSw)
        go_simp
        try with_reducible rfl
      go_simp
      refine wpAnyH_take (i := 7) (v := ?_) rfl (by kernel_rfl) (by kernel_rfl) (by kernel_rfl) (fun _ _ _ h => h) (Or.inl ⟨by rfl, ?_⟩) hHeld ?_
      rotate_left
      · intro w hSw
        (try dsimp only at hSw)
        go_simp
        try with_reducible rfl
      go_simp
      refine wpAnyH_take (i := 8) (v := ?_) rfl (by kernel_rfl) (by kernel_rfl) (by kernel_rfl) (fun _ _ _ h => h) (Or.inl ⟨by rfl, ?_⟩) hHeld ?_
      rotate_left
      · intro w hSw
        (try dsimp only at hSw)
        go_simp
        try with_reducible rfl
      go_simp
      refine wpAnyH_ready (rs := [9]) (by kernel_rfl) (by simp) ?_
      refine AllReadyH.cons rfl (fun K hK => ?_) ?_
      rotate_left
      · exact AllReadyH.nil
      go_simp
      go_wp2_with (first | (go_at_call 18; ((with_reducible refine (C3.out _ (HB6.out.trans (hW2.mono HB6.out.size))).mono ?_); rintro e w7 ⟨rfl, hb7⟩); have hW2 := hW2.trans (hb7.mono hW2.size)) | (go_at_call 15; ((with_reducible refine (C4.out _ (HB6.out.trans (hW2.mono HB6.out.size))).mono ?_); rintro e w8 ⟨rfl, hb8⟩); have hW2 := hW2.trans (hb8.mono hW2.size)) | (go_at_call 9; ((with_reducible refine (dMid_any _).mono ?_); rintro e w9 ⟨rfl, hb9⟩); have hW2 := hW2.trans (hb9.mono hW2.size)))
      refine hK.out _ _ (MK.out _ hW2) (fun hHeld => ?_)
      clear hK K
      go_simp
      refine wpAnyH_take (i := 10) (v := ?_) rfl (by kernel_rfl) (by kernel_rfl) (by kernel_rfl) (fun _ _ _ h => h) (Or.inl ⟨by rfl, ?_⟩) hHeld ?_
      rotate_left
      · intro w hSw
        (try dsimp only at hSw)
        go_simp
        try with_reducible rfl
      go_simp
      refine wpAnyH_take (i := 11) (v := ?_) rfl (by kernel_rfl) (by kernel_rfl) (by kernel_rfl) (fun _ _ _ h => h) (Or.inl ⟨by rfl, ?_⟩) hHeld ?_
      rotate_left
      · intro w hSw
        (try dsimp only at hSw)
        go_simp
        try with_reducible rfl
      go_simp
      refine wpAnyH_take (i := 12) (v := ?_) rfl (by kernel_rfl) (by kernel_rfl) (by kernel_rfl) (fun _ _ _ h => h) (Or.inl ⟨by rfl, ?_⟩) hHeld ?_
      rotate_left
      · intro w hSw
        (try dsimp only at hSw)
        go_simp
        try with_reducible rfl
      go_simp
      refine wpAnyH_take (i := 13) (v := ?_) rfl (by kernel_rfl) (by kernel_rfl) (by kernel_rfl) (fun _ _ _ h => h) (Or.inl ⟨by rfl, ?_⟩) hHeld ?_
      rotate_left
      · intro w hSw
        (try dsimp only at hSw)
        go_simp
        try with_reducible rfl
      go_simp
      refine wpAnyH_take (i := 14) (v := ?_) rfl (by kernel_rfl) (by kernel_rfl) (by kernel_rfl) (fun _ _ _ h => h) (Or.inl ⟨by rfl, ?_⟩) hHeld ?_
      rotate_left
      · intro w hSw
        (try dsimp only at hSw)
        go_simp
        try with_reducible rfl
      go_simp
      refine wpAnyH_take (i := 15) (v := ?_) rfl (by kernel_rfl) (by kernel_rfl) (by kernel_rfl) (fun _ _ _ h => h) (Or.inl ⟨by rfl, ?_⟩) hHeld ?_
      rotate_left
      · intro w hSw
        (try dsimp only at hSw)
        go_simp
        try with_reducible rfl
      go_simp
      refine wpAnyH_take (i := 16) (v := ?_) rfl (by kernel_rfl) (by kernel_rfl) (by kernel_rfl) (fun _ _ _ h => h) (Or.inl ⟨by rfl, ?_⟩) hHeld ?_
      rotate_left
      · intro w hSw
        (try dsimp only at hSw)
        go_simp
        try with_reducible rfl
      go_simp
      refine wpAnyH_take (i := 17) (v := ?_) rfl (by kernel_rfl) (by kernel_rfl) (by kernel_rfl) (fun _ _ _ h => h) (Or.inl ⟨by rfl, ?_⟩) hHeld ?_
      rotate_left
      · intro w hSw
        (try dsimp only at hSw)
        go_simp
        try with_reducible rfl
      go_simp
      refine wpAnyH_take (i := 18) (v := ?_) rfl (by kernel_rfl) (by kernel_rfl) (by kernel_rfl) (fun _ _ _ h => h) (Or.inl ⟨by rfl, ?_⟩) hHeld ?_
      rotate_left
      · intro w hSw
        (try dsimp only at hSw)
        go_simp
        try with_reducible rfl
      go_simp
      refine wpAnyH_take (i := 19) (v := ?_) rfl (by kernel_rfl) (by kernel_rfl) (by kernel_rfl) (fun _ _ _ h => h) (Or.inl ⟨by rfl, ?_⟩) hHeld ?_
      rotate_left
      · intro w hSw
        (try dsimp only at hSw)
        go_simp
        try with_reducible rfl
      go_simp
      refine wpAnyH_take (i := 20) (v := ?_) rfl (by kernel_rfl) (by kernel_rfl) (by kernel_rfl) (fun _ _ _ h => h) (Or.inl ⟨by rfl, ?_⟩) hHeld ?_
      rotate_left
      · intro w hSw
        (try dsimp only at hSw)
        go_simp
        try with_reducible rfl
      go_simp
      refine wpAnyH_take (i := 21) (v := ?_) rfl (by kernel_rfl) (by kernel_rfl) (by kernel_rfl) (fun _ _ _ h => h) (Or.inl ⟨by rfl, ?_⟩) hHeld ?_
      rotate_left
      · intro w hSw
        (try dsimp only at hSw)
        go_simp
        try with_reducible rfl
      go_simp
      refine wpAnyH_take (i := 22) (v := ?_) rfl (by kernel_rfl) (by kernel_rfl) (by kernel_rfl) (fun _ _ _ h => h) (Or.inl ⟨by rfl, ?_⟩) hHeld ?_
      rotate_left
      · intro w hSw
        (try dsimp only at hSw)
        go_simp
        try with_reducible rfl
      go_simp
      refine wpAnyH_take (i := 23) (v := ?_) rfl (by kernel_rfl) (by kernel_rfl) (by kernel_rfl) (fun _ _ _ h => h) (Or.inl ⟨by rfl, ?_⟩) hHeld ?_
      rotate_left
      · intro w hSw
        (try dsimp only at hSw)
        go_simp
        try with_reducible rfl
      go_simp
      refine wpAnyH_take (i := 24) (v := ?_) rfl (by kernel_rfl) (by kernel_rfl) (by kernel_rfl) (fun _ _ _ h => h) (Or.inl ⟨by rfl, ?_⟩) hHeld ?_
      rotate_left
      · intro w hSw
        (try dsimp only at hSw)
        go_simp
        try with_reducible rfl
      go_simp
      refine wpAnyH_take (i := 25) (v := ?_) rfl (by kernel_rfl) (by kernel_rfl) (by kernel_rfl) (fun _ _ _ h => h) (Or.inl ⟨by rfl, ?_⟩) hHeld ?_
      rotate_left
      · intro w hSw
        (try dsimp only at hSw)
        go_simp
        try with_reducible rfl
      go_simp
      refine wpAnyH_ready (rs := [26]) (by kernel_rfl) (by simp) ?_
      refine AllReadyH.cons rfl (fun K hK => ?_) ?_
      rotate_left
      · exact AllReadyH.nil
      go_simp
      go_wp2_with (first | (go_at_call 18; ((with_reducible refine (C3.out _ (HB6.out.trans (hW2.mono HB6.out.size))).mono ?_); rintro e w7 ⟨rfl, hb7⟩); have hW2 := hW2.trans (hb7.mono hW2.size)) | (go_at_call 15; ((with_reducible refine (C4.out _ (HB6.out.trans (hW2.mono HB6.out.size))).mono ?_); rintro e w8 ⟨rfl, hb8⟩); have hW2 := hW2.trans (hb8.mono hW2.size)) | (go_at_call 9; ((with_reducible refine (dMid_any _).mono ?_); rintro e w9 ⟨rfl, hb9⟩); have hW2 := hW2.trans (hb9.mono hW2.size)))
      refine hK.out _ _ (MK.out _ hW2) (fun hHeld => ?_)
      clear hK K
      go_simp
      refine wpAnyH_take (i := 27) (v := ?_) rfl (by kernel_rfl) (by kernel_rfl) (by kernel_rfl) (fun _ _ _ h => h) (Or.inl ⟨by rfl, ?_⟩) hHeld ?_
      rotate_left
      · intro w hSw
        (try dsimp only at hSw)
        go_simp
        try with_reducible rfl
      go_simp
      refine wpAnyH_take (i := 28) (v := ?_) rfl (by kernel_rfl) (by kernel_rfl) (by kernel_rfl) (fun _ _ _ h => h) (Or.inl ⟨by rfl, ?_⟩) hHeld ?_
      rotate_left
      · intro w hSw
        (try dsimp only at hSw)
        go_simp
        try with_reducible rfl
      go_simp
      refine wpAnyH_done (by kernel_rfl) ?_ _
      refine NoPanic.normal ?_
      go_wp2
      go_ret
      exact ⟨rfl, HB6.out.trans (hW2.mono HB6.out.size)⟩
    · go_wp2_with fail
      with_reducible refine (dMid_any _).mono ?_
      rintro e w9 ⟨rfl, hb9⟩
      have HB9 := Lib.hid (HB2.out.trans (hb9.mono HB2.out.size))
      go_wp2
      go_ret
      exact ⟨rfl, HB9.out⟩
  · go_wp2_with fail
    with_reducible refine (dMid_any _).mono ?_
    rintro e w9 ⟨rfl, hb9⟩
    have HB9 := Lib.hid (HB1.out.trans (hb9.mono HB1.out.size))
    go_wp2
    go_ret
    exact ⟨rfl, HB9.out⟩
end Go.Proofs.Ytebjkgeldjgnfaa
