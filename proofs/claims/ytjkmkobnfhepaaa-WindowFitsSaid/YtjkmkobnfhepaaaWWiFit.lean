/- Windows: the walk of WindowFits. -/
import Derived.Test.YtjkmkobnfhepaaaWiE
namespace Go.Proofs.Ytjkmkobnfhepaaa
open Go.RowKit
set_option linter.unusedVariables false
theorem new3 (w : World) (t1 t2 t3 : TypeId) (c1 c2 c3 : Array Value) : RawAt t1 (((w.alloc (.cells c1 t1)).alloc (.cells c2 t2)).alloc (.cells c3 t3)) w.heap.size c1 ∧ RawAt t2 (((w.alloc (.cells c1 t1)).alloc (.cells c2 t2)).alloc (.cells c3 t3)) (w.heap.size + 1) c2 ∧ RawAt t3 (((w.alloc (.cells c1 t1)).alloc (.cells c2 t2)).alloc (.cells c3 t3)) (w.heap.size + 2) c3 ∧ Below w.heap.size w (((w.alloc (.cells c1 t1)).alloc (.cells c2 t2)).alloc (.cells c3 t3)) := by
  obtain ⟨a1, a2, a3, a4⟩ := new2 w t1 t2 c1 c2
  generalize (w.alloc (.cells c1 t1)).alloc (.cells c2 t2) = W at *
  have b1 : RawAt t3 (W.alloc (.cells c3 t3)) W.heap.size c3 := heap_alloc_new W _
  have b3 : Below W.heap.size W (W.alloc (.cells c3 t3)) := (Below.refl _ _).alloc (Nat.le_refl _) _
  rw [a4] at b1
  exact ⟨a1.below b3 a1.lt, a2.below b3 a2.lt, b1, a3.trans (b3.mono a3.size)⟩
set_option maxHeartbeats 16000000 in
set_option maxRecDepth 100000 in
theorem windowFits_walk (a b : WSp) (x y : Int) (w : World) (ha : WSpOk a) (hb : WSpOk b) : Calls Try.prog 3 #[.agg #[.int .i64 a.f, .int .i64 a.t], .agg #[.int .i64 b.f, .int .i64 b.t], .agg #[.int .i64 x, .int .i64 y]] w fun e w' => e = .returned (.bool true) ∧ Below w.heap.size w w' := by
  have C5 := Lib.hid fun W => wiFive_any W
  have C1 := Lib.hid fun W => wiFits_any a.f a.t b.f b.t x y W
  have C2 := Lib.hid fun W => rWFits_any a.f a.t b.f b.t x y W
  generalize wiFit a.f a.t b.f b.t x y = r at *
  obtain ⟨n1, n2, n3, b0⟩ := new3 w 23 23 24 #[.int .i64 a.f, .int .i64 a.t] #[.int .i64 b.f, .int .i64 b.t] #[.int .i64 x, .int .i64 y]
  go_enter Try.func3, Try.ntmps3
  go_upto_region 1 with fail
  generalize (((w.alloc (.cells #[.int .i64 a.f, .int .i64 a.t] 23)).alloc (.cells #[.int .i64 b.f, .int .i64 b.t] 23)).alloc (.cells #[.int .i64 x, .int .i64 y] 24)) = W0 at *
  have q0 := RawAt.cell n3 0
  have q1 := RawAt.cell n3 1
  simp at q0 q1
  have HB0 := Lib.hid b0
  clear b0
  by_cases g0 : x < 0
  · have k0 : decide (x < 0) = true := decide_eq_true g0
    go_wp2_with fail
    with_reducible refine (C5.out _).mono ?_
    rintro e w9 ⟨rfl, b9⟩
    have HB9 := Lib.hid (HB0.out.trans (b9.mono HB0.out.size))
    clear b9
    go_wp2
    go_ret
    exact ⟨rfl, HB9.out⟩
  · have k0 : decide (x < 0) = false := decide_eq_false g0
    by_cases g1 : y < 0
    · have k1 : decide (y < 0) = true := decide_eq_true g1
      go_wp2_with fail
      with_reducible refine (C5.out _).mono ?_
      rintro e w9 ⟨rfl, b9⟩
      have HB9 := Lib.hid (HB0.out.trans (b9.mono HB0.out.size))
      clear b9
      go_wp2
      go_ret
      exact ⟨rfl, HB9.out⟩
    · have k1 : decide (y < 0) = false := decide_eq_false g1
      have q10 := RawAt.cell n1 0
      have q11 := RawAt.cell n1 1
      have q20 := RawAt.cell n2 0
      have q21 := RawAt.cell n2 1
      simp at q10 q11 q20 q21
      go_upto_region 4 with fail
      clear q0 q1 q10 q11 q20 q21 k0 k1 g0 g1
      have n4 : RawAt 27 (W0.alloc (.cells #[.int .i64 a.f, .int .i64 a.t, .int .i64 b.f, .int .i64 b.t] 27)) W0.heap.size #[.int .i64 a.f, .int .i64 a.t, .int .i64 b.f, .int .i64 b.t] := heap_alloc_new W0 _
      have b1 : Below W0.heap.size W0 (W0.alloc (.cells #[.int .i64 a.f, .int .i64 a.t, .int .i64 b.f, .int .i64 b.t] 27)) := (Below.refl _ _).alloc (Nat.le_refl _) _
      have n1 := n1.below b1 n1.lt
      have n2 := n2.below b1 n2.lt
      have n3 := n3.below b1 n3.lt
      have HB1 := Lib.hid (HB0.out.trans (b1.mono HB0.out.size))
      clear b1 HB0
      obtain ⟨g9, hg9⟩ : ∃ g, g = W0.heap.size := ⟨_, rfl⟩
      rw [← hg9] at n4 ⊢
      clear hg9
      generalize W0.alloc (.cells #[.int .i64 a.f, .int .i64 a.t, .int .i64 b.f, .int .i64 b.t] 27) = W1 at *
      have MK : Hid (∀ W : World, Below W1.heap.size W1 W → (fun W => W.cell? ⟨w.heap.size, 0, none⟩ = some (.int .i64 a.f) ∧ W.cell? ⟨w.heap.size, 1, none⟩ = some (.int .i64 a.t) ∧ W.cell? ⟨w.heap.size + 1, 0, none⟩ = some (.int .i64 b.f) ∧ W.cell? ⟨w.heap.size + 1, 1, none⟩ = some (.int .i64 b.t) ∧ W.cell? ⟨w.heap.size + 2, 0, none⟩ = some (.int .i64 x) ∧ W.cell? ⟨w.heap.size + 2, 1, none⟩ = some (.int .i64 y) ∧ W.cell? ⟨g9, 0, none⟩ = some (.int .i64 a.f) ∧ W.cell? ⟨g9, 1, none⟩ = some (.int .i64 a.t) ∧ W.cell? ⟨g9, 2, none⟩ = some (.int .i64 b.f) ∧ W.cell? ⟨g9, 3, none⟩ = some (.int .i64 b.t)) W) := fun W hW => ⟨RawAt.cell (n1.below hW n1.lt) 0, RawAt.cell (n1.below hW n1.lt) 1, RawAt.cell (n2.below hW n2.lt) 0, RawAt.cell (n2.below hW n2.lt) 1, RawAt.cell (n3.below hW n3.lt) 0, RawAt.cell (n3.below hW n3.lt) 1, RawAt.cell (n4.below hW n4.lt) 0, RawAt.cell (n4.below hW n4.lt) 1, RawAt.cell (n4.below hW n4.lt) 2, RawAt.cell (n4.below hW n4.lt) 3⟩
      have hW0 : Below W1.heap.size W1 W1.drew := (Below.refl _ _).drew
      refine wp_region_noPanic ?_
      refine wp_region_held_drew (S := (fun W => W.cell? ⟨w.heap.size, 0, none⟩ = some (.int .i64 a.f) ∧ W.cell? ⟨w.heap.size, 1, none⟩ = some (.int .i64 a.t) ∧ W.cell? ⟨w.heap.size + 1, 0, none⟩ = some (.int .i64 b.f) ∧ W.cell? ⟨w.heap.size + 1, 1, none⟩ = some (.int .i64 b.t) ∧ W.cell? ⟨w.heap.size + 2, 0, none⟩ = some (.int .i64 x) ∧ W.cell? ⟨w.heap.size + 2, 1, none⟩ = some (.int .i64 y) ∧ W.cell? ⟨g9, 0, none⟩ = some (.int .i64 a.f) ∧ W.cell? ⟨g9, 1, none⟩ = some (.int .i64 a.t) ∧ W.cell? ⟨g9, 2, none⟩ = some (.int .i64 b.f) ∧ W.cell? ⟨g9, 3, none⟩ = some (.int .i64 b.t))) (by kernel_rfl) (MK.out _ hW0) (fun hHeld => ?_)
      refine wpAnyH_take (i := 0) (v := ?_) rfl (by kernel_rfl) (by kernel_rfl) (by kernel_rfl) (fun _ _ _ h => h) (Or.inl ⟨by rfl, ?_⟩) hHeld ?_
      rotate_left
      · intro w hSw
        (try dsimp only at hSw)
        go_simp
        try with_reducible rfl
      go_simp
      refine wpAnyH_take (i := 1) (v := ?_) rfl (by kernel_rfl) (by kernel_rfl) (by kernel_rfl) (fun _ _ _ h => h) (Or.inl ⟨by rfl, ?_⟩) hHeld ?_
      rotate_left
      · intro w hSw
        (try dsimp only at hSw)
        go_simp
        try with_reducible rfl
      go_simp
      refine wpAnyH_take (i := 2) (v := ?_) rfl (by kernel_rfl) (by kernel_rfl) (by kernel_rfl) (fun _ _ _ h => h) (Or.inl ⟨by rfl, ?_⟩) hHeld ?_
      rotate_left
      · intro w hSw
        (try dsimp only at hSw)
        go_simp
        try with_reducible rfl
      go_simp
      refine wpAnyH_take (i := 3) (v := ?_) rfl (by kernel_rfl) (by kernel_rfl) (by kernel_rfl) (fun _ _ _ h => h) (Or.inl ⟨by rfl, ?_⟩) hHeld ?_
      rotate_left
      · intro w hSw
        (try dsimp only at hSw)
        go_simp
        try with_reducible rfl
      go_simp
      refine wpAnyH_take (i := 4) (v := ?_) rfl (by kernel_rfl) (by kernel_rfl) (by kernel_rfl) (fun _ _ _ h => h) (Or.inl ⟨by rfl, ?_⟩) hHeld ?_
      rotate_left
      · intro w hSw
        (try dsimp only at hSw)
        go_simp
        try with_reducible rfl
      go_simp
      refine wpAnyH_take (i := 5) (v := ?_) rfl (by kernel_rfl) (by kernel_rfl) (by kernel_rfl) (fun _ _ _ h => h) (Or.inl ⟨by rfl, ?_⟩) hHeld ?_
      rotate_left
      · intro w hSw
        (try dsimp only at hSw)
        go_simp
        try with_reducible rfl
      go_simp
      refine wpAnyH_take (i := 7) (v := ?_) rfl (by kernel_rfl) (by kernel_rfl) (by kernel_rfl) (fun _ _ _ h => h) (Or.inl ⟨by rfl, ?_⟩) hHeld ?_
      rotate_left
      · intro w hSw
        (try dsimp only at hSw)
        go_simp
        try with_reducible rfl
      go_simp
      refine wpAnyH_take (i := 8) (v := ?_) rfl (by kernel_rfl) (by kernel_rfl) (by kernel_rfl) (fun _ _ _ h => h) (Or.inl ⟨by rfl, ?_⟩) hHeld ?_
      rotate_left
      · intro w hSw
        (try dsimp only at hSw)
        go_simp
        try with_reducible rfl
      go_simp
      refine wpAnyH_take (i := 9) (v := ?_) rfl (by kernel_rfl) (by kernel_rfl) (by kernel_rfl) (fun _ _ _ h => h) (Or.inl ⟨by rfl, ?_⟩) hHeld ?_
      rotate_left
      · intro w hSw
        (try dsimp only at hSw)
        go_simp
        try with_reducible rfl
      go_simp
      refine wpAnyH_take (i := 10) (v := ?_) rfl (by kernel_rfl) (by kernel_rfl) (by kernel_rfl) (fun _ _ _ h => h) (Or.inl ⟨by rfl, ?_⟩) hHeld ?_
      rotate_left
      · intro w hSw
        (try dsimp only at hSw)
        go_simp
        try with_reducible rfl
      go_simp
      refine wpAnyH_take (i := 11) (v := ?_) rfl (by kernel_rfl) (by kernel_rfl) (by kernel_rfl) (fun _ _ _ h => h) (Or.inl ⟨by rfl, ?_⟩) hHeld ?_
      rotate_left
      · intro w hSw
        (try dsimp only at hSw)
        go_simp
        try with_reducible rfl
      go_simp
      refine wpAnyH_ready (rs := [6]) (by kernel_rfl) (by simp) ?_
      refine AllReadyH.cons rfl (fun K hK => ?_) ?_
      rotate_left
      · exact AllReadyH.nil
      go_simp
      go_wp2_with (first | (go_at_call 7; (with_reducible refine (C1.out _).mono ?_); rintro e w6 ⟨rfl, hb6⟩; have hW0 := hW0.trans (hb6.mono hW0.size)) | (go_at_call 8; (with_reducible refine (C2.out _).mono ?_); rintro e w6 ⟨rfl, hb6⟩; have hW0 := hW0.trans (hb6.mono hW0.size)) | (go_at_call 6; (with_reducible refine (C5.out _).mono ?_); rintro e w6 ⟨rfl, hb6⟩; have hW0 := hW0.trans (hb6.mono hW0.size)))
      refine hK.out _ _ (by with_reducible exact MK.out _ hW0) (fun hHeld => ?_)
      clear hK K
      go_simp
      refine wpAnyH_ready (rs := [12]) (by kernel_rfl) (by simp) ?_
      refine AllReadyH.cons rfl (fun K hK => ?_) ?_
      rotate_left
      · exact AllReadyH.nil
      go_simp
      go_wp2_with (first | (go_at_call 7; (with_reducible refine (C1.out _).mono ?_); rintro e w6 ⟨rfl, hb6⟩; have hW0 := hW0.trans (hb6.mono hW0.size)) | (go_at_call 8; (with_reducible refine (C2.out _).mono ?_); rintro e w6 ⟨rfl, hb6⟩; have hW0 := hW0.trans (hb6.mono hW0.size)) | (go_at_call 6; (with_reducible refine (C5.out _).mono ?_); rintro e w6 ⟨rfl, hb6⟩; have hW0 := hW0.trans (hb6.mono hW0.size)))
      refine hK.out _ _ (by with_reducible exact MK.out _ hW0) (fun hHeld => ?_)
      clear hK K
      go_simp
      refine wpAnyH_take (i := 13) (v := ?_) rfl (by kernel_rfl) (by kernel_rfl) (by kernel_rfl) (fun _ _ _ h => h) (Or.inl ⟨by rfl, ?_⟩) hHeld ?_
      rotate_left
      · intro w hSw
        (try dsimp only at hSw)
        go_simp
        try with_reducible rfl
      go_simp
      refine wpAnyH_take (i := 14) (v := ?_) rfl (by kernel_rfl) (by kernel_rfl) (by kernel_rfl) (fun _ _ _ h => h) (Or.inl ⟨by rfl, ?_⟩) hHeld ?_
      rotate_left
      · intro w hSw
        (try dsimp only at hSw)
        go_simp
        try with_reducible rfl
      go_simp
      refine wpAnyH_ready (rs := [15]) (by kernel_rfl) (by simp) ?_
      refine AllReadyH.cons rfl (fun K hK => ?_) ?_
      rotate_left
      · exact AllReadyH.nil
      go_simp
      go_wp2_with (first | (go_at_call 7; (with_reducible refine (C1.out _).mono ?_); rintro e w6 ⟨rfl, hb6⟩; have hW0 := hW0.trans (hb6.mono hW0.size)) | (go_at_call 8; (with_reducible refine (C2.out _).mono ?_); rintro e w6 ⟨rfl, hb6⟩; have hW0 := hW0.trans (hb6.mono hW0.size)) | (go_at_call 6; (with_reducible refine (C5.out _).mono ?_); rintro e w6 ⟨rfl, hb6⟩; have hW0 := hW0.trans (hb6.mono hW0.size)))
      refine hK.out _ _ (by with_reducible exact MK.out _ hW0) (fun hHeld => ?_)
      clear hK K
      go_simp
      refine wpAnyH_take (i := 16) (v := ?_) rfl (by kernel_rfl) (by kernel_rfl) (by kernel_rfl) (fun _ _ _ h => h) (Or.inl ⟨by rfl, ?_⟩) hHeld ?_
      rotate_left
      · intro w hSw
        (try dsimp only at hSw)
        go_simp
        try with_reducible rfl
      go_simp
      refine wpAnyH_take (i := 17) (v := ?_) rfl (by kernel_rfl) (by kernel_rfl) (by kernel_rfl) (fun _ _ _ h => h) (Or.inl ⟨by rfl, ?_⟩) hHeld ?_
      rotate_left
      · intro w hSw
        (try dsimp only at hSw)
        go_simp
        try with_reducible rfl
      go_simp
      refine wpAnyH_done (by kernel_rfl) ?_ _
      refine NoPanic.normal ?_
      have HBE := Lib.hid (HB1.out.trans (hW0.mono HB1.out.size))
      clear hW0
      go_wp2
      go_ret
      exact ⟨rfl, HBE.out⟩
end Go.Proofs.Ytjkmkobnfhepaaa
