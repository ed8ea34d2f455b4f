/- Windows: the walk of WindowWidens. -/
import Derived.Test.YtjkmkobnfhepaaaWiF
namespace Go.Proofs.Ytjkmkobnfhepaaa
open Go.RowKit
set_option linter.unusedVariables false
set_option maxHeartbeats 16000000 in
set_option maxRecDepth 100000 in
theorem windowWidens_walk (s : Trn) (w : World) (h : TrnOk w s) : Calls Try.prog 4 #[.agg #[.int .i64 s.n, .int .i64 s.f, .int .i64 s.t, .int .i64 s.g, .int .i64 s.u, .slice s.A s.m s.c, .slice s.B s.k s.d]] w fun e w' => e = .returned (.bool true) ∧ Below w.heap.size w w' := by
  have C5 := Lib.hid fun W => wiFive_any W
  have CR := Lib.hid (wiRight_any s)
  have mx := h.max
  have mxb := h.maxb
  unfold maxLen at mx mxb
  have n1 : RawAt 33 (w.alloc (.cells #[.int .i64 s.n, .int .i64 s.f, .int .i64 s.t, .int .i64 s.g, .int .i64 s.u, .slice s.A s.m s.c, .slice s.B s.k s.d] 33)) w.heap.size #[.int .i64 s.n, .int .i64 s.f, .int .i64 s.t, .int .i64 s.g, .int .i64 s.u, .slice s.A s.m s.c, .slice s.B s.k s.d] := heap_alloc_new w _
  have b0 : Below w.heap.size w (w.alloc (.cells #[.int .i64 s.n, .int .i64 s.f, .int .i64 s.t, .int .i64 s.g, .int .i64 s.u, .slice s.A s.m s.c, .slice s.B s.k s.d] 33)) := (Below.refl _ _).alloc (Nat.le_refl _) _
  go_enter Try.func4, Try.ntmps4
  go_upto_region 1 with fail
  generalize w.alloc (.cells #[.int .i64 s.n, .int .i64 s.f, .int .i64 s.t, .int .i64 s.g, .int .i64 s.u, .slice s.A s.m s.c, .slice s.B s.k s.d] 33) = W0 at *
  have q0 := RawAt.cell n1 0
  have q1 := RawAt.cell n1 1
  have q2 := RawAt.cell n1 2
  have q3 := RawAt.cell n1 3
  have q4 := RawAt.cell n1 4
  have q5 := RawAt.cell n1 5
  have q6 := RawAt.cell n1 6
  simp at q0 q1 q2 q3 q4 q5 q6
  go_wp2_with fail
  with_reducible refine (CR.out _ (h.below b0)).mono ?_
  rintro e w1 ⟨rfl, b1⟩
  have n1 := n1.below b1 n1.lt
  have HB0 := Lib.hid (b0.trans (b1.mono b0.size))
  clear b0 b1 q0 q1 q2 q3 q4 q5 q6
  have H := Lib.hid h
  clear h
  by_cases hok : TrOk s
  · rw [show decide (TrOk s) = true from decide_eq_true hok]
    obtain ⟨⟨a0, a1, a2, a3, a4, a5, a6, a7⟩, hfit, hr1, hr2⟩ := hok
    have hf := wiFit_yes.mp hfit
    obtain ⟨⟨f0, f1, f2⟩, ⟨f3, f4, f5⟩, f6, _⟩ := hf
    have s1 := hr1.small (by omega)
    have s2 := hr2.small (by omega)
    have HA := Lib.hid H.out.rows
    have HAB := Lib.hid H.out.rowsb
    have CW := Lib.hid fun (W : World) (hW : Below w.heap.size w W) => wiWiden_any s.f s.t s.u s.A s.m s.c s.l s.B s.k s.d s.o W (HA.out.below hW) (HAB.out.below hW) H.out.la H.out.lb (by omega) (by omega) s1 s2 (by omega) (by omega) (by omega) (by omega) (by omega) (by omega)
    have CD := Lib.hid fun (p d : Int) (hd : Wdn s.l s.o s.f s.t s.u p d) (hL : WdL s.l s.o p) (hR : WdR s.l s.o s.t s.u d) (W : World) (hW : Below w.heap.size w W) => rWWiden_any s.f s.t s.u p d s.A s.m s.c s.l s.B s.k s.d s.o W (HA.out.below hW) (HAB.out.below hW) H.out.la H.out.lb (by omega) (by omega) s1 s2 (by omega) (by omega) (by omega) (by omega) (by omega) (by omega) hd hL hR
    rw [← f6] at n1
    rw [← f6] at f3 f4
    clear f6 hfit
    have q0 := RawAt.cell n1 0
    have q1 := RawAt.cell n1 1
    have q2 := RawAt.cell n1 2
    have q3 := RawAt.cell n1 3
    have q4 := RawAt.cell n1 4
    have q5 := RawAt.cell n1 5
    have q6 := RawAt.cell n1 6
    simp at q0 q1 q2 q3 q4 q5 q6
    go_wp2_with fail
    with_reducible refine (CW.out _ HB0.out).mono ?_
    rintro e w2 ⟨p, d, rfl, hwd, hwl, hwr, hpd, b2⟩
    have n1 := n1.below b2 n1.lt
    have b3 := HB0.out.trans (b2.mono HB0.out.size)
    clear q0 q1 q2 q3 q4 q5 q6 b2 HB0
    have N := new2 w2 23 23 #[.int .i64 p, .int .i64 (s.t + d)] #[.int .i64 p, .int .i64 (s.u + d)]
    obtain ⟨n2, n3, bn, e9⟩ := N
    clear e9
    go_upto_region 4 with fail
    have n1 := n1.below bn n1.lt
    have HB4 := Lib.hid (b3.trans (bn.mono b3.size))
    clear b3 bn
    obtain ⟨g5, hg5⟩ : ∃ g, g = w2.heap.size := ⟨_, rfl⟩
    rw [← hg5] at n2 n3 ⊢
    clear hg5
    generalize (w2.alloc (.cells #[.int .i64 p, .int .i64 (s.t + d)] 23)).alloc (.cells #[.int .i64 p, .int .i64 (s.u + d)] 23) = W4 at *
    have CD1 := Lib.hid (CD.out p d hwd hwl hwr)
    have q0 := RawAt.cell n1 0
    have q1 := RawAt.cell n1 1
    have q2 := RawAt.cell n1 2
    have q3 := RawAt.cell n1 3
    have q4 := RawAt.cell n1 4
    have q5 := RawAt.cell n1 5
    have q6 := RawAt.cell n1 6
    simp at q0 q1 q2 q3 q4 q5 q6
    go_upto_region 5 with fail
    clear q0 q1 q2 q3 q4 q5 q6
    have n4 : RawAt 27 (W4.alloc (.cells #[.int .i64 s.f, .int .i64 s.t, .int .i64 s.f, .int .i64 s.u] 27)) W4.heap.size #[.int .i64 s.f, .int .i64 s.t, .int .i64 s.f, .int .i64 s.u] := heap_alloc_new W4 _
    have b1 : Below W4.heap.size W4 (W4.alloc (.cells #[.int .i64 s.f, .int .i64 s.t, .int .i64 s.f, .int .i64 s.u] 27)) := (Below.refl _ _).alloc (Nat.le_refl _) _
    have n1 := n1.below b1 n1.lt
    have n2 := n2.below b1 n2.lt
    have n3 := n3.below b1 n3.lt
    have HB5 := Lib.hid (HB4.out.trans (b1.mono HB4.out.size))
    clear b1 HB4
    obtain ⟨g9, hg9⟩ : ∃ g, g = W4.heap.size := ⟨_, rfl⟩
    rw [← hg9] at n4 ⊢
    clear hg9
    generalize W4.alloc (.cells #[.int .i64 s.f, .int .i64 s.t, .int .i64 s.f, .int .i64 s.u] 27) = W1 at *
    have MK : Hid (∀ W : World, Below W1.heap.size W1 W → (fun W => W.cell? ⟨w.heap.size, 5, none⟩ = some (.slice s.A s.m s.c) ∧ W.cell? ⟨w.heap.size, 6, none⟩ = some (.slice s.B s.k s.d) ∧ W.cell? ⟨g5, 0, none⟩ = some (.int .i64 p) ∧ W.cell? ⟨g5, 1, none⟩ = some (.int .i64 (s.t + d)) ∧ W.cell? ⟨g5 + 1, 0, none⟩ = some (.int .i64 p) ∧ W.cell? ⟨g5 + 1, 1, none⟩ = some (.int .i64 (s.u + d)) ∧ W.cell? ⟨g9, 0, none⟩ = some (.int .i64 s.f) ∧ W.cell? ⟨g9, 1, none⟩ = some (.int .i64 s.t) ∧ W.cell? ⟨g9, 2, none⟩ = some (.int .i64 s.f) ∧ W.cell? ⟨g9, 3, none⟩ = some (.int .i64 s.u)) W) := fun W hW => ⟨RawAt.cell (n1.below hW n1.lt) 5, RawAt.cell (n1.below hW n1.lt) 6, RawAt.cell (n2.below hW n2.lt) 0, RawAt.cell (n2.below hW n2.lt) 1, RawAt.cell (n3.below hW n3.lt) 0, RawAt.cell (n3.below hW n3.lt) 1, RawAt.cell (n4.below hW n4.lt) 0, RawAt.cell (n4.below hW n4.lt) 1, RawAt.cell (n4.below hW n4.lt) 2, RawAt.cell (n4.below hW n4.lt) 3⟩
    have MB : Hid (∀ W : World, Below W1.heap.size W1 W → Below w.heap.size w W) := fun W hW => HB5.out.trans (hW.mono HB5.out.size)
    have hW0 : Below W1.heap.size W1 W1.drew := (Below.refl _ _).drew
    refine wp_region_noPanic ?_
    refine wp_region_held_drew (S := (fun W => W.cell? ⟨w.heap.size, 5, none⟩ = some (.slice s.A s.m s.c) ∧ W.cell? ⟨w.heap.size, 6, none⟩ = some (.slice s.B s.k s.d) ∧ W.cell? ⟨g5, 0, none⟩ = some (.int .i64 p) ∧ W.cell? ⟨g5, 1, none⟩ = some (.int .i64 (s.t + d)) ∧ W.cell? ⟨g5 + 1, 0, none⟩ = some (.int .i64 p) ∧ W.cell? ⟨g5 + 1, 1, none⟩ = some (.int .i64 (s.u + d)) ∧ W.cell? ⟨g9, 0, none⟩ = some (.int .i64 s.f) ∧ W.cell? ⟨g9, 1, none⟩ = some (.int .i64 s.t) ∧ W.cell? ⟨g9, 2, none⟩ = some (.int .i64 s.f) ∧ W.cell? ⟨g9, 3, none⟩ = some (.int .i64 s.u))) (by kernel_rfl) (MK.out _ hW0) (fun hHeld => ?_)
    refine wpAnyH_take (i := 0) (v := ?_) rfl (by kernel_rfl) (by kernel_rfl) (by kernel_rfl) (fun _ _ _ h => h) (Or.inl ⟨by rfl, ?_⟩) hHeld ?_
    rotate_left
    · intro w hSw
      (try dsimp only at hSw)
      go_simp
      try with_reducible rfl
    go_simp
    refine wpAnyH_take (i := 1) (v := ?_) rfl (by kernel_rfl) (by kernel_rfl) (by kernel_rfl) (fun _ _ _ h => h) (Or.inl ⟨by rfl, ?_⟩) hHeld ?_
    rotate_left
    · intro w hSw
      (try dsimp only at hSw)
      go_simp
      try with_reducible rfl
    go_simp
    refine wpAnyH_take (i := 2) (v := ?_) rfl (by kernel_rfl) (by kernel_rfl) (by kernel_rfl) (fun _ _ _ h => h) (Or.inl ⟨by rfl, ?_⟩) hHeld ?_
    rotate_left
    · intro w hSw
      (try dsimp only at hSw)
      go_simp
      try with_reducible rfl
    go_simp
    refine wpAnyH_take (i := 3) (v := ?_) rfl (by kernel_rfl) (by kernel_rfl) (by kernel_rfl) (fun _ _ _ h => h) (Or.inl ⟨by rfl, ?_⟩) hHeld ?_
    rotate_left
    · intro w hSw
      (try dsimp only at hSw)
      go_simp
      try with_reducible rfl
    go_simp
    refine wpAnyH_take (i := 4) (v := ?_) rfl (by kernel_rfl) (by kernel_rfl) (by kernel_rfl) (fun _ _ _ h => h) (Or.inl ⟨by rfl, ?_⟩) hHeld ?_
    rotate_left
    · intro w hSw
      (try dsimp only at hSw)
      go_simp
      try with_reducible rfl
    go_simp
    refine wpAnyH_take (i := 5) (v := ?_) rfl (by kernel_rfl) (by kernel_rfl) (by kernel_rfl) (fun _ _ _ h => h) (Or.inl ⟨by rfl, ?_⟩) hHeld ?_
    rotate_left
    · intro w hSw
      (try dsimp only at hSw)
      go_simp
      try with_reducible rfl
    go_simp
    refine wpAnyH_take (i := 6) (v := ?_) rfl (by kernel_rfl) (by kernel_rfl) (by kernel_rfl) (fun _ _ _ h => h) (Or.inl ⟨by rfl, ?_⟩) hHeld ?_
    rotate_left
    · intro w hSw
      (try dsimp only at hSw)
      go_simp
      try with_reducible rfl
    go_simp
    refine wpAnyH_take (i := 7) (v := ?_) rfl (by kernel_rfl) (by kernel_rfl) (by kernel_rfl) (fun _ _ _ h => h) (Or.inl ⟨by rfl, ?_⟩) hHeld ?_
    rotate_left
    · intro w hSw
      (try dsimp only at hSw)
      go_simp
      try with_reducible rfl
    go_simp
    refine wpAnyH_ready (rs := [8]) (by kernel_rfl) (by simp) ?_
    refine AllReadyH.cons rfl (fun K hK => ?_) ?_
    rotate_left
    · exact AllReadyH.nil
    go_simp
    go_wp2_with (first | (go_at_call 11; (with_reducible refine (CD1.out _ (MB.out _ hW0)).mono ?_); rintro e w6 ⟨rfl, hb6⟩; have hW0 := hW0.trans (hb6.mono hW0.size)) | (go_at_call 6; (with_reducible refine (C5.out _).mono ?_); rintro e w6 ⟨rfl, hb6⟩; have hW0 := hW0.trans (hb6.mono hW0.size)))
    refine hK.out _ _ (by with_reducible exact MK.out _ hW0) (fun hHeld => ?_)
    clear hK K
    go_simp
    refine wpAnyH_take (i := 9) (v := ?_) rfl (by kernel_rfl) (by kernel_rfl) (by kernel_rfl) (fun _ _ _ h => h) (Or.inl ⟨by rfl, ?_⟩) hHeld ?_
    rotate_left
    · intro w hSw
      (try dsimp only at hSw)
      go_simp
      try with_reducible rfl
    go_simp
    refine wpAnyH_take (i := 10) (v := ?_) rfl (by kernel_rfl) (by kernel_rfl) (by kernel_rfl) (fun _ _ _ h => h) (Or.inl ⟨by rfl, ?_⟩) hHeld ?_
    rotate_left
    · intro w hSw
      (try dsimp only at hSw)
      go_simp
      try with_reducible rfl
    go_simp
    refine wpAnyH_ready (rs := [11]) (by kernel_rfl) (by simp) ?_
    refine AllReadyH.cons rfl (fun K hK => ?_) ?_
    rotate_left
    · exact AllReadyH.nil
    go_simp
    go_wp2_with (first | (go_at_call 11; (with_reducible refine (CD1.out _ (MB.out _ hW0)).mono ?_); rintro e w6 ⟨rfl, hb6⟩; have hW0 := hW0.trans (hb6.mono hW0.size)) | (go_at_call 6; (with_reducible refine (C5.out _).mono ?_); rintro e w6 ⟨rfl, hb6⟩; have hW0 := hW0.trans (hb6.mono hW0.size)))
    refine hK.out _ _ (by with_reducible exact MK.out _ hW0) (fun hHeld => ?_)
    clear hK K
    go_simp
    refine wpAnyH_take (i := 12) (v := ?_) rfl (by kernel_rfl) (by kernel_rfl) (by kernel_rfl) (fun _ _ _ h => h) (Or.inl ⟨by rfl, ?_⟩) hHeld ?_
    rotate_left
    · intro w hSw
      (try dsimp only at hSw)
      go_simp
      try with_reducible rfl
    go_simp
    refine wpAnyH_take (i := 13) (v := ?_) rfl (by kernel_rfl) (by kernel_rfl) (by kernel_rfl) (fun _ _ _ h => h) (Or.inl ⟨by rfl, ?_⟩) hHeld ?_
    rotate_left
    · intro w hSw
      (try dsimp only at hSw)
      go_simp
      try with_reducible rfl
    go_simp
    refine wpAnyH_done (by kernel_rfl) ?_ _
    refine NoPanic.normal ?_
    have HBE := Lib.hid (HB5.out.trans (hW0.mono HB5.out.size))
    clear hW0
    go_wp2
    go_ret
    exact ⟨rfl, HBE.out⟩
  · rw [show decide (TrOk s) = false from decide_eq_false hok]
    go_wp2_with fail
    with_reducible refine (C5.out _).mono ?_
    rintro e w9 ⟨rfl, b9⟩
    have HB9 := Lib.hid (HB0.out.trans (b9.mono HB0.out.size))
    clear b9
    go_wp2
    go_ret
    exact ⟨rfl, HB9.out⟩
end Go.Proofs.Ytjkmkobnfhepaaa
