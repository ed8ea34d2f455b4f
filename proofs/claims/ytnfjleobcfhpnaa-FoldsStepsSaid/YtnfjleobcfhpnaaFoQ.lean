/- Folds: Add to no set. -/
import Derived.Test.YtnfjleobcfhpnaaFoN
namespace Go.Proofs.Ytnfjleobcfhpnaa
open Go.RowKit Go.Sort
set_option linter.unusedVariables false
theorem fwrong_none (x : Fo) : fwrong 0 [x] = 1 := by
  unfold fwrong
  rw [if_neg (by omega), if_neg (by simp)]
  unfold fw
  rw [if_pos]
  rintro ⟨⟨h1, h2, h3⟩, h4⟩
  omega
set_option maxHeartbeats 8000000 in
set_option maxRecDepth 100000 in
theorem fAdd_nil (x : Fo) (hx : (Lit.int .i64 x.f).wf = true ∧ (Lit.int .i64 x.t).wf = true) (w : World) : Calls Try.prog 16 #[.pointer none, .agg #[.int .i64 x.f, .int .i64 x.t]] w fun e w' => e = .returned (.tuple #[.pointer none, .int .i64 1]) ∧ Below w.heap.size w w' := by
  have CL := Lib.hid fun W => fLen_nil W
  have CA := Lib.hid fun W => fAll_nil W
  have CN := Lib.hid fun (A : Option Addr) (c : Nat) (W : World) (h : RowsAt encF 2 W A [x]) (hc : Caps A 1 c) => fNew_any 0 A 1 c [x] W h hc rfl (fun a ha => by rw [List.mem_singleton.1 ha]; exact hx) 1 (fwrong_none x)
  have x1 : Below w.heap.size w (w.alloc (.cells #[.int .i64 x.f, .int .i64 x.t] 33)) := (Below.refl _ _).alloc (Nat.le_refl _) _
  have R1 : RawAt 33 (w.alloc (.cells #[.int .i64 x.f, .int .i64 x.t] 33)) w.heap.size #[.int .i64 x.f, .int .i64 x.t] := heap_alloc_new w _
  obtain ⟨W1, hW1⟩ : ∃ W1, W1 = (w.alloc (.cells #[.int .i64 x.f, .int .i64 x.t] 33)) := ⟨_, rfl⟩
  obtain ⟨b0, hb0⟩ : ∃ b0, b0 = w.heap.size := ⟨_, rfl⟩
  rw [← hW1] at x1 R1
  rw [← hb0] at R1
  have HX1 := Lib.hid x1
  have HR1 := Lib.hid R1
  have HW1 := Lib.hid hW1
  have HB0 := Lib.hid hb0
  have MK : Hid (∀ W : World, Below W1.heap.size W1 W → (fun W => W.cell? ⟨b0, 0, none⟩ = some (.int .i64 x.f) ∧ W.cell? ⟨b0, 1, none⟩ = some (.int .i64 x.t)) W) := Lib.hid fun W hW => ⟨RawAt.cell (RawAt.below HR1.out hW HR1.out.lt) 0, RawAt.cell (RawAt.below HR1.out hW HR1.out.lt) 1⟩
  have hW2 : Below W1.heap.size W1 W1.drew := (Below.refl _ _).drew
  clear x1 R1 hW1 hb0
  go_enter Try.func16, Try.ntmps16
  go_wp2_with fail
  rw [← HW1.out, ← HB0.out]
  refine wp_region_noPanic ?_
  refine wp_region_held_drew (S := (fun W => W.cell? ⟨b0, 0, none⟩ = some (.int .i64 x.f) ∧ W.cell? ⟨b0, 1, none⟩ = some (.int .i64 x.t))) (by kernel_rfl) (MK.out _ hW2) (fun hHeld => ?_)
  refine wpAnyH_take (i := 0) (v := ?_) rfl (by kernel_rfl) (by kernel_rfl) (by kernel_rfl) (fun _ _ _ h => h) (Or.inl ⟨by rfl, ?_⟩) hHeld ?_
  rotate_left
  · intro w hSw
    (try dsimp only at hSw)
    go_simp
    try with_reducible rfl
  go_simp
  refine wpAnyH_take (i := 2) (v := ?_) rfl (by kernel_rfl) (by kernel_rfl) (by kernel_rfl) (fun _ _ _ h => h) (Or.inl ⟨by rfl, ?_⟩) hHeld ?_
  rotate_left
  · intro w hSw
    (try dsimp only at hSw)
    go_simp
    try with_reducible rfl
  go_simp
  refine wpAnyH_take (i := 4) (v := ?_) rfl (by kernel_rfl) (by kernel_rfl) (by kernel_rfl) (fun _ _ _ h => h) (Or.inl ⟨by rfl, ?_⟩) hHeld ?_
  rotate_left
  · intro w hSw
    (try dsimp only at hSw)
    go_simp
    try with_reducible rfl
  go_simp
  refine wpAnyH_ready (rs := [1, 5]) (by kernel_rfl) (by simp) ?_
  refine AllReadyH.cons rfl (fun K hK => ?_) (AllReadyH.cons rfl (fun K hK => ?_) AllReadyH.nil)
  · go_simp
    go_wp2_with (go_at_call 34; (with_reducible refine (CL.out _).mono ?_); rintro e w2 ⟨rfl, b2⟩; have hW2 := hW2.trans (b2.mono hW2.size))
    refine hK.out _ _ (MK.out _ hW2) (fun hHeld => ?_)
    clear hK K
    go_simp
    refine wpAnyH_ready (rs := [3, 5]) (by kernel_rfl) (by simp) ?_
    refine AllReadyH.cons rfl (fun K hK => ?_) (AllReadyH.cons rfl (fun K hK => ?_) AllReadyH.nil)
    · go_simp
      have hW3 := hW2.size
      go_wp2_with (go_at_call 24; (with_reducible refine (CA.out _).mono ?_); rintro e w3 ⟨v3, rfl, o3, b3⟩; have hW2 := hW2.trans (b3.mono hW2.size); obtain ⟨A3, c3, rfl⟩ := own_formF o3; have o3 := own_baseF o3 hW3; have hlt4 := o3.lt)
      refine hK.out _ _ (MK.out _ hW2) (fun hHeld => ?_)
      clear hK K
      go_simp
      refine wpAnyH_ready (rs := [5]) (by kernel_rfl) (by simp) ?_
      refine AllReadyH.cons rfl (fun K hK => ?_) AllReadyH.nil
      · go_simp
        have x9 : Below w3.heap.size w3 (w3.alloc (.cells #[.int .i64 x.f, .int .i64 x.t] 33)) := (Below.refl _ _).alloc (Nat.le_refl _) _
        have R9 : RawAt 33 (w3.alloc (.cells #[.int .i64 x.f, .int .i64 x.t] 33)) w3.heap.size #[.int .i64 x.f, .int .i64 x.t] := heap_alloc_new w3 _
        have hrow := rows_of_block (enc := encF) (k := 2) encF_len R9 (l := [x]) rfl
        have hbl : w3.heap.size < (w3.alloc (.cells #[.int .i64 x.f, .int .i64 x.t] 33)).heap.size := R9.lt
        have hW2 := hW2.trans (x9.mono hW2.size)
        have o3 := own_below o3 x9
        go_wp2_with (fail)
        refine hK.out _ _ (MK.out _ hW2) (fun hHeld => ?_)
        clear hK K
        go_simp
        refine wpAnyH_ready (rs := [6]) (by kernel_rfl) (by simp) ?_
        refine AllReadyH.cons rfl (fun K hK => ?_) AllReadyH.nil
        refine step_appK (enc := encF) fo_slt encF_len (by omega) rfl (.tmp 9) (.tmp 11) rfl (base := W1.heap.size) (v := .slice A3 0 c3) (n := 0) (xs := []) (by simp [Act.eval]) o3 _ 1 1 [x] (by simp [Act.eval]) hrow ⟨Nat.le_refl _, fun h => by cases h⟩ rfl (kfl_one' encF_one _) (by simp only [maxLen]; simp) (by simp) hW2.size ?_
        intro v5 w5 hown5 hg5 hor5
        have hW2 := hW2.grown hg5 hW2.size (fun j hj => (hlt4 j hj).1)
        rw [List.nil_append] at hown5
        obtain ⟨v5A, v5c, rfl, hR5, _, hC5⟩ := rows_of_own (o := [x]) encF_len (by omega) hown5
        have HS5 := Lib.hid hR5
        have HC5 := Lib.hid hC5
        refine hK.out _ _ (MK.out _ hW2) (fun hHeld => ?_)
        clear hK K
        go_simp
        refine wpAnyH_ready (rs := [7]) (by kernel_rfl) (by simp) ?_
        refine AllReadyH.cons rfl (fun K hK => ?_) AllReadyH.nil
        go_simp
        go_wp2_with (go_at_call 11; (with_reducible refine (CN.out v5A v5c _ HS5.out HC5.out).mono ?_); rintro e w7 ⟨p7, rfl, hp7, _, b7⟩; have hW2 := hW2.trans (b7.mono hW2.size); have HP7 := hp7 (by decide))
        refine hK.out _ _ (MK.out _ hW2) (fun hHeld => ?_)
        clear hK K
        go_simp
        refine wpAnyH_take (i := 8) (v := ?_) rfl (by kernel_rfl) (by kernel_rfl) (by kernel_rfl) (fun _ _ _ h => h) (Or.inl ⟨by rfl, ?_⟩) hHeld ?_
        rotate_left
        · intro w hSw
          (try dsimp only at hSw)
          go_simp
          try with_reducible rfl
        go_simp
        refine wpAnyH_take (i := 9) (v := ?_) rfl (by kernel_rfl) (by kernel_rfl) (by kernel_rfl) (fun _ _ _ h => h) (Or.inl ⟨by rfl, ?_⟩) hHeld ?_
        rotate_left
        · intro w hSw
          (try dsimp only at hSw)
          go_simp
          try with_reducible rfl
        go_simp
        refine wpAnyH_take (i := 10) (v := ?_) rfl (by kernel_rfl) (by kernel_rfl) (by kernel_rfl) (fun _ _ _ h => h) (Or.inl ⟨by rfl, ?_⟩) hHeld ?_
        rotate_left
        · intro w hSw
          (try dsimp only at hSw)
          go_simp
          try with_reducible rfl
        go_simp
        refine wpAnyH_take (i := 11) (v := ?_) rfl (by kernel_rfl) (by kernel_rfl) (by kernel_rfl) (fun _ _ _ h => h) (Or.inl ⟨by rfl, ?_⟩) hHeld ?_
        rotate_left
        · intro w hSw
          (try dsimp only at hSw)
          go_simp
          try with_reducible rfl
        go_simp
        refine wpAnyH_done (by kernel_rfl) ?_ _
        refine NoPanic.normal ?_
        have Q3 := Lib.hid (HX1.out.trans (hW2.mono HX1.out.size))
        subst HP7
        clear hW2 hHeld MK
        go_wp2
        go_ret2
        exact ⟨rfl, Q3.out⟩
    · go_simp
      have x9 : Below w2.heap.size w2 (w2.alloc (.cells #[.int .i64 x.f, .int .i64 x.t] 33)) := (Below.refl _ _).alloc (Nat.le_refl _) _
      have R9 : RawAt 33 (w2.alloc (.cells #[.int .i64 x.f, .int .i64 x.t] 33)) w2.heap.size #[.int .i64 x.f, .int .i64 x.t] := heap_alloc_new w2 _
      have hrow := rows_of_block (enc := encF) (k := 2) encF_len R9 (l := [x]) rfl
      have hbl : w2.heap.size < (w2.alloc (.cells #[.int .i64 x.f, .int .i64 x.t] 33)).heap.size := R9.lt
      have hW2 := hW2.trans (x9.mono hW2.size)
      go_wp2_with (fail)
      refine hK.out _ _ (MK.out _ hW2) (fun hHeld => ?_)
      clear hK K
      go_simp
      refine wpAnyH_ready (rs := [3]) (by kernel_rfl) (by simp) ?_
      refine AllReadyH.cons rfl (fun K hK => ?_) AllReadyH.nil
      · go_simp
        have hW3 := hW2.size
        go_wp2_with (go_at_call 24; (with_reducible refine (CA.out _).mono ?_); rintro e w3 ⟨v3, rfl, o3, b3⟩; have hW2 := hW2.trans (b3.mono hW2.size); obtain ⟨A3, c3, rfl⟩ := own_formF o3; have o3 := own_baseF o3 hW3; have hlt4 := o3.lt; have hrow := hrow.below b3)
        refine hK.out _ _ (MK.out _ hW2) (fun hHeld => ?_)
        clear hK K
        go_simp
        refine wpAnyH_ready (rs := [6]) (by kernel_rfl) (by simp) ?_
        refine AllReadyH.cons rfl (fun K hK => ?_) AllReadyH.nil
        refine step_appK (enc := encF) fo_slt encF_len (by omega) rfl (.tmp 9) (.tmp 11) rfl (base := W1.heap.size) (v := .slice A3 0 c3) (n := 0) (xs := []) (by simp [Act.eval]) o3 _ 1 1 [x] (by simp [Act.eval]) hrow ⟨Nat.le_refl _, fun h => by cases h⟩ rfl (kfl_one' encF_one _) (by simp only [maxLen]; simp) (by simp) hW2.size ?_
        intro v5 w5 hown5 hg5 hor5
        have hW2 := hW2.grown hg5 hW2.size (fun j hj => (hlt4 j hj).1)
        rw [List.nil_append] at hown5
        obtain ⟨v5A, v5c, rfl, hR5, _, hC5⟩ := rows_of_own (o := [x]) encF_len (by omega) hown5
        have HS5 := Lib.hid hR5
        have HC5 := Lib.hid hC5
        refine hK.out _ _ (MK.out _ hW2) (fun hHeld => ?_)
        clear hK K
        go_simp
        refine wpAnyH_ready (rs := [7]) (by kernel_rfl) (by simp) ?_
        refine AllReadyH.cons rfl (fun K hK => ?_) AllReadyH.nil
        go_simp
        go_wp2_with (go_at_call 11; (with_reducible refine (CN.out v5A v5c _ HS5.out HC5.out).mono ?_); rintro e w7 ⟨p7, rfl, hp7, _, b7⟩; have hW2 := hW2.trans (b7.mono hW2.size); have HP7 := hp7 (by decide))
        refine hK.out _ _ (MK.out _ hW2) (fun hHeld => ?_)
        clear hK K
        go_simp
        refine wpAnyH_take (i := 8) (v := ?_) rfl (by kernel_rfl) (by kernel_rfl) (by kernel_rfl) (fun _ _ _ h => h) (Or.inl ⟨by rfl, ?_⟩) hHeld ?_
        rotate_left
        · intro w hSw
          (try dsimp only at hSw)
          go_simp
          try with_reducible rfl
        go_simp
        refine wpAnyH_take (i := 9) (v := ?_) rfl (by kernel_rfl) (by kernel_rfl) (by kernel_rfl) (fun _ _ _ h => h) (Or.inl ⟨by rfl, ?_⟩) hHeld ?_
        rotate_left
        · intro w hSw
          (try dsimp only at hSw)
          go_simp
          try with_reducible rfl
        go_simp
        refine wpAnyH_take (i := 10) (v := ?_) rfl (by kernel_rfl) (by kernel_rfl) (by kernel_rfl) (fun _ _ _ h => h) (Or.inl ⟨by rfl, ?_⟩) hHeld ?_
        rotate_left
        · intro w hSw
          (try dsimp only at hSw)
          go_simp
          try with_reducible rfl
        go_simp
        refine wpAnyH_take (i := 11) (v := ?_) rfl (by kernel_rfl) (by kernel_rfl) (by kernel_rfl) (fun _ _ _ h => h) (Or.inl ⟨by rfl, ?_⟩) hHeld ?_
        rotate_left
        · intro w hSw
          (try dsimp only at hSw)
          go_simp
          try with_reducible rfl
        go_simp
        refine wpAnyH_done (by kernel_rfl) ?_ _
        refine NoPanic.normal ?_
        have Q3 := Lib.hid (HX1.out.trans (hW2.mono HX1.out.size))
        subst HP7
        clear hW2 hHeld MK
        go_wp2
        go_ret2
        exact ⟨rfl, Q3.out⟩
  · go_simp
    have x9 : Below W1.drew.heap.size W1.drew (W1.drew.alloc (.cells #[.int .i64 x.f, .int .i64 x.t] 33)) := (Below.refl _ _).alloc (Nat.le_refl _) _
    have R9 : RawAt 33 (W1.drew.alloc (.cells #[.int .i64 x.f, .int .i64 x.t] 33)) W1.drew.heap.size #[.int .i64 x.f, .int .i64 x.t] := heap_alloc_new W1.drew _
    have hrow := rows_of_block (enc := encF) (k := 2) encF_len R9 (l := [x]) rfl
    have hbl : W1.drew.heap.size < (W1.drew.alloc (.cells #[.int .i64 x.f, .int .i64 x.t] 33)).heap.size := R9.lt
    have hW2 := hW2.trans (x9.mono hW2.size)
    go_wp2_with (fail)
    refine hK.out _ _ (MK.out _ hW2) (fun hHeld => ?_)
    clear hK K
    go_simp
    refine wpAnyH_ready (rs := [1]) (by kernel_rfl) (by simp) ?_
    refine AllReadyH.cons rfl (fun K hK => ?_) AllReadyH.nil
    · go_simp
      go_wp2_with (go_at_call 34; (with_reducible refine (CL.out _).mono ?_); rintro e w2 ⟨rfl, b2⟩; have hW2 := hW2.trans (b2.mono hW2.size); have hrow := hrow.below b2)
      refine hK.out _ _ (MK.out _ hW2) (fun hHeld => ?_)
      clear hK K
      go_simp
      refine wpAnyH_ready (rs := [3]) (by kernel_rfl) (by simp) ?_
      refine AllReadyH.cons rfl (fun K hK => ?_) AllReadyH.nil
      · go_simp
        have hW3 := hW2.size
        go_wp2_with (go_at_call 24; (with_reducible refine (CA.out _).mono ?_); rintro e w3 ⟨v3, rfl, o3, b3⟩; have hW2 := hW2.trans (b3.mono hW2.size); obtain ⟨A3, c3, rfl⟩ := own_formF o3; have o3 := own_baseF o3 hW3; have hlt4 := o3.lt; have hrow := hrow.below b3)
        refine hK.out _ _ (MK.out _ hW2) (fun hHeld => ?_)
        clear hK K
        go_simp
        refine wpAnyH_ready (rs := [6]) (by kernel_rfl) (by simp) ?_
        refine AllReadyH.cons rfl (fun K hK => ?_) AllReadyH.nil
        refine step_appK (enc := encF) fo_slt encF_len (by omega) rfl (.tmp 9) (.tmp 11) rfl (base := W1.heap.size) (v := .slice A3 0 c3) (n := 0) (xs := []) (by simp [Act.eval]) o3 _ 1 1 [x] (by simp [Act.eval]) hrow ⟨Nat.le_refl _, fun h => by cases h⟩ rfl (kfl_one' encF_one _) (by simp only [maxLen]; simp) (by simp) hW2.size ?_
        intro v5 w5 hown5 hg5 hor5
        have hW2 := hW2.grown hg5 hW2.size (fun j hj => (hlt4 j hj).1)
        rw [List.nil_append] at hown5
        obtain ⟨v5A, v5c, rfl, hR5, _, hC5⟩ := rows_of_own (o := [x]) encF_len (by omega) hown5
        have HS5 := Lib.hid hR5
        have HC5 := Lib.hid hC5
        refine hK.out _ _ (MK.out _ hW2) (fun hHeld => ?_)
        clear hK K
        go_simp
        refine wpAnyH_ready (rs := [7]) (by kernel_rfl) (by simp) ?_
        refine AllReadyH.cons rfl (fun K hK => ?_) AllReadyH.nil
        go_simp
        go_wp2_with (go_at_call 11; (with_reducible refine (CN.out v5A v5c _ HS5.out HC5.out).mono ?_); rintro e w7 ⟨p7, rfl, hp7, _, b7⟩; have hW2 := hW2.trans (b7.mono hW2.size); have HP7 := hp7 (by decide))
        refine hK.out _ _ (MK.out _ hW2) (fun hHeld => ?_)
        clear hK K
        go_simp
        refine wpAnyH_take (i := 8) (v := ?_) rfl (by kernel_rfl) (by kernel_rfl) (by kernel_rfl) (fun _ _ _ h => h) (Or.inl ⟨by rfl, ?_⟩) hHeld ?_
        rotate_left
        · intro w hSw
          (try dsimp only at hSw)
          go_simp
          try with_reducible rfl
        go_simp
        refine wpAnyH_take (i := 9) (v := ?_) rfl (by kernel_rfl) (by kernel_rfl) (by kernel_rfl) (fun _ _ _ h => h) (Or.inl ⟨by rfl, ?_⟩) hHeld ?_
        rotate_left
        · intro w hSw
          (try dsimp only at hSw)
          go_simp
          try with_reducible rfl
        go_simp
        refine wpAnyH_take (i := 10) (v := ?_) rfl (by kernel_rfl) (by kernel_rfl) (by kernel_rfl) (fun _ _ _ h => h) (Or.inl ⟨by rfl, ?_⟩) hHeld ?_
        rotate_left
        · intro w hSw
          (try dsimp only at hSw)
          go_simp
          try with_reducible rfl
        go_simp
        refine wpAnyH_take (i := 11) (v := ?_) rfl (by kernel_rfl) (by kernel_rfl) (by kernel_rfl) (fun _ _ _ h => h) (Or.inl ⟨by rfl, ?_⟩) hHeld ?_
        rotate_left
        · intro w hSw
          (try dsimp only at hSw)
          go_simp
          try with_reducible rfl
        go_simp
        refine wpAnyH_done (by kernel_rfl) ?_ _
        refine NoPanic.normal ?_
        have Q3 := Lib.hid (HX1.out.trans (hW2.mono HX1.out.size))
        subst HP7
        clear hW2 hHeld MK
        go_wp2
        go_ret2
        exact ⟨rfl, Q3.out⟩
end Go.Proofs.Ytnfjleobcfhpnaa
