/- The law LinesPoints. -/
import Derived.Test.YtglalmhpgdgeeaaGreatLnA
import Derived.Test.YtglalmhpgdgeeaaGreatRef8Is
import Derived.Test.YtglalmhpgdgeeaaGreatRef8
import Derived.Test.YtglalmhpgdgeeaaGreatRDec
namespace Go.Proofs.YtglalmhpgdgeeaaGreat
open Go.RowKit
theorem place_done {l : List Int} {r k n d : Int} (h : PlaceIs l r k n d) : d = 0 ∨ (n = 0 ∧ d = 1) := by
  obtain ⟨f, t, d', hs, ⟨_, h2, h3⟩ | ⟨_, _, h2, h3⟩ | ⟨_, _, _, _, h3⟩⟩ := h
  · exact .inr ⟨h2, h3⟩
  · exact .inr ⟨h2, h3⟩
  · exact .inl h3
set_option maxHeartbeats 8000000 in
set_option maxRecDepth 100000 in
theorem linesPoints_walk (s : ByteArray) (at_ : Int) (r k : Int) (w : World) (_hs : s.size ≤ maxLen) (_ha : Lit.wf (.int .i64 at_)) (_hr : Lit.wf (.int .i64 r)) (hk : Lit.wf (.int .i64 k)) : Calls Tryz.prog 4 #[.string s, .int .i64 at_, .agg #[.int .i64 r, .int .i64 k]] w fun e w' => e = .returned (.bool true) ∧ Below w.heap.size w w' := by
  have hk' : -9223372036854775808 ≤ k ∧ k ≤ 9223372036854775807 := by simp [Lit.wf, IntKind.min, IntKind.max, IntKind.signed, IntKind.bits] at hk; omega
  obtain ⟨hk0, hk1⟩ := hk'
  clear hk _hr _ha
  have CW := Lib.hid fun W => two_any W
  have x1 : Below w.heap.size w (w.alloc (.cells #[.int .i64 r, .int .i64 k] 41)) := (Below.refl _ _).alloc (Nat.le_refl _) _
  have R1 : RawAt 41 (w.alloc (.cells #[.int .i64 r, .int .i64 k] 41)) w.heap.size #[.int .i64 r, .int .i64 k] := heap_alloc_new w _
  have HR1 := Lib.hid R1
  clear R1
  by_cases hl : 1500 < s.size
  · go_enter Tryz.func4, Tryz.ntmps4
    go_wp2_with fail
    refine (CW.out _).mono ?_
    rintro e w1 ⟨rfl, hb1⟩
    go_wp2_with fail
    go_ret
    exact ⟨rfl, x1.trans (hb1.mono x1.size)⟩
  have hsl : s.size ≤ 1500 := by omega
  have hdl := dec_len s
  have CN := Lib.hid fun W => rnew_any s W (by omega) (by omega)
  have CD := Lib.hid fun W => rdecode_any s W (by omega)
  obtain ⟨D, hD⟩ : ∃ D, D = dec s := ⟨_, rfl⟩
  have HD := Lib.hid hD
  rw [← hD] at CD CN hdl
  clear hl hD
  have hDl : D.length ≤ 1500 := by omega
  obtain ⟨pb, hpb⟩ : ∃ pb, pb = w.heap.size := ⟨_, rfl⟩
  have HPB := Lib.hid hpb
  go_enter Tryz.func4, Tryz.ntmps4
  go_wp2_with fail
  generalize w.alloc (.cells #[.int .i64 r, .int .i64 k] 41) = W1 at *
  rw [← hpb] at HR1 ⊢
  clear hpb
  refine (CN.out _).mono ?_
  rintro e w1 ⟨b0, ps, h, rfl, hR, hf, hb1⟩
  have HR := Lib.hid hR
  have HFl := Lib.hid hf
  clear hR hf
  go_wp2_with fail
  refine (CD.out _).mono ?_
  rintro e w2 ⟨A, c, rfl, hb2, hI, hC⟩
  have HI := Lib.hid hI
  have HC := Lib.hid hC
  clear hI hC
  have q2 := hb1.trans (hb2.mono hb1.size)
  have HP2 := Lib.hid (RawAt.below HR1.out q2 (RawAt.lt HR1.out))
  have a2 := x1.trans (q2.mono x1.size)
  have C1 := Lib.hid (lpoint_any (HR.out.below hb2) at_)
  rw [HFl.out] at C1
  clear CN CD
  go_wp2_with fail
  refine C1.out.mono ?_
  rintro e w3 ⟨a, b, d1, hpt, rfl, hb3⟩
  have x4 : Below w3.heap.size w3 (w3.alloc (.cells #[.int .i64 a, .int .i64 b] 41)) := (Below.refl _ _).alloc (Nat.le_refl _) _
  have R4 : RawAt 41 (w3.alloc (.cells #[.int .i64 a, .int .i64 b] 41)) w3.heap.size #[.int .i64 a, .int .i64 b] := heap_alloc_new w3 _
  have HR4 := Lib.hid R4
  clear R4 C1
  obtain ⟨qb, hqb⟩ : ∃ qb, qb = w3.heap.size := ⟨_, rfl⟩
  rw [← hqb] at HR4
  have HQB := Lib.hid hqb
  clear hqb
  by_cases hin : 0 ≤ at_ ∧ at_ ≤ D.length
  · obtain ⟨j, rfl⟩ : ∃ j : Nat, at_ = j := ⟨at_.toNat, by omega⟩
    have hj : j ≤ D.length := by omega
    have hd1 : d1 = 0 := by
      rcases hpt with ⟨h1, _⟩ | ⟨_, _, h3, _⟩
      · exact absurd hin h1
      · exact h3
    subst hd1
    have i1 : ¬ ((j : Int) < 0) := by omega
    have i2 : ¬ ((D.length : Int) < (j : Int)) := by omega
    go_wp2_with fail
    rw [← HQB.out]
    generalize w3.alloc (.cells #[.int .i64 a, .int .i64 b] 41) = W4 at *
    have q4 : Below w2.heap.size w2 W4 := hb3.trans (x4.mono hb3.size)
    have CF := Lib.hid fun (W : World) (hW : Below W4.heap.size W4 W) => (f8point A D.length c D W (HI.out.below (q4.trans (hW.mono q4.size))) rfl HC.out (by omega) j hj).mono fun e w' ⟨a', b', hi, he, hb⟩ => (by
      obtain ⟨rfl, rfl, _⟩ := hi.unique hpt
      exact ⟨he, hb⟩ : e = Ending.returned (.agg #[.int .i64 a, .int .i64 b]) ∧ Below W.heap.size W w')
    have MK : Hid (∀ W : World, Below W4.heap.size W4 W → (fun W => W.cell? ⟨qb, 0, none⟩ = some (.int .i64 a) ∧ W.cell? ⟨qb, 1, none⟩ = some (.int .i64 b) ∧ Below W4.heap.size W4 W) W) := fun W hW => ⟨RawAt.cell (RawAt.below HR4.out hW (RawAt.lt HR4.out)) 0, RawAt.cell (RawAt.below HR4.out hW (RawAt.lt HR4.out)) 1, hW⟩
    have hW2 : Below W4.heap.size W4 W4.drew := (Below.refl _ _).drew
    clear hpt
    refine wp_region_noPanic ?_
    refine wp_region_held_drew (S := (fun W => W.cell? ⟨qb, 0, none⟩ = some (.int .i64 a) ∧ W.cell? ⟨qb, 1, none⟩ = some (.int .i64 b) ∧ Below W4.heap.size W4 W)) (by kernel_rfl) (MK.out _ hW2) (fun hHeld => ?_)
    refine wpAnyH_take (i := 0) (v := ?_) rfl (by kernel_rfl) (by kernel_rfl) (by kernel_rfl) (fun _ _ _ h => h) (Or.inl ⟨by rfl, ?_⟩) hHeld ?_
    rotate_left
    · intro w hSw
      (try dsimp only at hSw)
      go_simp
      try with_reducible rfl
    go_simp
    refine wpAnyH_take (i := 1) (v := ?_) rfl (by kernel_rfl) (by kernel_rfl) (by kernel_rfl) (fun _ _ _ h => h) (Or.inl ⟨by rfl, ?_⟩) hHeld ?_
    rotate_left
    · intro w hSw
      (try dsimp only at hSw)
      go_simp
      try with_reducible rfl
    go_simp
    refine wpAnyH_take (i := 2) (v := ?_) rfl (by kernel_rfl) (by kernel_rfl) (by kernel_rfl) (fun _ _ _ h => h) (Or.inl ⟨by rfl, ?_⟩) hHeld ?_
    rotate_left
    · intro w hSw
      (try dsimp only at hSw)
      go_simp
      try with_reducible rfl
    go_simp
    refine wpAnyH_take (i := 3) (v := ?_) rfl (by kernel_rfl) (by kernel_rfl) (by kernel_rfl) (fun _ _ _ h => h) (Or.inl ⟨by rfl, ?_⟩) hHeld ?_
    rotate_left
    · intro w hSw
      (try dsimp only at hSw)
      go_simp
      try with_reducible rfl
    go_simp
    refine wpAnyH_take (i := 4) (v := ?_) rfl (by kernel_rfl) (by kernel_rfl) (by kernel_rfl) (fun _ _ _ h => h) (Or.inl ⟨by rfl, ?_⟩) hHeld ?_
    rotate_left
    · intro w hSw
      (try dsimp only at hSw)
      go_simp
      try with_reducible rfl
    go_simp
    refine wpAnyH_take (i := 5) (v := ?_) rfl (by kernel_rfl) (by kernel_rfl) (by kernel_rfl) (fun _ _ _ h => h) (Or.inl ⟨by rfl, ?_⟩) hHeld ?_
    rotate_left
    · intro w hSw
      (try dsimp only at hSw)
      go_simp
      try with_reducible rfl
    go_simp
    refine wpAnyH_ready (rs := [6]) (by kernel_rfl) (by simp) ?_
    refine AllReadyH.cons rfl (fun K hK => ?_) ?_
    rotate_left
    · exact AllReadyH.nil
    go_simp
    go_wp2_with (first | (go_at_call 19; ((with_reducible refine (CF.out _ hW2).mono ?_); rintro e w5 ⟨rfl, hb5⟩); have hW2 := hW2.trans (hb5.mono hW2.size)))
    refine hK.out _ _ (MK.out _ hW2) (fun hHeld => ?_)
    clear hK K
    go_simp
    refine wpAnyH_take (i := 7) (v := ?_) rfl (by kernel_rfl) (by kernel_rfl) (by kernel_rfl) (fun _ _ _ h => h) (Or.inl ⟨by rfl, ?_⟩) hHeld ?_
    rotate_left
    · intro w hSw
      (try dsimp only at hSw)
      go_simp
      try with_reducible rfl
    go_simp
    refine wpAnyH_take (i := 8) (v := ?_) rfl (by kernel_rfl) (by kernel_rfl) (by kernel_rfl) (fun _ _ _ h => h) (Or.inl ⟨by rfl, ?_⟩) hHeld ?_
    rotate_left
    · intro w hSw
      (try dsimp only at hSw)
      go_simp
      try with_reducible rfl
    go_simp
    refine wpAnyH_done (by kernel_rfl) ?_ _
    refine NoPanic.normal ?_
    clear hHeld MK CF
    have q5 : Below w2.heap.size w2 w5 := q4.trans (hW2.mono q4.size)
    clear hW2 q4 hb5
    have HP5 := Lib.hid (RawAt.below HP2.out q5 (RawAt.lt HP2.out))
    have y0 := RawAt.cell HP5.out 0
    have y1 := RawAt.cell HP5.out 1
    simp at y0 y1
    have C2 := Lib.hid (lplace_any ((HR.out.below hb2).below q5) r k hk0 hk1)
    rw [HFl.out] at C2
    go_wp2_with fail
    refine C2.out.mono ?_
    rintro e w6 ⟨n, d, hpl, rfl, hb6⟩
    have q6 := q5.trans (hb6.mono q5.size)
    have a6 := a2.trans (q6.mono a2.size)
    have HP6 := Lib.hid (RawAt.below HP2.out q6 (RawAt.lt HP2.out))
    clear y0 y1 C2
    have y0 := RawAt.cell HP6.out 0
    have y1 := RawAt.cell HP6.out 1
    simp at y0 y1
    obtain ⟨ib, hib⟩ : ∃ ib : Bool, ib = true ↔ ∃ m, PlaceIs D r k m 0 := by
      by_cases hex : ∃ m, PlaceIs D r k m 0
      · exact ⟨true, fun _ => hex, fun _ => rfl⟩
      · exact ⟨false, fun h => absurd h (by decide), fun h => absurd h hex⟩
    have CI := Lib.hid (f8is A D.length c D w6 (HI.out.below q6) rfl (by omega) r k hk0 hk1 ib hib)
    go_wp2_with fail
    refine CI.out.mono ?_
    rintro e w7 ⟨rfl, hb7⟩
    have hpd := place_done hpl
    have q7 := q6.trans (hb7.mono q6.size)
    have a7 := a2.trans (q7.mono a2.size)
    clear y0 y1 CI
    cases ib
    · have hnn : n = 0 ∧ d = 1 := by
        rcases hpd with h | h
        · exact absurd (hib.2 ⟨n, by rw [h] at hpl; exact hpl⟩) (by decide)
        · exact h
      obtain ⟨rfl, rfl⟩ := hnn
      clear hpl hib hpd
      go_wp2_with fail
      refine (CW.out _).mono ?_
      rintro e w8 ⟨rfl, hb8⟩
      go_wp2_with fail
      go_ret
      exact ⟨rfl, a7.trans (hb8.mono a7.size)⟩
    · obtain ⟨m, hm⟩ := hib.1 rfl
      obtain ⟨rfl, rfl⟩ := hpl.unique hm
      clear hpl hib hpd
      obtain ⟨f0, t0, d0, hs, ⟨_, _, h3⟩ | ⟨_, _, _, h3⟩ | ⟨rfl, g1, g2, hn, _⟩⟩ := hm
      · exact absurd h3 (by decide)
      · exact absurd h3 (by decide)
      subst hn
      obtain ⟨s1, s2, s3⟩ := span_le hs
      obtain ⟨i, rfl⟩ : ∃ i : Nat, r = i := ⟨r.toNat, by omega⟩
      have hsb := span_bd hs
      have hw : IntKind.i64.wrap (f0 + k) = f0 + k := IntWalk.i64_in _ (by omega)
      have i0 : (0 : Int) ≤ (i : Int) := by omega
      have HP7 := Lib.hid (RawAt.below HP2.out q7 (RawAt.lt HP2.out))
      have CS := Lib.hid fun (W : World) (hW : Below w7.heap.size w7 W) => (f8spans A D.length c D W (HI.out.below (q7.trans (hW.mono q7.size))) rfl (by omega)).mono fun e w' ⟨B, d, o, he, ho, hB, hC, hb⟩ => (by
        have hol := ho.len
        obtain ⟨bA, off, rfl, hbA, hcell⟩ := hB (by omega)
        have h9 := ho.at_ i (by omega)
        obtain ⟨h8, _, _⟩ := h9.unique hs
        have h7 := (hcell i (by omega)).1
        rw [h8] at h7
        exact ⟨bA, off, o.length, d, he, h7, by omega, hb⟩ : ∃ bA off N d, e = Ending.returned (.slice (some ⟨bA, off, none⟩) N d) ∧ w'.cell? ⟨bA, off + i * 2, none⟩ = some (Value.int .i64 f0) ∧ (i : Int) < (N : Int) ∧ Below W.heap.size W w')
      have AX := Lib.hid fun (W : World) (hW : Below w7.heap.size w7 W) => (a7.trans (hW.mono a7.size))
      have MK : Hid (∀ W : World, Below w7.heap.size w7 W → (fun W => W.cell? ⟨pb, 0, none⟩ = some (.int .i64 (i : Int)) ∧ W.cell? ⟨pb, 1, none⟩ = some (.int .i64 k) ∧ Below w7.heap.size w7 W) W) := fun W hW => ⟨RawAt.cell (RawAt.below HP7.out hW (RawAt.lt HP7.out)) 0, RawAt.cell (RawAt.below HP7.out hW (RawAt.lt HP7.out)) 1, hW⟩
      have hW2 : Below w7.heap.size w7 w7.drew := (Below.refl _ _).drew
      clear hs
      go_wp2_with fail
      refine wp_region_noPanic ?_
      refine wp_region_held_drew (S := (fun W => W.cell? ⟨pb, 0, none⟩ = some (.int .i64 (i : Int)) ∧ W.cell? ⟨pb, 1, none⟩ = some (.int .i64 k) ∧ Below w7.heap.size w7 W)) (by kernel_rfl) (MK.out _ hW2) (fun hHeld => ?_)
      refine wpAnyH_take (i := 0) (v := ?_) rfl (by kernel_rfl) (by kernel_rfl) (by kernel_rfl) (fun _ _ _ h => h) (Or.inl ⟨by rfl, ?_⟩) hHeld ?_
      rotate_left
      · intro w hSw
        (try dsimp only at hSw)
        go_simp
        try with_reducible rfl
      go_simp
      refine wpAnyH_take (i := 1) (v := ?_) rfl (by kernel_rfl) (by kernel_rfl) (by kernel_rfl) (fun _ _ _ h => h) (Or.inl ⟨by rfl, ?_⟩) hHeld ?_
      rotate_left
      · intro w hSw
        (try dsimp only at hSw)
        go_simp
        try with_reducible rfl
      go_simp
      refine wpAnyH_take (i := 2) (v := ?_) rfl (by kernel_rfl) (by kernel_rfl) (by kernel_rfl) (fun _ _ _ h => h) (Or.inl ⟨by rfl, ?_⟩) hHeld ?_
      rotate_left
      · intro w hSw
        (try dsimp only at hSw)
        go_simp
        try with_reducible rfl
      go_simp
      refine wpAnyH_take (i := 3) (v := ?_) rfl (by kernel_rfl) (by kernel_rfl) (by kernel_rfl) (fun _ _ _ h => h) (Or.inl ⟨by rfl, ?_⟩) hHeld ?_
      rotate_left
      · intro w hSw
        (try dsimp only at hSw)
        go_simp
        try with_reducible rfl
      go_simp
      refine wpAnyH_take (i := 4) (v := ?_) rfl (by kernel_rfl) (by kernel_rfl) (by kernel_rfl) (fun _ _ _ h => h) (Or.inl ⟨by rfl, ?_⟩) hHeld ?_
      rotate_left
      · intro w hSw
        (try dsimp only at hSw)
        go_simp
        try with_reducible rfl
      go_simp
      refine wpAnyH_take (i := 6) (v := ?_) rfl (by kernel_rfl) (by kernel_rfl) (by kernel_rfl) (fun _ _ _ h => h) (Or.inl ⟨by rfl, ?_⟩) hHeld ?_
      rotate_left
      · intro w hSw
        (try dsimp only at hSw)
        go_simp
        try with_reducible rfl
      go_simp
      refine wpAnyH_take (i := 7) (v := ?_) rfl (by kernel_rfl) (by kernel_rfl) (by kernel_rfl) (fun _ _ _ h => h) (Or.inl ⟨by rfl, ?_⟩) hHeld ?_
      rotate_left
      · intro w hSw
        (try dsimp only at hSw)
        go_simp
        try with_reducible rfl
      go_simp
      refine wpAnyH_take (i := 11) (v := ?_) rfl (by kernel_rfl) (by kernel_rfl) (by kernel_rfl) (fun _ _ _ h => h) (Or.inl ⟨by rfl, ?_⟩) hHeld ?_
      rotate_left
      · intro w hSw
        (try dsimp only at hSw)
        go_simp
        try with_reducible rfl
      go_simp
      refine wpAnyH_take (i := 12) (v := ?_) rfl (by kernel_rfl) (by kernel_rfl) (by kernel_rfl) (fun _ _ _ h => h) (Or.inl ⟨by rfl, ?_⟩) hHeld ?_
      rotate_left
      · intro w hSw
        (try dsimp only at hSw)
        go_simp
        try with_reducible rfl
      go_simp
      refine wpAnyH_ready (rs := [5]) (by kernel_rfl) (by simp) ?_
      refine AllReadyH.cons rfl (fun K hK => ?_) ?_
      rotate_left
      · exact AllReadyH.nil
      go_simp
      go_wp2_with (first | (go_at_call 13; ((with_reducible refine (CS.out _ hW2).mono ?_); rintro e w8 ⟨bA, off, N, d8, rfl, hc8, hi8, hb8⟩); have hW2 := hW2.trans (hb8.mono hW2.size)) | (go_at_call 10; ((with_reducible refine (CW.out _).mono ?_); rintro e w9 ⟨rfl, hb9⟩); have hW2 := hW2.trans (hb9.mono hW2.size)))
      refine hK.out _ _ (MK.out _ hW2) (fun hHeld => ?_)
      clear hK K
      go_simp
      refine wpAnyH_take (i := 8) (v := ?_) rfl (by kernel_rfl) (by kernel_rfl) (by kernel_rfl) (fun _ _ _ h => h) (Or.inl ⟨by rfl, ?_⟩) hHeld ?_
      rotate_left
      · intro w hSw
        (try dsimp only at hSw)
        go_simp
        try with_reducible rfl
      go_simp
      refine wpAnyH_take (i := 9) (v := ?_) rfl (by kernel_rfl) (by kernel_rfl) (by kernel_rfl) (fun _ _ _ h => h) (Or.inl ⟨by rfl, ?_⟩) hHeld ?_
      rotate_left
      · intro w hSw
        (try dsimp only at hSw)
        go_simp
        try with_reducible rfl
      go_simp
      refine wpAnyH_ready (rs := [10]) (by kernel_rfl) (by simp) ?_
      refine AllReadyH.cons rfl (fun K hK => ?_) ?_
      rotate_left
      · exact AllReadyH.nil
      go_simp
      go_wp2_with (first | (go_at_call 13; ((with_reducible refine (CS.out _ hW2).mono ?_); rintro e w8 ⟨bA, off, N, d8, rfl, hc8, hi8, hb8⟩); have hW2 := hW2.trans (hb8.mono hW2.size)) | (go_at_call 10; ((with_reducible refine (CW.out _).mono ?_); rintro e w9 ⟨rfl, hb9⟩); have hW2 := hW2.trans (hb9.mono hW2.size)))
      refine hK.out _ _ (MK.out _ hW2) (fun hHeld => ?_)
      clear hK K
      go_simp
      refine wpAnyH_take (i := 13) (v := ?_) rfl (by kernel_rfl) (by kernel_rfl) (by kernel_rfl) (fun _ _ _ h => h) (Or.inl ⟨by rfl, ?_⟩) hHeld ?_
      rotate_left
      · intro w hSw
        (try dsimp only at hSw)
        go_simp
        try with_reducible rfl
      go_simp
      refine wpAnyH_take (i := 14) (v := ?_) rfl (by kernel_rfl) (by kernel_rfl) (by kernel_rfl) (fun _ _ _ h => h) (Or.inl ⟨by rfl, ?_⟩) hHeld ?_
      rotate_left
      · intro w hSw
        (try dsimp only at hSw)
        go_simp
        try with_reducible rfl
      go_simp
      refine wpAnyH_take (i := 15) (v := ?_) rfl (by kernel_rfl) (by kernel_rfl) (by kernel_rfl) (fun _ _ _ h => h) (Or.inl ⟨by rfl, ?_⟩) hHeld ?_
      rotate_left
      · intro w hSw
        (try dsimp only at hSw)
        go_simp
        try with_reducible rfl
      go_simp
      refine wpAnyH_take (i := 16) (v := ?_) rfl (by kernel_rfl) (by kernel_rfl) (by kernel_rfl) (fun _ _ _ h => h) (Or.inl ⟨by rfl, ?_⟩) hHeld ?_
      rotate_left
      · intro w hSw
        (try dsimp only at hSw)
        go_simp
        try with_reducible rfl
      go_simp
      refine wpAnyH_ready (rs := [17]) (by kernel_rfl) (by simp) ?_
      refine AllReadyH.cons rfl (fun K hK => ?_) ?_
      rotate_left
      · exact AllReadyH.nil
      go_simp
      go_wp2_with (first | (go_at_call 13; ((with_reducible refine (CS.out _ hW2).mono ?_); rintro e w8 ⟨bA, off, N, d8, rfl, hc8, hi8, hb8⟩); have hW2 := hW2.trans (hb8.mono hW2.size)) | (go_at_call 10; ((with_reducible refine (CW.out _).mono ?_); rintro e w9 ⟨rfl, hb9⟩); have hW2 := hW2.trans (hb9.mono hW2.size)))
      refine hK.out _ _ (MK.out _ hW2) (fun hHeld => ?_)
      clear hK K
      go_simp
      refine wpAnyH_take (i := 18) (v := ?_) rfl (by kernel_rfl) (by kernel_rfl) (by kernel_rfl) (fun _ _ _ h => h) (Or.inl ⟨by rfl, ?_⟩) hHeld ?_
      rotate_left
      · intro w hSw
        (try dsimp only at hSw)
        go_simp
        try with_reducible rfl
      go_simp
      refine wpAnyH_take (i := 19) (v := ?_) rfl (by kernel_rfl) (by kernel_rfl) (by kernel_rfl) (fun _ _ _ h => h) (Or.inl ⟨by rfl, ?_⟩) hHeld ?_
      rotate_left
      · intro w hSw
        (try dsimp only at hSw)
        go_simp
        try with_reducible rfl
      go_simp
      refine wpAnyH_done (by kernel_rfl) ?_ _
      refine NoPanic.normal ?_
      go_wp2
      go_ret
      exact ⟨rfl, AX.out _ hW2⟩
  · have hd1 : a = 0 ∧ b = 0 ∧ d1 = 1 := by
      rcases hpt with ⟨_, h2, h3, h4⟩ | ⟨h1, h2, _, _⟩
      · exact ⟨h2, h3, h4⟩
      · exact absurd ⟨h1, h2⟩ hin
    obtain ⟨rfl, rfl, rfl⟩ := hd1
    have q5 : Below w2.heap.size w2 (w3.alloc (.cells #[.int .i64 0, .int .i64 0] 41)) := hb3.trans (x4.mono hb3.size)
    have z0 := RawAt.cell HR4.out 0
    have z1 := RawAt.cell HR4.out 1
    simp at z0 z1
    rw [HQB.out] at z0 z1
    clear hpt
    have hor : (decide (at_ < 0) = true) ∨ (decide (at_ < 0) = false ∧ decide ((D.length : Int) < at_) = true) := by
      simp only [decide_eq_true_eq, decide_eq_false_iff_not]; omega
    clear hin
    rcases hor with hlt | ⟨hlt, hgt⟩
    · have HP5 := Lib.hid (RawAt.below HP2.out q5 (RawAt.lt HP2.out))
      have y0 := RawAt.cell HP5.out 0
      have y1 := RawAt.cell HP5.out 1
      simp at y0 y1
      have C2 := Lib.hid (lplace_any ((HR.out.below hb2).below q5) r k hk0 hk1)
      rw [HFl.out] at C2
      go_wp2_with fail
      refine C2.out.mono ?_
      rintro e w6 ⟨n, d, hpl, rfl, hb6⟩
      have q6 := q5.trans (hb6.mono q5.size)
      have a6 := a2.trans (q6.mono a2.size)
      have HP6 := Lib.hid (RawAt.below HP2.out q6 (RawAt.lt HP2.out))
      clear y0 y1 z0 z1 C2
      have y0 := RawAt.cell HP6.out 0
      have y1 := RawAt.cell HP6.out 1
      simp at y0 y1
      obtain ⟨ib, hib⟩ : ∃ ib : Bool, ib = true ↔ ∃ m, PlaceIs D r k m 0 := by
        by_cases hex : ∃ m, PlaceIs D r k m 0
        · exact ⟨true, fun _ => hex, fun _ => rfl⟩
        · exact ⟨false, fun h => absurd h (by decide), fun h => absurd h hex⟩
      have CI := Lib.hid (f8is A D.length c D w6 (HI.out.below q6) rfl (by omega) r k hk0 hk1 ib hib)
      go_wp2_with fail
      refine CI.out.mono ?_
      rintro e w7 ⟨rfl, hb7⟩
      have hpd := place_done hpl
      have q7 := q6.trans (hb7.mono q6.size)
      have a7 := a2.trans (q7.mono a2.size)
      clear y0 y1 CI
      cases ib
      · have hnn : n = 0 ∧ d = 1 := by
          rcases hpd with h | h
          · exact absurd (hib.2 ⟨n, by rw [h] at hpl; exact hpl⟩) (by decide)
          · exact h
        obtain ⟨rfl, rfl⟩ := hnn
        clear hpl hib hpd
        go_wp2_with fail
        refine (CW.out _).mono ?_
        rintro e w8 ⟨rfl, hb8⟩
        go_wp2_with fail
        go_ret
        exact ⟨rfl, a7.trans (hb8.mono a7.size)⟩
      · obtain ⟨m, hm⟩ := hib.1 rfl
        obtain ⟨rfl, rfl⟩ := hpl.unique hm
        clear hpl hib hpd
        obtain ⟨f0, t0, d0, hs, ⟨_, _, h3⟩ | ⟨_, _, _, h3⟩ | ⟨rfl, g1, g2, hn, _⟩⟩ := hm
        · exact absurd h3 (by decide)
        · exact absurd h3 (by decide)
        subst hn
        obtain ⟨s1, s2, s3⟩ := span_le hs
        obtain ⟨i, rfl⟩ : ∃ i : Nat, r = i := ⟨r.toNat, by omega⟩
        have hsb := span_bd hs
        have hw : IntKind.i64.wrap (f0 + k) = f0 + k := IntWalk.i64_in _ (by omega)
        have i0 : (0 : Int) ≤ (i : Int) := by omega
        have HP7 := Lib.hid (RawAt.below HP2.out q7 (RawAt.lt HP2.out))
        have CS := Lib.hid fun (W : World) (hW : Below w7.heap.size w7 W) => (f8spans A D.length c D W (HI.out.below (q7.trans (hW.mono q7.size))) rfl (by omega)).mono fun e w' ⟨B, d, o, he, ho, hB, hC, hb⟩ => (by
          have hol := ho.len
          obtain ⟨bA, off, rfl, hbA, hcell⟩ := hB (by omega)
          have h9 := ho.at_ i (by omega)
          obtain ⟨h8, _, _⟩ := h9.unique hs
          have h7 := (hcell i (by omega)).1
          rw [h8] at h7
          exact ⟨bA, off, o.length, d, he, h7, by omega, hb⟩ : ∃ bA off N d, e = Ending.returned (.slice (some ⟨bA, off, none⟩) N d) ∧ w'.cell? ⟨bA, off + i * 2, none⟩ = some (Value.int .i64 f0) ∧ (i : Int) < (N : Int) ∧ Below W.heap.size W w')
        have AX := Lib.hid fun (W : World) (hW : Below w7.heap.size w7 W) => (a7.trans (hW.mono a7.size))
        have MK : Hid (∀ W : World, Below w7.heap.size w7 W → (fun W => W.cell? ⟨pb, 0, none⟩ = some (.int .i64 (i : Int)) ∧ W.cell? ⟨pb, 1, none⟩ = some (.int .i64 k) ∧ Below w7.heap.size w7 W) W) := fun W hW => ⟨RawAt.cell (RawAt.below HP7.out hW (RawAt.lt HP7.out)) 0, RawAt.cell (RawAt.below HP7.out hW (RawAt.lt HP7.out)) 1, hW⟩
        have hW2 : Below w7.heap.size w7 w7.drew := (Below.refl _ _).drew
        clear hs
        go_wp2_with fail
        refine wp_region_noPanic ?_
        refine wp_region_held_drew (S := (fun W => W.cell? ⟨pb, 0, none⟩ = some (.int .i64 (i : Int)) ∧ W.cell? ⟨pb, 1, none⟩ = some (.int .i64 k) ∧ Below w7.heap.size w7 W)) (by kernel_rfl) (MK.out _ hW2) (fun hHeld => ?_)
        refine wpAnyH_take (i := 0) (v := ?_) rfl (by kernel_rfl) (by kernel_rfl) (by kernel_rfl) (fun _ _ _ h => h) (Or.inl ⟨by rfl, ?_⟩) hHeld ?_
        rotate_left
        · intro w hSw
          (try dsimp only at hSw)
          go_simp
          try with_reducible rfl
        go_simp
        refine wpAnyH_take (i := 1) (v := ?_) rfl (by kernel_rfl) (by kernel_rfl) (by kernel_rfl) (fun _ _ _ h => h) (Or.inl ⟨by rfl, ?_⟩) hHeld ?_
        rotate_left
        · intro w hSw
          (try dsimp only at hSw)
          go_simp
          try with_reducible rfl
        go_simp
        refine wpAnyH_take (i := 2) (v := ?_) rfl (by kernel_rfl) (by kernel_rfl) (by kernel_rfl) (fun _ _ _ h => h) (Or.inl ⟨by rfl, ?_⟩) hHeld ?_
        rotate_left
        · intro w hSw
          (try dsimp only at hSw)
          go_simp
          try with_reducible rfl
        go_simp
        refine wpAnyH_take (i := 3) (v := ?_) rfl (by kernel_rfl) (by kernel_rfl) (by kernel_rfl) (fun _ _ _ h => h) (Or.inl ⟨by rfl, ?_⟩) hHeld ?_
        rotate_left
        · intro w hSw
          (try dsimp only at hSw)
          go_simp
          try with_reducible rfl
        go_simp
        refine wpAnyH_take (i := 4) (v := ?_) rfl (by kernel_rfl) (by kernel_rfl) (by kernel_rfl) (fun _ _ _ h => h) (Or.inl ⟨by rfl, ?_⟩) hHeld ?_
        rotate_left
        · intro w hSw
          (try dsimp only at hSw)
          go_simp
          try with_reducible rfl
        go_simp
        refine wpAnyH_take (i := 6) (v := ?_) rfl (by kernel_rfl) (by kernel_rfl) (by kernel_rfl) (fun _ _ _ h => h) (Or.inl ⟨by rfl, ?_⟩) hHeld ?_
        rotate_left
        · intro w hSw
          (try dsimp only at hSw)
          go_simp
          try with_reducible rfl
        go_simp
        refine wpAnyH_take (i := 7) (v := ?_) rfl (by kernel_rfl) (by kernel_rfl) (by kernel_rfl) (fun _ _ _ h => h) (Or.inl ⟨by rfl, ?_⟩) hHeld ?_
        rotate_left
        · intro w hSw
          (try dsimp only at hSw)
          go_simp
          try with_reducible rfl
        go_simp
        refine wpAnyH_take (i := 11) (v := ?_) rfl (by kernel_rfl) (by kernel_rfl) (by kernel_rfl) (fun _ _ _ h => h) (Or.inl ⟨by rfl, ?_⟩) hHeld ?_
        rotate_left
        · intro w hSw
          (try dsimp only at hSw)
          go_simp
          try with_reducible rfl
        go_simp
        refine wpAnyH_take (i := 12) (v := ?_) rfl (by kernel_rfl) (by kernel_rfl) (by kernel_rfl) (fun _ _ _ h => h) (Or.inl ⟨by rfl, ?_⟩) hHeld ?_
        rotate_left
        · intro w hSw
          (try dsimp only at hSw)
          go_simp
          try with_reducible rfl
        go_simp
        refine wpAnyH_ready (rs := [5]) (by kernel_rfl) (by simp) ?_
        refine AllReadyH.cons rfl (fun K hK => ?_) ?_
        rotate_left
        · exact AllReadyH.nil
        go_simp
        go_wp2_with (first | (go_at_call 13; ((with_reducible refine (CS.out _ hW2).mono ?_); rintro e w8 ⟨bA, off, N, d8, rfl, hc8, hi8, hb8⟩); have hW2 := hW2.trans (hb8.mono hW2.size)) | (go_at_call 10; ((with_reducible refine (CW.out _).mono ?_); rintro e w9 ⟨rfl, hb9⟩); have hW2 := hW2.trans (hb9.mono hW2.size)))
        refine hK.out _ _ (MK.out _ hW2) (fun hHeld => ?_)
        clear hK K
        go_simp
        refine wpAnyH_take (i := 8) (v := ?_) rfl (by kernel_rfl) (by kernel_rfl) (by kernel_rfl) (fun _ _ _ h => h) (Or.inl ⟨by rfl, ?_⟩) hHeld ?_
        rotate_left
        · intro w hSw
          (try dsimp only at hSw)
          go_simp
          try with_reducible rfl
        go_simp
        refine wpAnyH_take (i := 9) (v := ?_) rfl (by kernel_rfl) (by kernel_rfl) (by kernel_rfl) (fun _ _ _ h => h) (Or.inl ⟨by rfl, ?_⟩) hHeld ?_
        rotate_left
        · intro w hSw
          (try dsimp only at hSw)
          go_simp
          try with_reducible rfl
        go_simp
        refine wpAnyH_ready (rs := [10]) (by kernel_rfl) (by simp) ?_
        refine AllReadyH.cons rfl (fun K hK => ?_) ?_
        rotate_left
        · exact AllReadyH.nil
        go_simp
        go_wp2_with (first | (go_at_call 13; ((with_reducible refine (CS.out _ hW2).mono ?_); rintro e w8 ⟨bA, off, N, d8, rfl, hc8, hi8, hb8⟩); have hW2 := hW2.trans (hb8.mono hW2.size)) | (go_at_call 10; ((with_reducible refine (CW.out _).mono ?_); rintro e w9 ⟨rfl, hb9⟩); have hW2 := hW2.trans (hb9.mono hW2.size)))
        refine hK.out _ _ (MK.out _ hW2) (fun hHeld => ?_)
        clear hK K
        go_simp
        refine wpAnyH_take (i := 13) (v := ?_) rfl (by kernel_rfl) (by kernel_rfl) (by kernel_rfl) (fun _ _ _ h => h) (Or.inl ⟨by rfl, ?_⟩) hHeld ?_
        rotate_left
        · intro w hSw
          (try dsimp only at hSw)
          go_simp
          try with_reducible rfl
        go_simp
        refine wpAnyH_take (i := 14) (v := ?_) rfl (by kernel_rfl) (by kernel_rfl) (by kernel_rfl) (fun _ _ _ h => h) (Or.inl ⟨by rfl, ?_⟩) hHeld ?_
        rotate_left
        · intro w hSw
          (try dsimp only at hSw)
          go_simp
          try with_reducible rfl
        go_simp
        refine wpAnyH_take (i := 15) (v := ?_) rfl (by kernel_rfl) (by kernel_rfl) (by kernel_rfl) (fun _ _ _ h => h) (Or.inl ⟨by rfl, ?_⟩) hHeld ?_
        rotate_left
        · intro w hSw
          (try dsimp only at hSw)
          go_simp
          try with_reducible rfl
        go_simp
        refine wpAnyH_take (i := 16) (v := ?_) rfl (by kernel_rfl) (by kernel_rfl) (by kernel_rfl) (fun _ _ _ h => h) (Or.inl ⟨by rfl, ?_⟩) hHeld ?_
        rotate_left
        · intro w hSw
          (try dsimp only at hSw)
          go_simp
          try with_reducible rfl
        go_simp
        refine wpAnyH_ready (rs := [17]) (by kernel_rfl) (by simp) ?_
        refine AllReadyH.cons rfl (fun K hK => ?_) ?_
        rotate_left
        · exact AllReadyH.nil
        go_simp
        go_wp2_with (first | (go_at_call 13; ((with_reducible refine (CS.out _ hW2).mono ?_); rintro e w8 ⟨bA, off, N, d8, rfl, hc8, hi8, hb8⟩); have hW2 := hW2.trans (hb8.mono hW2.size)) | (go_at_call 10; ((with_reducible refine (CW.out _).mono ?_); rintro e w9 ⟨rfl, hb9⟩); have hW2 := hW2.trans (hb9.mono hW2.size)))
        refine hK.out _ _ (MK.out _ hW2) (fun hHeld => ?_)
        clear hK K
        go_simp
        refine wpAnyH_take (i := 18) (v := ?_) rfl (by kernel_rfl) (by kernel_rfl) (by kernel_rfl) (fun _ _ _ h => h) (Or.inl ⟨by rfl, ?_⟩) hHeld ?_
        rotate_left
        · intro w hSw
          (try dsimp only at hSw)
          go_simp
          try with_reducible rfl
        go_simp
        refine wpAnyH_take (i := 19) (v := ?_) rfl (by kernel_rfl) (by kernel_rfl) (by kernel_rfl) (fun _ _ _ h => h) (Or.inl ⟨by rfl, ?_⟩) hHeld ?_
        rotate_left
        · intro w hSw
          (try dsimp only at hSw)
          go_simp
          try with_reducible rfl
        go_simp
        refine wpAnyH_done (by kernel_rfl) ?_ _
        refine NoPanic.normal ?_
        go_wp2
        go_ret
        exact ⟨rfl, AX.out _ hW2⟩
    · have HP5 := Lib.hid (RawAt.below HP2.out q5 (RawAt.lt HP2.out))
      have y0 := RawAt.cell HP5.out 0
      have y1 := RawAt.cell HP5.out 1
      simp at y0 y1
      have C2 := Lib.hid (lplace_any ((HR.out.below hb2).below q5) r k hk0 hk1)
      rw [HFl.out] at C2
      go_wp2_with fail
      refine C2.out.mono ?_
      rintro e w6 ⟨n, d, hpl, rfl, hb6⟩
      have q6 := q5.trans (hb6.mono q5.size)
      have a6 := a2.trans (q6.mono a2.size)
      have HP6 := Lib.hid (RawAt.below HP2.out q6 (RawAt.lt HP2.out))
      clear y0 y1 z0 z1 C2
      have y0 := RawAt.cell HP6.out 0
      have y1 := RawAt.cell HP6.out 1
      simp at y0 y1
      obtain ⟨ib, hib⟩ : ∃ ib : Bool, ib = true ↔ ∃ m, PlaceIs D r k m 0 := by
        by_cases hex : ∃ m, PlaceIs D r k m 0
        · exact ⟨true, fun _ => hex, fun _ => rfl⟩
        · exact ⟨false, fun h => absurd h (by decide), fun h => absurd h hex⟩
      have CI := Lib.hid (f8is A D.length c D w6 (HI.out.below q6) rfl (by omega) r k hk0 hk1 ib hib)
      go_wp2_with fail
      refine CI.out.mono ?_
      rintro e w7 ⟨rfl, hb7⟩
      have hpd := place_done hpl
      have q7 := q6.trans (hb7.mono q6.size)
      have a7 := a2.trans (q7.mono a2.size)
      clear y0 y1 CI
      cases ib
      · have hnn : n = 0 ∧ d = 1 := by
          rcases hpd with h | h
          · exact absurd (hib.2 ⟨n, by rw [h] at hpl; exact hpl⟩) (by decide)
          · exact h
        obtain ⟨rfl, rfl⟩ := hnn
        clear hpl hib hpd
        go_wp2_with fail
        refine (CW.out _).mono ?_
        rintro e w8 ⟨rfl, hb8⟩
        go_wp2_with fail
        go_ret
        exact ⟨rfl, a7.trans (hb8.mono a7.size)⟩
      · obtain ⟨m, hm⟩ := hib.1 rfl
        obtain ⟨rfl, rfl⟩ := hpl.unique hm
        clear hpl hib hpd
        obtain ⟨f0, t0, d0, hs, ⟨_, _, h3⟩ | ⟨_, _, _, h3⟩ | ⟨rfl, g1, g2, hn, _⟩⟩ := hm
        · exact absurd h3 (by decide)
        · exact absurd h3 (by decide)
        subst hn
        obtain ⟨s1, s2, s3⟩ := span_le hs
        obtain ⟨i, rfl⟩ : ∃ i : Nat, r = i := ⟨r.toNat, by omega⟩
        have hsb := span_bd hs
        have hw : IntKind.i64.wrap (f0 + k) = f0 + k := IntWalk.i64_in _ (by omega)
        have i0 : (0 : Int) ≤ (i : Int) := by omega
        have HP7 := Lib.hid (RawAt.below HP2.out q7 (RawAt.lt HP2.out))
        have CS := Lib.hid fun (W : World) (hW : Below w7.heap.size w7 W) => (f8spans A D.length c D W (HI.out.below (q7.trans (hW.mono q7.size))) rfl (by omega)).mono fun e w' ⟨B, d, o, he, ho, hB, hC, hb⟩ => (by
          have hol := ho.len
          obtain ⟨bA, off, rfl, hbA, hcell⟩ := hB (by omega)
          have h9 := ho.at_ i (by omega)
          obtain ⟨h8, _, _⟩ := h9.unique hs
          have h7 := (hcell i (by omega)).1
          rw [h8] at h7
          exact ⟨bA, off, o.length, d, he, h7, by omega, hb⟩ : ∃ bA off N d, e = Ending.returned (.slice (some ⟨bA, off, none⟩) N d) ∧ w'.cell? ⟨bA, off + i * 2, none⟩ = some (Value.int .i64 f0) ∧ (i : Int) < (N : Int) ∧ Below W.heap.size W w')
        have AX := Lib.hid fun (W : World) (hW : Below w7.heap.size w7 W) => (a7.trans (hW.mono a7.size))
        have MK : Hid (∀ W : World, Below w7.heap.size w7 W → (fun W => W.cell? ⟨pb, 0, none⟩ = some (.int .i64 (i : Int)) ∧ W.cell? ⟨pb, 1, none⟩ = some (.int .i64 k) ∧ Below w7.heap.size w7 W) W) := fun W hW => ⟨RawAt.cell (RawAt.below HP7.out hW (RawAt.lt HP7.out)) 0, RawAt.cell (RawAt.below HP7.out hW (RawAt.lt HP7.out)) 1, hW⟩
        have hW2 : Below w7.heap.size w7 w7.drew := (Below.refl _ _).drew
        clear hs
        go_wp2_with fail
        refine wp_region_noPanic ?_
        refine wp_region_held_drew (S := (fun W => W.cell? ⟨pb, 0, none⟩ = some (.int .i64 (i : Int)) ∧ W.cell? ⟨pb, 1, none⟩ = some (.int .i64 k) ∧ Below w7.heap.size w7 W)) (by kernel_rfl) (MK.out _ hW2) (fun hHeld => ?_)
        refine wpAnyH_take (i := 0) (v := ?_) rfl (by kernel_rfl) (by kernel_rfl) (by kernel_rfl) (fun _ _ _ h => h) (Or.inl ⟨by rfl, ?_⟩) hHeld ?_
        rotate_left
        · intro w hSw
          (try dsimp only at hSw)
          go_simp
          try with_reducible rfl
        go_simp
        refine wpAnyH_take (i := 1) (v := ?_) rfl (by kernel_rfl) (by kernel_rfl) (by kernel_rfl) (fun _ _ _ h => h) (Or.inl ⟨by rfl, ?_⟩) hHeld ?_
        rotate_left
        · intro w hSw
          (try dsimp only at hSw)
          go_simp
          try with_reducible rfl
        go_simp
        refine wpAnyH_take (i := 2) (v := ?_) rfl (by kernel_rfl) (by kernel_rfl) (by kernel_rfl) (fun _ _ _ h => h) (Or.inl ⟨by rfl, ?_⟩) hHeld ?_
        rotate_left
        · intro w hSw
          (try dsimp only at hSw)
          go_simp
          try with_reducible rfl
        go_simp
        refine wpAnyH_take (i := 3) (v := ?_) rfl (by kernel_rfl) (by kernel_rfl) (by kernel_rfl) (fun _ _ _ h => h) (Or.inl ⟨by rfl, ?_⟩) hHeld ?_
        rotate_left
        · intro w hSw
          (try dsimp only at hSw)
          go_simp
          try with_reducible rfl
        go_simp
        refine wpAnyH_take (i := 4) (v := ?_) rfl (by kernel_rfl) (by kernel_rfl) (by kernel_rfl) (fun _ _ _ h => h) (Or.inl ⟨by rfl, ?_⟩) hHeld ?_
        rotate_left
        · intro w hSw
          (try dsimp only at hSw)
          go_simp
          try with_reducible rfl
        go_simp
        refine wpAnyH_take (i := 6) (v := ?_) rfl (by kernel_rfl) (by kernel_rfl) (by kernel_rfl) (fun _ _ _ h => h) (Or.inl ⟨by rfl, ?_⟩) hHeld ?_
        rotate_left
        · intro w hSw
          (try dsimp only at hSw)
          go_simp
          try with_reducible rfl
        go_simp
        refine wpAnyH_take (i := 7) (v := ?_) rfl (by kernel_rfl) (by kernel_rfl) (by kernel_rfl) (fun _ _ _ h => h) (Or.inl ⟨by rfl, ?_⟩) hHeld ?_
        rotate_left
        · intro w hSw
          (try dsimp only at hSw)
          go_simp
          try with_reducible rfl
        go_simp
        refine wpAnyH_take (i := 11) (v := ?_) rfl (by kernel_rfl) (by kernel_rfl) (by kernel_rfl) (fun _ _ _ h => h) (Or.inl ⟨by rfl, ?_⟩) hHeld ?_
        rotate_left
        · intro w hSw
          (try dsimp only at hSw)
          go_simp
          try with_reducible rfl
        go_simp
        refine wpAnyH_take (i := 12) (v := ?_) rfl (by kernel_rfl) (by kernel_rfl) (by kernel_rfl) (fun _ _ _ h => h) (Or.inl ⟨by rfl, ?_⟩) hHeld ?_
        rotate_left
        · intro w hSw
          (try dsimp only at hSw)
          go_simp
          try with_reducible rfl
        go_simp
        refine wpAnyH_ready (rs := [5]) (by kernel_rfl) (by simp) ?_
        refine AllReadyH.cons rfl (fun K hK => ?_) ?_
        rotate_left
        · exact AllReadyH.nil
        go_simp
        go_wp2_with (first | (go_at_call 13; ((with_reducible refine (CS.out _ hW2).mono ?_); rintro e w8 ⟨bA, off, N, d8, rfl, hc8, hi8, hb8⟩); have hW2 := hW2.trans (hb8.mono hW2.size)) | (go_at_call 10; ((with_reducible refine (CW.out _).mono ?_); rintro e w9 ⟨rfl, hb9⟩); have hW2 := hW2.trans (hb9.mono hW2.size)))
        refine hK.out _ _ (MK.out _ hW2) (fun hHeld => ?_)
        clear hK K
        go_simp
        refine wpAnyH_take (i := 8) (v := ?_) rfl (by kernel_rfl) (by kernel_rfl) (by kernel_rfl) (fun _ _ _ h => h) (Or.inl ⟨by rfl, ?_⟩) hHeld ?_
        rotate_left
        · intro w hSw
          (try dsimp only at hSw)
          go_simp
          try with_reducible rfl
        go_simp
        refine wpAnyH_take (i := 9) (v := ?_) rfl (by kernel_rfl) (by kernel_rfl) (by kernel_rfl) (fun _ _ _ h => h) (Or.inl ⟨by rfl, ?_⟩) hHeld ?_
        rotate_left
        · intro w hSw
          (try dsimp only at hSw)
          go_simp
          try with_reducible rfl
        go_simp
        refine wpAnyH_ready (rs := [10]) (by kernel_rfl) (by simp) ?_
        refine AllReadyH.cons rfl (fun K hK => ?_) ?_
        rotate_left
        · exact AllReadyH.nil
        go_simp
        go_wp2_with (first | (go_at_call 13; ((with_reducible refine (CS.out _ hW2).mono ?_); rintro e w8 ⟨bA, off, N, d8, rfl, hc8, hi8, hb8⟩); have hW2 := hW2.trans (hb8.mono hW2.size)) | (go_at_call 10; ((with_reducible refine (CW.out _).mono ?_); rintro e w9 ⟨rfl, hb9⟩); have hW2 := hW2.trans (hb9.mono hW2.size)))
        refine hK.out _ _ (MK.out _ hW2) (fun hHeld => ?_)
        clear hK K
        go_simp
        refine wpAnyH_take (i := 13) (v := ?_) rfl (by kernel_rfl) (by kernel_rfl) (by kernel_rfl) (fun _ _ _ h => h) (Or.inl ⟨by rfl, ?_⟩) hHeld ?_
        rotate_left
        · intro w hSw
          (try dsimp only at hSw)
          go_simp
          try with_reducible rfl
        go_simp
        refine wpAnyH_take (i := 14) (v := ?_) rfl (by kernel_rfl) (by kernel_rfl) (by kernel_rfl) (fun _ _ _ h => h) (Or.inl ⟨by rfl, ?_⟩) hHeld ?_
        rotate_left
        · intro w hSw
          (try dsimp only at hSw)
          go_simp
          try with_reducible rfl
        go_simp
        refine wpAnyH_take (i := 15) (v := ?_) rfl (by kernel_rfl) (by kernel_rfl) (by kernel_rfl) (fun _ _ _ h => h) (Or.inl ⟨by rfl, ?_⟩) hHeld ?_
        rotate_left
        · intro w hSw
          (try dsimp only at hSw)
          go_simp
          try with_reducible rfl
        go_simp
        refine wpAnyH_take (i := 16) (v := ?_) rfl (by kernel_rfl) (by kernel_rfl) (by kernel_rfl) (fun _ _ _ h => h) (Or.inl ⟨by rfl, ?_⟩) hHeld ?_
        rotate_left
        · intro w hSw
          (try dsimp only at hSw)
          go_simp
          try with_reducible rfl
        go_simp
        refine wpAnyH_ready (rs := [17]) (by kernel_rfl) (by simp) ?_
        refine AllReadyH.cons rfl (fun K hK => ?_) ?_
        rotate_left
        · exact AllReadyH.nil
        go_simp
        go_wp2_with (first | (go_at_call 13; ((with_reducible refine (CS.out _ hW2).mono ?_); rintro e w8 ⟨bA, off, N, d8, rfl, hc8, hi8, hb8⟩); have hW2 := hW2.trans (hb8.mono hW2.size)) | (go_at_call 10; ((with_reducible refine (CW.out _).mono ?_); rintro e w9 ⟨rfl, hb9⟩); have hW2 := hW2.trans (hb9.mono hW2.size)))
        refine hK.out _ _ (MK.out _ hW2) (fun hHeld => ?_)
        clear hK K
        go_simp
        refine wpAnyH_take (i := 18) (v := ?_) rfl (by kernel_rfl) (by kernel_rfl) (by kernel_rfl) (fun _ _ _ h => h) (Or.inl ⟨by rfl, ?_⟩) hHeld ?_
        rotate_left
        · intro w hSw
          (try dsimp only at hSw)
          go_simp
          try with_reducible rfl
        go_simp
        refine wpAnyH_take (i := 19) (v := ?_) rfl (by kernel_rfl) (by kernel_rfl) (by kernel_rfl) (fun _ _ _ h => h) (Or.inl ⟨by rfl, ?_⟩) hHeld ?_
        rotate_left
        · intro w hSw
          (try dsimp only at hSw)
          go_simp
          try with_reducible rfl
        go_simp
        refine wpAnyH_done (by kernel_rfl) ?_ _
        refine NoPanic.normal ?_
        go_wp2
        go_ret
        exact ⟨rfl, AX.out _ hW2⟩
end Go.Proofs.YtglalmhpgdgeeaaGreat
