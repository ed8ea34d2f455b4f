/- The law LinesSpans. -/
import Derived.Test.YtglalmhpgdgeeaaGreatLnA
import Derived.Test.YtglalmhpgdgeeaaGreatRef8
import Derived.Test.YtglalmhpgdgeeaaGreatRDec
namespace Go.Proofs.YtglalmhpgdgeeaaGreat
open Go.RowKit
set_option maxHeartbeats 8000000 in
set_option maxRecDepth 100000 in
theorem linesSpans_walk (s : ByteArray) (row : Int) (w : World) (_hs : s.size ≤ maxLen) (_hr : Lit.wf (.int .i64 row)) : Calls Tryz.prog 3 #[.string s, .int .i64 row] w fun e w' => e = .returned (.bool true) ∧ Below w.heap.size w w' := by
  clear _hr
  have CW := Lib.hid fun W => two_any W
  by_cases hl : 1500 < s.size
  · go_enter Tryz.func3, Tryz.ntmps3
    go_wp2_with fail
    refine (CW.out _).mono ?_
    rintro e w1 ⟨rfl, hb1⟩
    go_wp2_with fail
    go_ret
    exact ⟨rfl, hb1⟩
  have hsl : s.size ≤ 1500 := by omega
  have hdl := dec_len s
  have CN := Lib.hid (rnew_any s w (by omega) (by omega))
  have CD := Lib.hid fun W => rdecode_any s W (by omega)
  obtain ⟨D, hD⟩ : ∃ D, D = dec s := ⟨_, rfl⟩
  have HD := Lib.hid hD
  rw [← hD] at CD CN hdl
  clear hl hD
  have hDl : D.length ≤ 1500 := by omega
  go_enter Tryz.func3, Tryz.ntmps3
  go_wp2_with fail
  refine CN.out.mono ?_
  rintro e w1 ⟨b0, ps, h, rfl, hR, hf, hb1⟩
  have HR := Lib.hid hR
  have HFl := Lib.hid hf
  clear hR hf
  go_wp2_with fail
  refine (CD.out _).mono ?_
  rintro e w2 ⟨A, c, rfl, hb2, hI, hC⟩
  have HI := Lib.hid hI
  have HC := Lib.hid hC
  clear hI hC
  have a2 := hb1.trans (hb2.mono hb1.size)
  have CS := Lib.hid (f8spans A D.length c D w2 HI.out rfl (by omega))
  go_wp2_with fail
  refine CS.out.mono ?_
  rintro e w3 ⟨B, d, o, rfl, ho, hB, _, hb3⟩
  have HO := Lib.hid ho
  have HB := Lib.hid hB
  have q3 := hb3
  have C1 := Lib.hid (lspan_any ((HR.out.below hb2).below hb3) row)
  rw [HFl.out] at C1
  clear ho hB CS CN CD
  go_wp2_with fail
  refine C1.out.mono ?_
  rintro e w4 ⟨f, t, d1, hs, rfl, hb4⟩
  have q4 := q3.trans (hb4.mono q3.size)
  have x5 : Below w4.heap.size w4 (w4.alloc (.cells #[.int .i64 f, .int .i64 t] 32)) := (Below.refl _ _).alloc (Nat.le_refl _) _
  have R5 : RawAt 32 (w4.alloc (.cells #[.int .i64 f, .int .i64 t] 32)) w4.heap.size #[.int .i64 f, .int .i64 t] := heap_alloc_new w4 _
  have HR5 := Lib.hid R5
  have q5 := q4.trans (x5.mono q4.size)
  clear R5 C1
  obtain ⟨xb, hxb⟩ : ∃ xb, xb = w4.heap.size := ⟨_, rfl⟩
  rw [← hxb] at HR5
  have HXB := Lib.hid hxb
  clear hxb
  have C2 := Lib.hid (ltext_any ((HR.out.below hb2).below q5) row)
  rw [HFl.out] at C2
  go_wp2_with fail
  rw [← HXB.out]
  refine C2.out.mono ?_
  rintro e w6 ⟨f', t', d2, hs', hor, hb6⟩
  obtain ⟨e1, e2, e3⟩ := hs'.unique hs
  subst e1 e2 e3
  have q6 := q5.trans (hb6.mono q5.size)
  have hol := HO.out.len
  have CR := Lib.hid (by have := lrows_any ((HR.out.below hb2).below q6); rwa [HFl.out, ← hol] at this : Calls Tryz.prog 16 #[.pointer (some ⟨b0, 0, none⟩)] w6 fun e w' => e = .returned (.int .i64 (o.length : Int)) ∧ Below w6.heap.size w6 w')
  clear C2 hs'
  have HR6 := Lib.hid (RawAt.below HR5.out hb6 (RawAt.lt HR5.out))
  rcases hor with ⟨rfl, rfl⟩ | ⟨rfl, rfl⟩
  · obtain ⟨s1, s2, s3⟩ := span_le hs
    have hsb := span_bd hs
    obtain ⟨i, rfl⟩ : ∃ i : Nat, row = i := ⟨row.toNat, by omega⟩
    have hio : i < o.length := by omega
    have ho2 := HO.out.at_ i hio
    obtain ⟨u1, u2, _⟩ := ho2.unique hs
    have q36 : Below w3.heap.size w3 w6 := (hb4.trans (x5.mono hb4.size)).trans (hb6.mono (hb4.trans (x5.mono hb4.size)).size)
    have hop : 0 < o.length := by omega
    obtain ⟨bA, off, hBA, hbA, hcell⟩ := (HB.out.below q36) hop
    obtain ⟨c0, c1⟩ := hcell i hio
    rw [u1] at c0
    rw [u2] at c1
    subst hBA
    obtain ⟨a, rfl⟩ : ∃ a : Nat, f' = a := ⟨f'.toNat, by omega⟩
    obtain ⟨m, rfl⟩ : ∃ m : Nat, t' = (a : Int) + (m : Int) := ⟨(t' - a).toNat, by omega⟩
    have hc1 := HC.out.1
    have htx : txt ((D.take ((a : Int) + (m : Int)).toNat).drop (a : Int).toNat) = txt ((D.drop a).take m) := by
      rw [show ((a : Int) + (m : Int)).toNat = a + m from by omega, Int.toNat_natCast, List.drop_take, Nat.add_sub_cancel_left]
    rw [htx]
    obtain ⟨i0_, hi0, hz0, hz1, hz2⟩ := info_parts i32_info
    have hs := fun W => cut_both (P := Tryz.prog) Tryz.underlying27 hi0 (by kernel_rfl) A D.length c a m (by omega) W
    have CE := Lib.hid fun (W : World) (hW : Below w6.heap.size w6 W) => (by
      have := rencode_any (cutA A c a) m (c - a) ((D.drop a).take m) W ((HI.out.below (q6.trans (hW.mono q6.size))).cut rfl hc1 a m (by omega)) (by rw [List.length_take, List.length_drop]; omega) (by omega)
      exact this : Calls Tryz.prog 17 #[.slice (cutA A c a) m (c - a)] W fun e w' => e = .returned (.string (txt ((D.drop a).take m))) ∧ Below W.heap.size W w')
    generalize txt ((D.drop a).take m) = tl at *
    generalize cutA A c a = cA at *
    have i0 : (0 : Int) ≤ (i : Int) := by omega
    have i1 : (i : Int) < (o.length : Int) := by omega
    have j0 : decide ((i : Int) < 0) = false := decide_eq_false (by omega)
    have j1 : decide ((o.length : Int) ≤ (i : Int)) = false := decide_eq_false (by omega)
    clear hcell ho2 u1 u2 hol htx
    generalize o.length = N at *
    go_wp2_with fail
    refine CR.out.mono ?_
    rintro e w7 ⟨rfl, hb7⟩
    have q7 := q6.trans (hb7.mono q6.size)
    have HR7 := Lib.hid (RawAt.below HR6.out hb7 (RawAt.lt HR6.out))
    have v0 := ((old_cells hb7).1 _ _ hbA).trans c0
    have v1 := ((old_cells hb7).1 _ _ hbA).trans c1
    have hbA7 : bA < w7.heap.size := Nat.lt_of_lt_of_le hbA hb7.size
    have AX := Lib.hid fun (W : World) (hW : Below w7.heap.size w7 W) => a2.trans ((q7.trans (hW.mono q7.size)).mono a2.size)
    have CE7 := Lib.hid fun (W : World) (hW : Below w7.heap.size w7 W) => CE.out W (hb7.trans (hW.mono hb7.size))
    have MK : Hid (∀ W : World, Below w7.heap.size w7 W → (fun W => W.cell? ⟨xb, 0, none⟩ = some (.int .i64 (a : Int)) ∧ W.cell? ⟨xb, 1, none⟩ = some (.int .i64 ((a : Int) + (m : Int))) ∧ W.cell? ⟨bA, off + i * 2, none⟩ = some (.int .i64 (a : Int)) ∧ W.cell? ⟨bA, off + i * 2 + 1, none⟩ = some (.int .i64 ((a : Int) + (m : Int))) ∧ Below w7.heap.size w7 W) W) := fun W hW => ⟨RawAt.cell (RawAt.below HR7.out hW (RawAt.lt HR7.out)) 0, RawAt.cell (RawAt.below HR7.out hW (RawAt.lt HR7.out)) 1, ((old_cells hW).1 _ _ hbA7).trans v0, ((old_cells hW).1 _ _ hbA7).trans v1, hW⟩
    have hW2 : Below w7.heap.size w7 w7.drew := (Below.refl _ _).drew
    clear CE c0 c1 v0 v1
    go_wp2_with fail
    refine wp_region_noPanic ?_
    refine wp_region_held_drew (S := (fun W => W.cell? ⟨xb, 0, none⟩ = some (.int .i64 (a : Int)) ∧ W.cell? ⟨xb, 1, none⟩ = some (.int .i64 ((a : Int) + (m : Int))) ∧ W.cell? ⟨bA, off + i * 2, none⟩ = some (.int .i64 (a : Int)) ∧ W.cell? ⟨bA, off + i * 2 + 1, none⟩ = some (.int .i64 ((a : Int) + (m : Int))) ∧ Below w7.heap.size w7 W)) (by kernel_rfl) (MK.out _ hW2) (fun hHeld => ?_)
    refine wpAnyH_take (i := 0) (v := ?_) rfl (by kernel_rfl) (by kernel_rfl) (by kernel_rfl) (fun _ _ _ h => h) (Or.inl ⟨by rfl, ?_⟩) hHeld ?_
    rotate_left
    · intro w hSw
      (try dsimp only at hSw)
      go_simp
      try with_reducible rfl
    go_simp
    refine wpAnyH_take (i := 1) (v := ?_) rfl (by kernel_rfl) (by kernel_rfl) (by kernel_rfl) (fun _ _ _ h => h) (Or.inl ⟨by rfl, ?_⟩) hHeld ?_
    rotate_left
    · intro w hSw
      (try dsimp only at hSw)
      go_simp
      try with_reducible rfl
    go_simp
    refine wpAnyH_take (i := 2) (v := ?_) rfl (by kernel_rfl) (by kernel_rfl) (by kernel_rfl) (fun _ _ _ h => h) (Or.inl ⟨by rfl, ?_⟩) hHeld ?_
    rotate_left
    · intro w hSw
      (try dsimp only at hSw)
      go_simp
      try with_reducible rfl
    go_simp
    refine wpAnyH_take (i := 3) (v := ?_) rfl (by kernel_rfl) (by kernel_rfl) (by kernel_rfl) (fun _ _ _ h => h) (Or.inl ⟨by rfl, ?_⟩) hHeld ?_
    rotate_left
    · intro w hSw
      (try dsimp only at hSw)
      go_simp
      try with_reducible rfl
    go_simp
    refine wpAnyH_take (i := 4) (v := ?_) rfl (by kernel_rfl) (by kernel_rfl) (by kernel_rfl) (fun _ _ _ h => h) (Or.inl ⟨by rfl, ?_⟩) hHeld ?_
    rotate_left
    · intro w hSw
      (try dsimp only at hSw)
      go_simp
      try with_reducible rfl
    go_simp
    refine wpAnyH_take (i := 5) (v := ?_) rfl (by kernel_rfl) (by kernel_rfl) (by kernel_rfl) (fun _ _ _ h => h) (Or.inl ⟨by rfl, ?_⟩) hHeld ?_
    rotate_left
    · intro w hSw
      (try dsimp only at hSw)
      go_simp
      try with_reducible rfl
    go_simp
    refine wpAnyH_take (i := 6) (v := ?_) rfl (by kernel_rfl) (by kernel_rfl) (by kernel_rfl) (fun _ _ _ h => h) (Or.inl ⟨by rfl, ?_⟩) hHeld ?_
    rotate_left
    · intro w hSw
      (try dsimp only at hSw)
      go_simp
      try with_reducible rfl
    go_simp
    refine wpAnyH_take (i := 7) (v := ?_) rfl (by kernel_rfl) (by kernel_rfl) (by kernel_rfl) (fun _ _ _ h => h) (Or.inl ⟨by rfl, ?_⟩) hHeld ?_
    rotate_left
    · intro w hSw
      (try dsimp only at hSw)
      go_simp
      try with_reducible rfl
    go_simp
    refine wpAnyH_take (i := 8) (v := ?_) rfl (by kernel_rfl) (by kernel_rfl) (by kernel_rfl) (fun _ _ _ h => h) (Or.inl ⟨by rfl, ?_⟩) hHeld ?_
    rotate_left
    · intro w hSw
      (try dsimp only at hSw)
      go_simp
      try with_reducible rfl
    go_simp
    refine wpAnyH_take (i := 9) (v := ?_) rfl (by kernel_rfl) (by kernel_rfl) (by kernel_rfl) (fun _ _ _ h => h) (Or.inl ⟨by rfl, ?_⟩) hHeld ?_
    rotate_left
    · intro w hSw
      (try dsimp only at hSw)
      go_simp
      try with_reducible rfl
    go_simp
    refine wpAnyH_take (i := 10) (v := ?_) rfl (by kernel_rfl) (by kernel_rfl) (by kernel_rfl) (fun _ _ _ h => h) (Or.inl ⟨by rfl, ?_⟩) hHeld ?_
    rotate_left
    · intro w hSw
      (try dsimp only at hSw)
      go_simp
      try with_reducible rfl
    go_simp
    refine wpAnyH_take (i := 11) (v := ?_) rfl (by kernel_rfl) (by kernel_rfl) (by kernel_rfl) (fun _ _ _ h => h) (Or.inl ⟨by rfl, ?_⟩) hHeld ?_
    rotate_left
    · intro w hSw
      (try dsimp only at hSw)
      go_simp
      try with_reducible rfl
    go_simp
    refine wpAnyH_take (i := 12) (v := ?_) rfl (by kernel_rfl) (by kernel_rfl) (by kernel_rfl) (fun _ _ _ h => h) (Or.inl ⟨by rfl, ?_⟩) hHeld ?_
    rotate_left
    · intro w hSw
      (try dsimp only at hSw)
      go_simp
      try with_reducible rfl
    go_simp
    refine wpAnyH_take (i := 13) (v := ?_) rfl (by kernel_rfl) (by kernel_rfl) (by kernel_rfl) (fun _ _ _ h => h) (Or.inl ⟨by rfl, ?_⟩) hHeld ?_
    rotate_left
    · intro w hSw
      (try dsimp only at hSw)
      go_simp
      try with_reducible rfl
    go_simp
    refine wpAnyH_take (i := 14) (v := ?_) rfl (by kernel_rfl) (by kernel_rfl) (by kernel_rfl) (fun _ _ _ h => h) (Or.inl ⟨by rfl, ?_⟩) hHeld ?_
    rotate_left
    · intro w hSw
      (try dsimp only at hSw)
      go_simp
      try with_reducible rfl
    go_simp
    refine wpAnyH_take (i := 15) (v := ?_) rfl (by kernel_rfl) (by kernel_rfl) (by kernel_rfl) (fun _ _ _ h => h) (Or.inl ⟨by rfl, ?_⟩) hHeld ?_
    rotate_left
    · intro w hSw
      (try dsimp only at hSw)
      go_simp
      try with_reducible rfl
    go_simp
    refine wpAnyH_take (i := 16) (v := ?_) rfl (by kernel_rfl) (by kernel_rfl) (by kernel_rfl) (fun _ _ _ h => h) (Or.inl ⟨by rfl, ?_⟩) hHeld ?_
    rotate_left
    · intro w hSw
      (try dsimp only at hSw)
      go_simp
      try with_reducible rfl
    go_simp
    refine wpAnyH_take (i := 17) (v := ?_) rfl (by kernel_rfl) (by kernel_rfl) (by kernel_rfl) (fun _ _ _ h => h) (Or.inl ⟨by rfl, ?_⟩) hHeld ?_
    rotate_left
    · intro w hSw
      (try dsimp only at hSw)
      go_simp
      try with_reducible rfl
    go_simp
    refine wpAnyH_take (i := 18) (v := ?_) rfl (by kernel_rfl) (by kernel_rfl) (by kernel_rfl) (fun _ _ _ h => h) (Or.inl ⟨by rfl, ?_⟩) hHeld ?_
    rotate_left
    · intro w hSw
      (try dsimp only at hSw)
      go_simp
      try with_reducible rfl
    go_simp
    refine wpAnyH_take (i := 19) (v := ?_) rfl (by kernel_rfl) (by kernel_rfl) (by kernel_rfl) (fun _ _ _ h => h) (Or.inl ⟨by rfl, ?_⟩) hHeld ?_
    rotate_left
    · intro w hSw
      (try dsimp only at hSw)
      go_simp
      try with_reducible rfl
    go_simp
    refine wpAnyH_take (i := 20) (v := ?_) rfl (by kernel_rfl) (by kernel_rfl) (by kernel_rfl) (fun _ _ _ h => h) (Or.inl ⟨by rfl, ?_⟩) hHeld ?_
    rotate_left
    · intro w hSw
      (try dsimp only at hSw)
      go_simp
      try with_reducible rfl
    go_simp
    refine wpAnyH_take (i := 21) (v := ?_) rfl (by kernel_rfl) (by kernel_rfl) (by kernel_rfl) (fun _ _ _ h => h) (Or.inl ⟨by rfl, ?_⟩) hHeld ?_
    rotate_left
    · intro w hSw
      (try dsimp only at hSw)
      go_simp
      try with_reducible rfl
    go_simp
    refine wpAnyH_ready (rs := [22]) (by kernel_rfl) (by simp) ?_
    refine AllReadyH.cons rfl (fun K hK => ?_) ?_
    rotate_left
    · exact AllReadyH.nil
    go_simp
    go_wp2_with (first | (go_at_call 17; ((with_reducible refine (CE7.out _ hW2).mono ?_); rintro e w8 ⟨rfl, hb8⟩); have hW2 := hW2.trans (hb8.mono hW2.size)) | (go_at_call 10; ((with_reducible refine (CW.out _).mono ?_); rintro e w9 ⟨rfl, hb9⟩); have hW2 := hW2.trans (hb9.mono hW2.size)))
    refine hK.out _ _ (MK.out _ hW2) (fun hHeld => ?_)
    clear hK K
    go_simp
    refine wpAnyH_take (i := 23) (v := ?_) rfl (by kernel_rfl) (by kernel_rfl) (by kernel_rfl) (fun _ _ _ h => h) (Or.inl ⟨by rfl, ?_⟩) hHeld ?_
    rotate_left
    · intro w hSw
      (try dsimp only at hSw)
      go_simp
      try with_reducible rfl
    go_simp
    refine wpAnyH_take (i := 24) (v := ?_) rfl (by kernel_rfl) (by kernel_rfl) (by kernel_rfl) (fun _ _ _ h => h) (Or.inl ⟨by rfl, ?_⟩) hHeld ?_
    rotate_left
    · intro w hSw
      (try dsimp only at hSw)
      go_simp
      try with_reducible rfl
    go_simp
    refine wpAnyH_take (i := 25) (v := ?_) rfl (by kernel_rfl) (by kernel_rfl) (by kernel_rfl) (fun _ _ _ h => h) (Or.inl ⟨by rfl, ?_⟩) hHeld ?_
    rotate_left
    · intro w hSw
      (try dsimp only at hSw)
      go_simp
      try with_reducible rfl
    go_simp
    refine wpAnyH_ready (rs := [26]) (by kernel_rfl) (by simp) ?_
    refine AllReadyH.cons rfl (fun K hK => ?_) ?_
    rotate_left
    · exact AllReadyH.nil
    go_simp
    go_wp2_with (first | (go_at_call 17; ((with_reducible refine (CE7.out _ hW2).mono ?_); rintro e w8 ⟨rfl, hb8⟩); have hW2 := hW2.trans (hb8.mono hW2.size)) | (go_at_call 10; ((with_reducible refine (CW.out _).mono ?_); rintro e w9 ⟨rfl, hb9⟩); have hW2 := hW2.trans (hb9.mono hW2.size)))
    refine hK.out _ _ (MK.out _ hW2) (fun hHeld => ?_)
    clear hK K
    go_simp
    refine wpAnyH_take (i := 27) (v := ?_) rfl (by kernel_rfl) (by kernel_rfl) (by kernel_rfl) (fun _ _ _ h => h) (Or.inl ⟨by rfl, ?_⟩) hHeld ?_
    rotate_left
    · intro w hSw
      (try dsimp only at hSw)
      go_simp
      try with_reducible rfl
    go_simp
    refine wpAnyH_take (i := 28) (v := ?_) rfl (by kernel_rfl) (by kernel_rfl) (by kernel_rfl) (fun _ _ _ h => h) (Or.inl ⟨by rfl, ?_⟩) hHeld ?_
    rotate_left
    · intro w hSw
      (try dsimp only at hSw)
      go_simp
      try with_reducible rfl
    go_simp
    refine wpAnyH_done (by kernel_rfl) ?_ _
    refine NoPanic.normal ?_
    go_wp2
    go_ret
    exact ⟨rfl, AX.out _ hW2⟩
  · have hz : f' = 0 ∧ t' = 0 ∧ ¬ (0 ≤ row ∧ row ≤ brks D) := by
      rcases hs with ⟨h1, h2, h3, _⟩ | ⟨_, _, h3, _⟩
      · exact ⟨h2, h3, h1⟩
      · exact absurd h3 (by decide)
    obtain ⟨rfl, rfl, hno⟩ := hz
    have hor : decide (row < 0) = true ∨ (decide (row < 0) = false ∧ decide ((o.length : Int) ≤ row) = true) := by
      simp only [decide_eq_true_eq, decide_eq_false_iff_not]; omega
    clear hno hol hs
    generalize o.length = N at *
    rcases hor with hlt | ⟨hlt, hge⟩
    all_goals
      go_wp2_with fail
      refine CR.out.mono ?_
      rintro e w7 ⟨rfl, hb7⟩
      have q7 := q6.trans (hb7.mono q6.size)
      have a7 := a2.trans (q7.mono a2.size)
      have HR7 := Lib.hid (RawAt.below HR6.out hb7 (RawAt.lt HR6.out))
      have y0 := RawAt.cell HR7.out 0
      have y1 := RawAt.cell HR7.out 1
      simp at y0 y1
      go_wp2_with fail
      refine (CW.out _).mono ?_
      rintro e w8 ⟨rfl, hb8⟩
      go_wp2_with fail
      go_ret
      exact ⟨rfl, a7.trans (hb8.mono a7.size)⟩
end Go.Proofs.YtglalmhpgdgeeaaGreat
