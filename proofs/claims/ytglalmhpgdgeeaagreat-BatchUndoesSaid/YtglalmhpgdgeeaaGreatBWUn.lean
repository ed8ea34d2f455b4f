/- The law BatchUndoes. -/
import Derived.Test.YtglalmhpgdgeeaaGreatBWApp
namespace Go.Proofs.YtglalmhpgdgeeaaGreat
open Go.RowKit
theorem einv_size {r : List Int} : ∀ {s : Int} {l : List E3}, ∀ e ∈ einv r s l, e.x.size ≤ 4 * r.length
  | _, [], _, h => absurd h List.not_mem_nil
  | s, x :: l, e, h => by
    rw [einv_cons] at h
    rcases List.mem_cons.1 h with rfl | h
    · show (txt _).size ≤ _
      rw [txt_size]
      have h1 := encAll_len ((r.take x.t.toNat).drop x.f.toNat)
      rw [List.length_drop, List.length_take] at h1
      omega
    · exact einv_size e h
theorem undo_flt {D : List Int} {l : List E3} (hc : Cln D) (hE : ERis D.length 0 l) (hm : l.length ≤ 64) (hD : D.length ≤ 20000) : bflt (eput D l).length (einv D 0 l) = 0 := by
  obtain ⟨h1, h2, h3⟩ := undo_batch hc hE
  have h4 := eput_len (Nat.zero_le _) h1
  rw [h2] at h4
  have h5 : bchk (eput D l).length (einv D 0 l) = 0 := by
    unfold bchk; rw [if_neg (by rw [einv_len]; omega)]; exact echk_ris.2 h1
  unfold bflt
  rw [if_pos h5, if_neg (by omega)]
set_option maxHeartbeats 8000000 in
set_option maxRecDepth 100000 in
theorem batchUndoes_walk (s : ByteArray) (A : Option Addr) (m c : Nat) (l : List E3) (w : World) (_hs : s.size ≤ maxLen) (hA : EdsAt w A l) (hl : l.length = m) (_hn : m ≤ maxLen) (_hc : Caps A m c) :
    Calls Tryz.prog 7 #[.string s, .slice A m c] w fun e w' => e = .returned (.bool true) ∧ Below w.heap.size w w' := by
  have CW := Lib.hid fun W => axyczd_any W
  by_cases hlong : LongP s.size l
  · have CL := Lib.hid (blong_any s A m c l w hA hl true ⟨fun _ => hlong, fun _ => rfl⟩)
    go_enter Tryz.func7, Tryz.ntmps7
    go_wp2_with fail
    refine CL.out.mono ?_
    rintro e w1 ⟨rfl, hb1⟩
    go_wp2_with fail
    refine (CW.out _).mono ?_
    rintro e w2 ⟨rfl, hb2⟩
    go_wp2_with fail
    go_ret
    exact ⟨rfl, hb1.trans (hb2.mono hb1.size)⟩
  have CL := Lib.hid (blong_any s A m c l w hA hl false ⟨fun h => absurd h (by decide), fun h => absurd h hlong⟩)
  obtain ⟨hs1, hl1, ht1, hx1⟩ := not_long hlong
  have hdl := dec_len s
  have CN := Lib.hid fun W => rnew_any s W (by omega) (by omega)
  have hcl := cln_dec s
  obtain ⟨D, hD⟩ : ∃ D, D = dec s := ⟨_, rfl⟩
  rw [← hD] at CN hdl hcl
  clear hlong hD
  have hDl : D.length ≤ 1000 := by omega
  have HA := Lib.hid hA
  have HL := Lib.hid hl
  have HX := Lib.hid hx1
  clear hA
  go_enter Tryz.func7, Tryz.ntmps7
  go_wp2_with fail
  refine CL.out.mono ?_
  rintro e w1 ⟨rfl, hb1⟩
  go_wp2_with fail
  refine (CN.out _).mono ?_
  rintro e w2 ⟨b, ps, h, rfl, hR, hf, hb2⟩
  have a2 := hb1.trans (hb2.mono hb1.size)
  have HR := Lib.hid hR
  have HF := Lib.hid hf
  clear hR hf CN CL
  by_cases hF : bflt D.length l = 0
  · have C1 := Lib.hid (by
      have := bapply_yes HR.out A m c l (HA.out.below a2) hl (fun e he => by have := HX.out e he; omega) (by rw [HF.out]; exact hF)
      rwa [HF.out] at this : Calls Tryz.prog 26 #[.pointer (some ⟨b, 0, none⟩), .slice A m c] w2 fun e w' => ∃ (b' : Nat) (ps' : List (List Int)) (h' : Nat), e = .returned (.tuple #[.pointer (some ⟨b', 0, none⟩), .int .i64 0]) ∧ RP w' (some ⟨b', 0, none⟩) ps' h' ∧ ps'.flatten = eput D l ∧ Below w2.heap.size w2 w')
    obtain ⟨hE, hm64, hfit⟩ := bflt_zero hF
    have hun := undo_flt hcl hE hm64 (by omega)
    obtain ⟨_, hu2, hu3⟩ := undo_batch hcl hE
    have hIs : ∀ e ∈ einv D 0 l, e.x.size ≤ 4000 := fun e he => by have := einv_size e he; omega
    have hIl : (einv D 0 l).length = m := by rw [einv_len]; exact hl
    have hNl : (einv (eput D l) 0 (einv D 0 l)).length = m := by rw [einv_len]; exact hIl
    have HU2 := Lib.hid hu2
    have HU3 := Lib.hid hu3
    have HFz := Lib.hid hF
    clear hfit hF hE hu2 hu3
    go_wp2_with fail
    refine C1.out.mono ?_
    rintro e w3 ⟨b3, ps3, h3, rfl, hR3, hf3, hb3⟩
    have HR3 := Lib.hid hR3
    have HF3 := Lib.hid hf3
    have a3 := a2.trans (hb3.mono a2.size)
    clear hR3 hf3 C1
    have C2 := Lib.hid (by
      have := binv_yes (HR.out.below hb3) A m c l (HA.out.below a3) hl (fun e he => by have := HX.out e he; omega) (by
        rw [HF.out]; exact HFz.out)
      rwa [HF.out] at this : Calls Tryz.prog 27 #[.pointer (some ⟨b, 0, none⟩), .slice A m c] w3 fun e w' => ∃ (A' : Option Addr) (c' : Nat), e = .returned (.tuple #[.slice A' m c', .int .i64 0]) ∧ EdsAt w' A' (einv D 0 l) ∧ Caps A' m c' ∧ Below w3.heap.size w3 w')
    go_wp2_with fail
    refine C2.out.mono ?_
    rintro e w4 ⟨A4, c4, rfl, hI4, _, hb4⟩
    have HI4 := Lib.hid hI4
    have q4 := hb3.trans (hb4.mono hb3.size)
    have a4 := a3.trans (hb4.mono a3.size)
    clear hI4 C2
    have C3 := Lib.hid (by
      have := bapply_yes (HR3.out.below hb4) A4 m c4 (einv D 0 l) HI4.out hIl (fun e he => by have := hIs e he; omega) (by rw [HF3.out]; exact hun)
      rwa [HF3.out, HU2.out] at this : Calls Tryz.prog 26 #[.pointer (some ⟨b3, 0, none⟩), .slice A4 m c4] w4 fun e w' => ∃ (b' : Nat) (ps' : List (List Int)) (h' : Nat), e = .returned (.tuple #[.pointer (some ⟨b', 0, none⟩), .int .i64 0]) ∧ RP w' (some ⟨b', 0, none⟩) ps' h' ∧ ps'.flatten = D ∧ Below w4.heap.size w4 w')
    go_wp2_with fail
    refine C3.out.mono ?_
    rintro e w5 ⟨b5, ps5, h5, rfl, hR5, hf5, hb5⟩
    have HR5 := Lib.hid hR5
    have HF5 := Lib.hid hf5
    have q35 := hb4.trans (hb5.mono hb4.size)
    have q5 := q4.trans (hb5.mono q4.size)
    have a5 := a4.trans (hb5.mono a4.size)
    clear hR5 hf5 C3
    have C4 := Lib.hid (by
      have := binv_yes (HR3.out.below q35) A4 m c4 (einv D 0 l) (HI4.out.below hb5) hIl (fun e he => by have := hIs e he; omega) (by rw [HF3.out]; exact hun)
      rwa [HF3.out, HU3.out] at this : Calls Tryz.prog 27 #[.pointer (some ⟨b3, 0, none⟩), .slice A4 m c4] w5 fun e w' => ∃ (A' : Option Addr) (c' : Nat), e = .returned (.tuple #[.slice A' m c', .int .i64 0]) ∧ EdsAt w' A' (l.map (fun e => ⟨e.f, e.t, txt (dec e.x)⟩)) ∧ Caps A' m c' ∧ Below w5.heap.size w5 w')
    go_wp2_with fail
    refine C4.out.mono ?_
    rintro e w6 ⟨A6, c6, rfl, hI6, _, hb6⟩
    have HI6 := Lib.hid hI6
    have q6 := q5.trans (hb6.mono q5.size)
    have a6 := a5.trans (hb6.mono a5.size)
    clear hI6 C4
    have CT1 := Lib.hid fun (W : World) (hW : Below w5.heap.size w5 W) => (by have := rtext_any (HR5.out.below hW); rwa [HF5.out] at this : Calls Tryz.prog 29 #[.pointer (some ⟨b5, 0, none⟩)] W fun e w' => e = .returned (.string (txt D)) ∧ Below W.heap.size W w')
    have CT2 := Lib.hid fun (W : World) (hW : Below w2.heap.size w2 W) => (by have := rtext_any (HR.out.below hW); rwa [HF.out] at this : Calls Tryz.prog 29 #[.pointer (some ⟨b, 0, none⟩)] W fun e w' => e = .returned (.string (txt D)) ∧ Below W.heap.size W w')
    generalize txt D = t1 at *
    clear hun hIs hIl hNl hcl
    go_wp2_with fail
    refine (CT1.out _ hb6).mono ?_
    rintro e w7 ⟨rfl, hb7⟩
    have q7 := q6.trans (hb7.mono q6.size)
    go_wp2_with fail
    refine (CT2.out _ q7).mono ?_
    rintro e w8 ⟨rfl, hb8⟩
    have q68 := hb7.trans (hb8.mono hb7.size)
    have a8 := a6.trans (q68.mono a6.size)
    go_wp2_with fail
    go_loopg [99] m (fun g i wr => ∃ (j : Nat), i = .int .i64 j ∧ j ≤ m ∧ m - j ≤ g ∧ Below w8.heap.size w8 wr)
    case atStart => exact ⟨0, rfl, by omega, by omega, Below.refl _ _⟩
    case round =>
      obtain ⟨j, rfl, k1, k2, hb⟩ := hrel
      have awr := a8.trans (hb.mono a8.size)
      by_cases hlt : j < m
      · have hjl : j < l.length := by rw [HL.out]; exact hlt
        obtain ⟨bA, off, hBA, hbA, d0, d1, d2⟩ := (HA.out.below awr).drop1 hjl
        obtain ⟨bN, off2, hBN, hbN, e0, e1, e2⟩ := (HI6.out.below (q68.trans (hb.mono q68.size))).drop1 (k := j) (by rw [List.length_map]; exact hjl)
        have hmp : eth (l.map (fun e => (⟨e.f, e.t, txt (dec e.x)⟩ : E3))) j = ⟨(eth l j).f, (eth l j).t, txt (dec (eth l j).x)⟩ := by simp [eth, List.getD, hjl]
        rw [hmp] at e0 e1 e2
        have hxs := HX.out _ (eth_mem hjl)
        subst hBA hBN
        clear hmp
        generalize eth l j = x at *
        have hdx := dec_len x.x
        have CD := Lib.hid fun W => rdecode_any x.x W (by omega)
        have CE := Lib.hid fun (W : World) (A5 : Option Addr) (c5 : Nat) (hI : IntsAt .i32 W A5 (dec x.x)) => (by
          have := rencode_any A5 (dec x.x).length c5 (dec x.x) W hI rfl (by omega)
          exact this : Calls Tryz.prog 17 #[.slice A5 (dec x.x).length c5] W fun e w' => e = .returned (.string (txt (dec x.x))) ∧ Below W.heap.size W w')
        have i1 : (0 : Int) ≤ j := by omega
        have i2 : (j : Int) < m := by omega
        have x6 : Below wr.heap.size wr (wr.alloc (.cells #[.int .i64 x.f, .int .i64 x.t, .string x.x] 64)) := (Below.refl _ _).alloc (Nat.le_refl _) _
        have R6 : RawAt 64 (wr.alloc (.cells #[.int .i64 x.f, .int .i64 x.t, .string x.x] 64)) wr.heap.size #[.int .i64 x.f, .int .i64 x.t, .string x.x] := heap_alloc_new wr _
        have HR6 := Lib.hid R6
        obtain ⟨xb, hxb⟩ : ∃ xb, xb = wr.heap.size := ⟨_, rfl⟩
        rw [← hxb] at HR6
        have HXB := Lib.hid hxb
        have HN := Lib.hid fun (W : World) (hW : Below wr.heap.size wr W) => (⟨((old_cells hW).1 _ _ hbN).trans e0, ((old_cells hW).1 _ _ hbN).trans e1, ((old_cells hW).1 _ _ hbN).trans e2⟩ : W.cell? ⟨bN, off2 + j * 3, none⟩ = some (.int .i64 x.f) ∧ W.cell? ⟨bN, off2 + j * 3 + 1, none⟩ = some (.int .i64 x.t) ∧ W.cell? ⟨bN, off2 + j * 3 + 2, none⟩ = some (.string (txt (dec x.x))))
        clear hxb R6 hdx e0 e1 e2
        generalize (dec x.x).length = dl at *
        generalize txt (dec x.x) = tx at *
        go_wp2_with fail
        rw [← HXB.out]
        generalize wr.alloc (.cells #[.int .i64 x.f, .int .i64 x.t, .string x.x] 64) = W6 at *
        have hW2 : Below W6.heap.size W6 W6.drew := (Below.refl _ _).drew
        have MK : Hid (∀ W : World, Below W6.heap.size W6 W → (fun W => W.cell? ⟨xb, 0, none⟩ = some (.int .i64 x.f) ∧ W.cell? ⟨xb, 1, none⟩ = some (.int .i64 x.t) ∧ W.cell? ⟨xb, 2, none⟩ = some (.string x.x) ∧ W.cell? ⟨bN, off2 + j * 3, none⟩ = some (.int .i64 x.f) ∧ W.cell? ⟨bN, off2 + j * 3 + 1, none⟩ = some (.int .i64 x.t) ∧ W.cell? ⟨bN, off2 + j * 3 + 2, none⟩ = some (.string tx) ∧ Below W6.heap.size W6 W) W) := fun W hW => ⟨RawAt.cell (RawAt.below HR6.out hW (RawAt.lt HR6.out)) 0, RawAt.cell (RawAt.below HR6.out hW (RawAt.lt HR6.out)) 1, RawAt.cell (RawAt.below HR6.out hW (RawAt.lt HR6.out)) 2, (HN.out W (x6.trans (hW.mono x6.size))).1, (HN.out W (x6.trans (hW.mono x6.size))).2.1, (HN.out W (x6.trans (hW.mono x6.size))).2.2, hW⟩
        clear d0 d1 d2
        refine wp_region_noPanic ?_
        refine wp_region_held_drew (S := (fun W => W.cell? ⟨xb, 0, none⟩ = some (.int .i64 x.f) ∧ W.cell? ⟨xb, 1, none⟩ = some (.int .i64 x.t) ∧ W.cell? ⟨xb, 2, none⟩ = some (.string x.x) ∧ W.cell? ⟨bN, off2 + j * 3, none⟩ = some (.int .i64 x.f) ∧ W.cell? ⟨bN, off2 + j * 3 + 1, none⟩ = some (.int .i64 x.t) ∧ W.cell? ⟨bN, off2 + j * 3 + 2, none⟩ = some (.string tx) ∧ Below W6.heap.size W6 W)) (by kernel_rfl) (MK.out _ hW2) (fun hHeld => ?_)
        refine wpAnyH_take (i := 0) (v := ?_) rfl (by kernel_rfl) (by kernel_rfl) (by kernel_rfl) (fun _ _ _ h => h) (Or.inl ⟨by rfl, ?_⟩) hHeld ?_
        rotate_left
        · intro w hSw
          (try dsimp only at hSw)
          go_simp
          try with_reducible rfl
        go_simp
        refine wpAnyH_take (i := 1) (v := ?_) rfl (by kernel_rfl) (by kernel_rfl) (by kernel_rfl) (fun _ _ _ h => h) (Or.inl ⟨by rfl, ?_⟩) hHeld ?_
        rotate_left
        · intro w hSw
          (try dsimp only at hSw)
          go_simp
          try with_reducible rfl
        go_simp
        refine wpAnyH_take (i := 2) (v := ?_) rfl (by kernel_rfl) (by kernel_rfl) (by kernel_rfl) (fun _ _ _ h => h) (Or.inl ⟨by rfl, ?_⟩) hHeld ?_
        rotate_left
        · intro w hSw
          (try dsimp only at hSw)
          go_simp
          try with_reducible rfl
        go_simp
        refine wpAnyH_take (i := 3) (v := ?_) rfl (by kernel_rfl) (by kernel_rfl) (by kernel_rfl) (fun _ _ _ h => h) (Or.inl ⟨by rfl, ?_⟩) hHeld ?_
        rotate_left
        · intro w hSw
          (try dsimp only at hSw)
          go_simp
          try with_reducible rfl
        go_simp
        refine wpAnyH_take (i := 4) (v := ?_) rfl (by kernel_rfl) (by kernel_rfl) (by kernel_rfl) (fun _ _ _ h => h) (Or.inl ⟨by rfl, ?_⟩) hHeld ?_
        rotate_left
        · intro w hSw
          (try dsimp only at hSw)
          go_simp
          try with_reducible rfl
        go_simp
        refine wpAnyH_take (i := 5) (v := ?_) rfl (by kernel_rfl) (by kernel_rfl) (by kernel_rfl) (fun _ _ _ h => h) (Or.inl ⟨by rfl, ?_⟩) hHeld ?_
        rotate_left
        · intro w hSw
          (try dsimp only at hSw)
          go_simp
          try with_reducible rfl
        go_simp
        refine wpAnyH_take (i := 6) (v := ?_) rfl (by kernel_rfl) (by kernel_rfl) (by kernel_rfl) (fun _ _ _ h => h) (Or.inl ⟨by rfl, ?_⟩) hHeld ?_
        rotate_left
        · intro w hSw
          (try dsimp only at hSw)
          go_simp
          try with_reducible rfl
        go_simp
        refine wpAnyH_take (i := 7) (v := ?_) rfl (by kernel_rfl) (by kernel_rfl) (by kernel_rfl) (fun _ _ _ h => h) (Or.inl ⟨by rfl, ?_⟩) hHeld ?_
        rotate_left
        · intro w hSw
          (try dsimp only at hSw)
          go_simp
          try with_reducible rfl
        go_simp
        refine wpAnyH_take (i := 8) (v := ?_) rfl (by kernel_rfl) (by kernel_rfl) (by kernel_rfl) (fun _ _ _ h => h) (Or.inl ⟨by rfl, ?_⟩) hHeld ?_
        rotate_left
        · intro w hSw
          (try dsimp only at hSw)
          go_simp
          try with_reducible rfl
        go_simp
        refine wpAnyH_take (i := 9) (v := ?_) rfl (by kernel_rfl) (by kernel_rfl) (by kernel_rfl) (fun _ _ _ h => h) (Or.inl ⟨by rfl, ?_⟩) hHeld ?_
        rotate_left
        · intro w hSw
          (try dsimp only at hSw)
          go_simp
          try with_reducible rfl
        go_simp
        refine wpAnyH_take (i := 10) (v := ?_) rfl (by kernel_rfl) (by kernel_rfl) (by kernel_rfl) (fun _ _ _ h => h) (Or.inl ⟨by rfl, ?_⟩) hHeld ?_
        rotate_left
        · intro w hSw
          (try dsimp only at hSw)
          go_simp
          try with_reducible rfl
        go_simp
        refine wpAnyH_take (i := 11) (v := ?_) rfl (by kernel_rfl) (by kernel_rfl) (by kernel_rfl) (fun _ _ _ h => h) (Or.inl ⟨by rfl, ?_⟩) hHeld ?_
        rotate_left
        · intro w hSw
          (try dsimp only at hSw)
          go_simp
          try with_reducible rfl
        go_simp
        refine wpAnyH_take (i := 12) (v := ?_) rfl (by kernel_rfl) (by kernel_rfl) (by kernel_rfl) (fun _ _ _ h => h) (Or.inl ⟨by rfl, ?_⟩) hHeld ?_
        rotate_left
        · intro w hSw
          (try dsimp only at hSw)
          go_simp
          try with_reducible rfl
        go_simp
        refine wpAnyH_take (i := 13) (v := ?_) rfl (by kernel_rfl) (by kernel_rfl) (by kernel_rfl) (fun _ _ _ h => h) (Or.inl ⟨by rfl, ?_⟩) hHeld ?_
        rotate_left
        · intro w hSw
          (try dsimp only at hSw)
          go_simp
          try with_reducible rfl
        go_simp
        refine wpAnyH_take (i := 14) (v := ?_) rfl (by kernel_rfl) (by kernel_rfl) (by kernel_rfl) (fun _ _ _ h => h) (Or.inl ⟨by rfl, ?_⟩) hHeld ?_
        rotate_left
        · intro w hSw
          (try dsimp only at hSw)
          go_simp
          try with_reducible rfl
        go_simp
        refine wpAnyH_take (i := 15) (v := ?_) rfl (by kernel_rfl) (by kernel_rfl) (by kernel_rfl) (fun _ _ _ h => h) (Or.inl ⟨by rfl, ?_⟩) hHeld ?_
        rotate_left
        · intro w hSw
          (try dsimp only at hSw)
          go_simp
          try with_reducible rfl
        go_simp
        refine wpAnyH_take (i := 16) (v := ?_) rfl (by kernel_rfl) (by kernel_rfl) (by kernel_rfl) (fun _ _ _ h => h) (Or.inl ⟨by rfl, ?_⟩) hHeld ?_
        rotate_left
        · intro w hSw
          (try dsimp only at hSw)
          go_simp
          try with_reducible rfl
        go_simp
        refine wpAnyH_take (i := 17) (v := ?_) rfl (by kernel_rfl) (by kernel_rfl) (by kernel_rfl) (fun _ _ _ h => h) (Or.inl ⟨by rfl, ?_⟩) hHeld ?_
        rotate_left
        · intro w hSw
          (try dsimp only at hSw)
          go_simp
          try with_reducible rfl
        go_simp
        refine wpAnyH_take (i := 18) (v := ?_) rfl (by kernel_rfl) (by kernel_rfl) (by kernel_rfl) (fun _ _ _ h => h) (Or.inl ⟨by rfl, ?_⟩) hHeld ?_
        rotate_left
        · intro w hSw
          (try dsimp only at hSw)
          go_simp
          try with_reducible rfl
        go_simp
        refine wpAnyH_take (i := 19) (v := ?_) rfl (by kernel_rfl) (by kernel_rfl) (by kernel_rfl) (fun _ _ _ h => h) (Or.inl ⟨by rfl, ?_⟩) hHeld ?_
        rotate_left
        · intro w hSw
          (try dsimp only at hSw)
          go_simp
          try with_reducible rfl
        go_simp
        refine wpAnyH_take (i := 20) (v := ?_) rfl (by kernel_rfl) (by kernel_rfl) (by kernel_rfl) (fun _ _ _ h => h) (Or.inl ⟨by rfl, ?_⟩) hHeld ?_
        rotate_left
        · intro w hSw
          (try dsimp only at hSw)
          go_simp
          try with_reducible rfl
        go_simp
        refine wpAnyH_take (i := 21) (v := ?_) rfl (by kernel_rfl) (by kernel_rfl) (by kernel_rfl) (fun _ _ _ h => h) (Or.inl ⟨by rfl, ?_⟩) hHeld ?_
        rotate_left
        · intro w hSw
          (try dsimp only at hSw)
          go_simp
          try with_reducible rfl
        go_simp
        refine wpAnyH_take (i := 22) (v := ?_) rfl (by kernel_rfl) (by kernel_rfl) (by kernel_rfl) (fun _ _ _ h => h) (Or.inl ⟨by rfl, ?_⟩) hHeld ?_
        rotate_left
        · intro w hSw
          (try dsimp only at hSw)
          go_simp
          try with_reducible rfl
        go_simp
        refine wpAnyH_take (i := 23) (v := ?_) rfl (by kernel_rfl) (by kernel_rfl) (by kernel_rfl) (fun _ _ _ h => h) (Or.inl ⟨by rfl, ?_⟩) hHeld ?_
        rotate_left
        · intro w hSw
          (try dsimp only at hSw)
          go_simp
          try with_reducible rfl
        go_simp
        refine wpAnyH_take (i := 24) (v := ?_) rfl (by kernel_rfl) (by kernel_rfl) (by kernel_rfl) (fun _ _ _ h => h) (Or.inl ⟨by rfl, ?_⟩) hHeld ?_
        rotate_left
        · intro w hSw
          (try dsimp only at hSw)
          go_simp
          try with_reducible rfl
        go_simp
        refine wpAnyH_take (i := 25) (v := ?_) rfl (by kernel_rfl) (by kernel_rfl) (by kernel_rfl) (fun _ _ _ h => h) (Or.inl ⟨by rfl, ?_⟩) hHeld ?_
        rotate_left
        · intro w hSw
          (try dsimp only at hSw)
          go_simp
          try with_reducible rfl
        go_simp
        refine wpAnyH_ready (rs := [26]) (by kernel_rfl) (by simp) ?_
        refine AllReadyH.cons rfl (fun K hK => ?_) ?_
        rotate_left
        · exact AllReadyH.nil
        go_simp
        go_wp2_with (first | (go_at_call 12; ((with_reducible refine (CD.out _).mono ?_); rintro e w9 ⟨A9, c9, rfl, hb9, hI9, hC9⟩); have HI9 := Lib.hid hI9; clear hI9 hC9; have hW2 := hW2.trans (hb9.mono hW2.size)) | (go_at_call 17; ((with_reducible refine (CE.out _ A9 c9 HI9.out).mono ?_); rintro e w10 ⟨rfl, hb10⟩); have hW2 := hW2.trans (hb10.mono hW2.size)))
        refine hK.out _ _ (MK.out _ hW2) (fun hHeld => ?_)
        clear hK K
        go_simp
        refine wpAnyH_ready (rs := [27]) (by kernel_rfl) (by simp) ?_
        refine AllReadyH.cons rfl (fun K hK => ?_) ?_
        rotate_left
        · exact AllReadyH.nil
        go_simp
        go_wp2_with (first | (go_at_call 12; ((with_reducible refine (CD.out _).mono ?_); rintro e w9 ⟨A9, c9, rfl, hb9, hI9, hC9⟩); have HI9 := Lib.hid hI9; clear hI9 hC9; have hW2 := hW2.trans (hb9.mono hW2.size)) | (go_at_call 17; ((with_reducible refine (CE.out _ A9 c9 HI9.out).mono ?_); rintro e w10 ⟨rfl, hb10⟩); have hW2 := hW2.trans (hb10.mono hW2.size)))
        refine hK.out _ _ (MK.out _ hW2) (fun hHeld => ?_)
        clear hK K
        go_simp
        refine wpAnyH_take (i := 28) (v := ?_) rfl (by kernel_rfl) (by kernel_rfl) (by kernel_rfl) (fun _ _ _ h => h) (Or.inl ⟨by rfl, ?_⟩) hHeld ?_
        rotate_left
        · intro w hSw
          (try dsimp only at hSw)
          go_simp
          try with_reducible rfl
        go_simp
        refine wpAnyH_take (i := 29) (v := ?_) rfl (by kernel_rfl) (by kernel_rfl) (by kernel_rfl) (fun _ _ _ h => h) (Or.inl ⟨by rfl, ?_⟩) hHeld ?_
        rotate_left
        · intro w hSw
          (try dsimp only at hSw)
          go_simp
          try with_reducible rfl
        go_simp
        refine wpAnyH_done (by kernel_rfl) ?_ _
        refine NoPanic.normal ?_
        go_wp2
        go_roundg (gk - 1)
        case measure => omega
        case rel => exact ⟨j + 1, by go_num, by omega, by omega, hb.trans ((x6.trans (hW2.mono x6.size)).mono hb.size)⟩
      · have hj : j = m := by omega
        subst hj
        go_wp2_with fail
        refine (CW.out _).mono ?_
        rintro e w9 ⟨rfl, hb9⟩
        go_wp2_with fail
        go_ret
        exact ⟨rfl, awr.trans (hb9.mono awr.size)⟩
  · have C1 := Lib.hid (by
      have := bapply_no HR.out A m c l (HA.out.below a2) hl (fun e he => by have := HX.out e he; omega) (by rw [HF.out]; exact hF)
      rwa [HF.out] at this : Calls Tryz.prog 26 #[.pointer (some ⟨b, 0, none⟩), .slice A m c] w2 fun e w' => e = .returned (.tuple #[.pointer none, .int .i64 (bflt D.length l)]) ∧ Below w2.heap.size w2 w')
    have hv := bflt_vals hF
    generalize bflt D.length l = F at *
    clear hF
    rcases hv with rfl | rfl | rfl | rfl
    all_goals
      go_wp2_with fail
      refine C1.out.mono ?_
      rintro e w4 ⟨rfl, hb4⟩
      have a4 := a2.trans (hb4.mono a2.size)
      go_wp2_with fail
      refine (CW.out _).mono ?_
      rintro e w9 ⟨rfl, hb9⟩
      go_wp2_with fail
      go_ret
      exact ⟨rfl, a4.trans (hb9.mono a4.size)⟩
end Go.Proofs.YtglalmhpgdgeeaaGreat
