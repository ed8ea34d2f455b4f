/- The document's answers on rows: start, All; the law's right. -/
import Derived.Test.YtnlhpbnonmdkdaaBrS
import Derived.Test.YtnlhpbnonmdkdaaBrF
namespace Go.Proofs.Ytnlhpbnonmdkdaa
open Go.RowKit
set_option linter.unusedVariables false
set_option maxHeartbeats 4000000 in
set_option maxRecDepth 100000 in
theorem r9Start_any (A : Option Addr) (n c : Nat) (l : List Cl) (room : Int) (w : World) (hA : RowsAt encC 4 w A l) (hl : l.length = n) (hc : Caps A n c) (hn : n ≤ 1000000) (hw : W02 l) :
    Calls Try.prog 41 #[.slice A n c, .int .i64 room] w fun e w' => e = .returned (.int .i64 (opn l room)) ∧ Below w.heap.size w w' := by
  have hq := tak_le l room
  obtain ⟨q, hqe⟩ : ∃ q, tak l room = q := ⟨_, rfl⟩
  have CT := Lib.hid (r9Takes_any A n c l room w hA hl hc hn hw)
  rw [hqe] at CT
  rw [hqe, hl] at hq
  by_cases hz : n = 0
  · have hq0 : q = 0 := by omega
    have HE : Hid (opn l room = 0) := Lib.hid (by have := opn_le l room; omega)
    have k2 : ((q : Int) == 0) = true := by simp [hq0]
    have k3 : decide ((q : Int) = 0) = true := decide_eq_true (by omega)
    clear hA hl hc hw hqe hq0 hz hq
    go_enter Try.func41, Try.ntmps41
    go_wp2_with (refine (CT.out).mono ?_; rintro e w1 ⟨rfl, hb1⟩; have HB1 := Lib.hid hb1; clear hb1)
    go_ret
    exact ⟨by rw [HE.out]; rfl, HB1.out⟩
  · have hn0 : 0 < n := by omega
    have hq0 : 0 < q := by rw [← hqe]; exact tak_pos (by omega)
    have CF := Lib.hid fun (W : World) (hW : Below w.heap.size w W) => r9Fit_any A n c l room W (hA.below hW) hl hc hn hw hn0
    have hcut : ∀ W, (Instr.slice 22 (.slice A n c) none (some (.int .i64 (q : Int))) none).run Try.prog W = .ok (.slice A q c) W := fun W => cutK_hd cell_slt A n c q (by have := hc.1; omega) W
    have HO : Hid (opn l room = if nbl (l.take q) = q then fitN l room else q) := Lib.hid (by unfold opn; rw [hqe])
    have HA := Lib.hid (rows_takeC hA hl hc.1 hq)
    have hlq : (l.take q).length = q := by rw [List.length_take, hl]; omega
    have HL := Lib.hid hlq
    have k2 : ((q : Int) == 0) = false := by simp; omega
    have k3 : decide ((q : Int) = 0) = false := decide_eq_false (by omega)
    obtain ⟨f, hf⟩ : ∃ f, fitN l room = f := ⟨_, rfl⟩
    rw [hf] at CF HO
    generalize l.take q = lq at *
    clear hA hl hc hw hqe hz hf hlq
    go_enter Try.func41, Try.ntmps41
    go_wp2_with (refine (CT.out).mono ?_; rintro e w1 ⟨rfl, hb1⟩; have HB1 := Lib.hid hb1; clear hb1)
    go_loopg [17] q (fun g i wr => ∃ (j : Nat), i = .int .i64 j ∧ j ≤ q ∧ q - j ≤ g ∧ Hid (∀ i (h : i < lq.length), i < j → isB lq[i] = true) ∧ Hid (Below w.heap.size w wr))
    case atStart => exact ⟨0, rfl, by omega, by omega, Lib.hid (fun i h hi => by omega), HB1⟩
    case round =>
      clear HB1
      obtain ⟨j, rfl, h1, h2, hs, hb⟩ := hrel
      by_cases hlt : j < q
      · have hjl : j < lq.length := by rw [HL.out]; exact hlt
        obtain ⟨bA, off, rfl, hbA, d0, d1, d2, d3⟩ := (HA.out.below hb.out).cell4 hjl
        have i1 : (0 : Int) ≤ j := by omega
        have i2 : (j : Int) < q := by omega
        obtain ⟨bv, hbv⟩ : ∃ bv, isB lq[j] = bv := ⟨_, rfl⟩
        have HBV := Lib.hid hbv
        have HN : Hid (bv = false → nbl lq = j) := Lib.hid (fun e => nbl_eq hs.out (fun _ => by rw [hbv, e]) (by rw [HL.out]; omega))
        have HS : Hid (bv = true → ∀ i (h : i < lq.length), i < j + 1 → isB lq[i] = true) := Lib.hid (fun e i h hi => by
          rcases Nat.lt_or_ge i j with g | g
          · exact hs.out i h g
          · obtain rfl : i = j := by omega
            rw [hbv, e])
        clear hbv
        generalize lq[j] = o at *
        have R3 : RawAt 35 (wr.alloc (.cells #[.int .i32 o.r, .int .i64 o.k, .int .i64 o.wd, .int .i64 o.p] 35)) wr.heap.size #[.int .i32 o.r, .int .i64 o.k, .int .i64 o.wd, .int .i64 o.p] := heap_alloc_new wr _
        have e0 := RawAt.cell R3 0
        have e1 := RawAt.cell R3 1
        have e2 := RawAt.cell R3 2
        have e3 := RawAt.cell R3 3
        simp at e0 e1 e2 e3
        have HB3 := Lib.hid (hb.out.trans (((Below.refl _ _).alloc (Nat.le_refl _) (.cells #[.int .i32 o.r, .int .i64 o.k, .int .i64 o.wd, .int .i64 o.p] 35)).mono hb.out.size))
        clear R3 hb
        cases bv
        · have HE : Hid (opn l room = q) := Lib.hid (by rw [HO.out, HN.out rfl, if_neg (by omega)])
          go_wp2_with (refine (r9Blank_any o false HBV.out _).mono ?_; rintro e w4 ⟨rfl, hb4⟩; have HB4 := Lib.hid (HB3.out.trans (hb4.mono HB3.out.size)); clear hb4)
          go_ret
          exact ⟨by rw [HE.out]; rfl, HB4.out⟩
        · go_wp2_with (refine (r9Blank_any o true HBV.out _).mono ?_; rintro e w4 ⟨rfl, hb4⟩; have HB4 := Lib.hid (HB3.out.trans (hb4.mono HB3.out.size)); clear hb4)
          go_roundg (gk - 1)
          case measure => omega
          case rel => exact ⟨j + 1, by go_num, by omega, by omega, Lib.hid (HS.out (by simp)), HB4⟩
      · obtain rfl : j = q := by omega
        have HE : Hid (opn l room = f) := Lib.hid (by rw [HO.out, if_pos (nbl_eq hs.out (fun h => by rw [HL.out] at h; omega) (by rw [HL.out]; omega))])
        go_wp2_with (refine (CF.out _ hb.out).mono ?_; rintro e w4 ⟨rfl, hb4⟩; have HB4 := Lib.hid (hb.out.trans (hb4.mono hb.out.size)); clear hb4)
        go_ret
        exact ⟨by rw [HE.out]; rfl, HB4.out⟩
theorem int_slt : SlT Try.prog 30 3 1 8 := slt_of Try.underlying30 int_info rfl (by kernel_rfl)
set_option maxHeartbeats 4000000 in
set_option maxRecDepth 100000 in
theorem r9All_any (A : Option Addr) (n c : Nat) (l : List Cl) (a b : Int) (w : World) (hA : RowsAt encC 4 w A l) (hl : l.length = n) (hc : Caps A n c) (hn : n ≤ 1000000) (hw : W02 l) :
    Calls Try.prog 23 #[.slice A n c, .agg #[.int .i64 a, .int .i64 b]] w fun e w' => ∃ v, e = .returned v ∧ w'.ownsRow w.heap.size 3 1 v (allN l a b).length ((ofN (allN l a b)).map (.int .i64)) ∧ Below w.heap.size w w' := by
  have HL := Lib.hid hl
  obtain ⟨w1, hw1⟩ : ∃ w1, w.alloc (.cells #[.int .i64 a, .int .i64 b] 28) = w1 := ⟨_, rfl⟩
  have x1 : Below w.heap.size w w1 := by rw [← hw1]; exact (Below.refl _ _).alloc (Nat.le_refl _) _
  have s1 : w1.heap.size = w.heap.size + 1 := by rw [← hw1]; simp
  have R1 : RawAt 28 w1 w.heap.size #[.int .i64 a, .int .i64 b] := by rw [← hw1]; exact heap_alloc_new w _
  have c0 := RawAt.cell R1 0
  simp at c0
  have HR1 := Lib.hid R1
  have HX1 := Lib.hid x1
  have HS1 := Lib.hid s1
  have CS := Lib.hid (r9Start_any A n c l a w1 (hA.below x1) hl hc hn hw)
  have hol := opn_le l a
  have hop := fun (h : 0 < l.length) => opn_pos (r := a) h
  have CT := Lib.hid fun (k : Nat) (hk : k ≤ n) (W : World) (hW : Below w1.heap.size w1 W) => r9Takes_any (cutK A c 4 k) (n - k) (c - k) (l.drop k) b W (by
    have h2 := (hA.below (x1.trans (hW.mono x1.size))).cut hl hc.1 (j := k) (m := n - k) (by omega)
    rw [List.take_of_length_le (by rw [List.length_drop]; omega)] at h2
    exact h2) (by rw [List.length_drop, hl]) (cutK_caps hc (by omega)) (by omega) (hw.drop k)
  have hcut : ∀ (k : Nat), k ≤ n → ∀ W, (Instr.slice 22 (.slice A n c) (some (.int .i64 (k : Int))) none none).run Try.prog W = .ok (.slice (cutK A c 4 k) (n - k) (c - k)) W := fun k hk W => cutK_tl cell_slt A n c k hk W
  have HCUT := Lib.hid hcut
  rw [hl] at hol
  have HALL : Hid (allN l a b = [opn l a] ++ rsts (l.drop (opn l a)) b) := Lib.hid rfl
  obtain ⟨q, hq⟩ : ∃ q, opn l a = q := ⟨_, rfl⟩
  rw [hq] at CS hol HALL hop
  have HQ0 : Hid (0 < n → 0 < q) := Lib.hid (fun h => hop (by omega))
  clear hA hl hc hw R1 x1 s1 hcut hq hop
  go_enter Try.func23, Try.ntmps23
  go_wp2_with (refine (CS.out).mono ?_; rintro e w2 ⟨rfl, hb2⟩; have HB2 := Lib.hid hb2; clear hb2; have R3 : RawAt 3 (w2.alloc (.cells #[.int .i64 (q : Int)] 3)) w2.heap.size #[.int .i64 (q : Int)] := heap_alloc_new w2 _; have f0 := RawAt.cell R3 0; simp at f0; clear R3)
  have HO : Hid ((w2.alloc (.cells #[.int .i64 (q : Int)] 3)).ownsRow w1.heap.size 3 1 (.slice (some ⟨w2.heap.size, 0, none⟩) 1 1) 1 (kfl (encN .i64) (ofN [q]))) := Lib.hid (World.ownsRow_lit w2 #[.int .i64 (q : Int)] 1 HB2.out.size (by simp [maxLen]) rfl)
  have HBW : Hid (Below w1.heap.size w1 (w2.alloc (.cells #[.int .i64 (q : Int)] 3))) := Lib.hid (HB2.out.alloc HB2.out.size _)
  clear f0 c0
  go_loopg [5, 6] n (fun g v i wr => ∃ (k : Nat) (u : Value) (o : List Nat), i = .int .i64 (k : Int) ∧ u = v ∧ k ≤ n ∧ n - k ≤ g ∧ o.length ≤ k + 1 ∧ Hid (o ++ rsts (l.drop k) b = allN l a b) ∧ Hid (Below w1.heap.size w1 wr) ∧ Hid (wr.ownsRow w1.heap.size 3 1 u o.length (kfl (encN .i64) (ofN o))))
  case atStart => exact ⟨q, _, [q], rfl, rfl, hol, by omega, by simp, Lib.hid HALL.out.symm, HBW, HO⟩
  case round =>
    clear HO HBW HB2
    obtain ⟨k, v, o, rfl, rfl, h1, h2, h3, hR, hb, ho⟩ := hrel
    by_cases hlt : k < n
    · have hdl : (l.drop k).length = n - k := by rw [List.length_drop, HL.out]
      have htl := tak_le (l.drop k) b
      have htp := tak_pos (l := l.drop k) (r := b) (by omega)
      have hR2 := hR.out
      rw [rsts_step (l := l.drop k) (by omega), List.drop_drop] at hR2
      have CTk := Lib.hid (CT.out k h1)
      obtain ⟨t, ht⟩ : ∃ t, tak (l.drop k) b = t := ⟨_, rfl⟩
      rw [ht] at htl htp hR2 CTk
      have HR2 := Lib.hid hR2
      rw [hdl] at htl
      have hcut := HCUT.out k h1
      have i1 : (0 : Int) ≤ k := by omega
      have i2 : (k : Int) < n := by omega
      have HHB := Lib.hid hb.out
      clear hR2 ht hdl hR CT HCUT hb
      obtain ⟨A5, c5, rfl⟩ := own_form ho.out
      have HHO := Lib.hid ho.out
      clear ho
      have c1 : wr.cell? ⟨w.heap.size, 1, none⟩ = some (.int .i64 b) := by
        have := RawAt.cell (RawAt.below HR1.out HHB.out HR1.out.lt) 1
        simpa using this
      have hW2 : Below wr.heap.size wr wr.drew := (Below.refl _ _).drew
      have MK : Hid (∀ W : World, Below wr.heap.size wr W → W.cell? ⟨w.heap.size, 1, none⟩ = some (.int .i64 b)) := Lib.hid fun W hW => ((old_cells hW).1 _ _ (by have := RawAt.lt HR1.out; have := HHB.out.size; omega)).trans c1
      clear c1
      go_wp2_with fail
      refine wp_region_noPanic ?_
      refine wp_region_held_drew (S := (fun W => W.cell? ⟨w.heap.size, 1, none⟩ = some (.int .i64 b))) (by kernel_rfl) (MK.out _ hW2) (fun hHeld => ?_)
      refine wpAnyH_take (i := 0) (v := ?_) rfl (by kernel_rfl) (by kernel_rfl) (by kernel_rfl) (fun _ _ _ h => h) (Or.inl ⟨by rfl, ?_⟩) hHeld ?_
      rotate_left
      · intro w hSw
        (try dsimp only at hSw)
        go_simp
        try with_reducible rfl
      go_simp
      refine wpAnyH_take (i := 1) (v := ?_) rfl (by kernel_rfl) (by kernel_rfl) (by kernel_rfl) (fun _ _ _ h => h) (Or.inl ⟨by rfl, ?_⟩) hHeld ?_
      rotate_left
      · intro w hSw
        (try dsimp only at hSw)
        go_simp
        try with_reducible rfl
      go_simp
      refine wpAnyH_take (i := 2) (v := ?_) rfl (by kernel_rfl) (by kernel_rfl) (by kernel_rfl) (fun _ _ _ h => h) (Or.inl ⟨by rfl, ?_⟩) hHeld ?_
      rotate_left
      · intro w hSw
        (try dsimp only at hSw)
        go_simp
        try with_reducible rfl
      go_simp
      refine wpAnyH_take (i := 3) (v := ?_) rfl (by kernel_rfl) (by kernel_rfl) (by kernel_rfl) (fun _ _ _ h => h) (Or.inl ⟨by rfl, ?_⟩) hHeld ?_
      rotate_left
      · intro w hSw
        (try dsimp only at hSw)
        go_simp
        try with_reducible rfl
      go_simp
      refine wpAnyH_take (i := 4) (v := ?_) rfl (by kernel_rfl) (by kernel_rfl) (by kernel_rfl) (fun _ _ _ h => h) (Or.inl ⟨by rfl, ?_⟩) hHeld ?_
      rotate_left
      · intro w hSw
        (try dsimp only at hSw)
        go_simp
        try with_reducible rfl
      go_simp
      refine wpAnyH_ready (rs := [5]) (by kernel_rfl) (by simp) ?_
      refine AllReadyH.cons rfl (fun K hK => ?_) ?_
      rotate_left
      · exact AllReadyH.nil
      go_simp
      go_wp2_with (first | (go_at_call 18; ((with_reducible refine (CTk.out _ (HHB.out.trans (hW2.mono HHB.out.size))).mono ?_); rintro e w4 ⟨rfl, hb4⟩); have hW2 := hW2.trans (hb4.mono hW2.size)))
      refine hK.out _ _ (MK.out _ hW2) (fun hHeld => ?_)
      clear hK K
      go_simp
      refine wpAnyH_take (i := 6) (v := ?_) rfl (by kernel_rfl) (by kernel_rfl) (by kernel_rfl) (fun _ _ _ h => h) (Or.inl ⟨by rfl, ?_⟩) hHeld ?_
      rotate_left
      · intro w hSw
        (try dsimp only at hSw)
        go_simp
        try with_reducible rfl
      go_simp
      refine wpAnyH_done (by kernel_rfl) ?_ _
      refine NoPanic.normal ?_
      have HB4 := Lib.hid (HHB.out.trans (hW2.mono HHB.out.size))
      have HO4 := Lib.hid (own_below HHO.out hW2)
      clear hW2 MK HHO
      have x5 : Below w4.heap.size w4 (w4.alloc (.cells #[.int .i64 (t : Int)] 3)) := (Below.refl _ _).alloc (Nat.le_refl _) _
      have HO5 := Lib.hid (own_below HO4.out x5)
      have HB5 := Lib.hid (HB4.out.trans (x5.mono HB4.out.size))
      have HRW : Hid (RowsAt (encN .i64) 1 (w4.alloc (.cells #[.int .i64 (t : Int)] 3)) (some ⟨w4.heap.size, 0, none⟩) [(t : Int)]) := Lib.hid (row_new (encN_len _) w4 [(t : Int)] #[.int .i64 (t : Int)] 3 rfl)
      clear x5 HO4
      go_wp2_with (at_builtin; go_loud (refine wpList_appK (enc := encN .i64) int_slt (encN_len _) (by omega) rfl (.tmp 26) (.tmp 28) rfl rfl HO5.out (some ⟨w4.heap.size, 0, none⟩) 1 1 [(t : Int)] rfl HRW.out ⟨Nat.le_refl _, fun h => by cases h⟩ rfl (kfl_one' (encN_one _) _) (by simp only [maxLen]; omega) (by omega) HB5.out.size ?_; intro v5 w5 hown5 hg5 hn5))
      have HO6 := Lib.hid hown5
      have HB6 := Lib.hid (HB5.out.grown hg5 HB5.out.size (fun k hk => (HO5.out.lt k hk).1))
      clear hown5 hg5 hn5 HO5 HB5 HRW
      go_roundg (gk - 1)
      case measure => omega
      case rel => exact ⟨k + t, _, o ++ [t], by go_num, rfl, by omega, by omega, by simp; omega, Lib.hid (by rw [← HR2.out, List.append_assoc]; rfl), HB6, Lib.hid (by rw [ofN_snoc, kfl_append, List.length_append]; exact HO6.out)⟩
    · obtain rfl : k = n := by omega
      have hR2 := hR.out
      rw [show l.drop k = [] from List.drop_of_length_le (by rw [HL.out]; omega), rsts_nil, List.append_nil] at hR2
      subst hR2
      have HF := Lib.hid ho.out
      obtain ⟨A5, c5, rfl⟩ := own_form ho.out
      go_wp2
      go_ret
      exact ⟨_, rfl, by rw [← kfl_encN]; exact own_base HF.out HX1.out.size, HX1.out.trans (hb.out.mono HX1.out.size)⟩
end Go.Proofs.Ytnlhpbnonmdkdaa
