/- The law DiffApplies: its walk. -/
import Derived.Test.YtebjkgeldjgnfaaDfK
import Derived.Test.YtebjkgeldjgnfaaDfJ
namespace Go.Proofs.Ytebjkgeldjgnfaa
open Go.RowKit
set_option linter.unusedVariables false
set_option maxHeartbeats 8000000 in
set_option maxRecDepth 100000 in
theorem diffApplies_walk (A : Option Addr) (n c : Nat) (l : List Rw) (B : Option Addr) (m d : Nat) (o : List Rw) (p : Rp) (w : World) (hA : RowsAt encR 7 w A l) (hl : l.length = n) (hn : n * 64 ≤ reachBytes) (hc : Caps A n c) (okl : ∀ s ∈ l, RwOkW w s) (hB : RowsAt encR 7 w B o) (hy : o.length = m) (hm : m * 64 ≤ reachBytes) (hd : Caps B m d) (oko : ∀ s ∈ o, RwOkW w s) (hp : RpOk p) :
    Calls Try.prog 7 #[.slice A n c, .slice B m d, .agg #[.int .i64 p.a, .int .i64 p.b, .int .i64 p.c, .int .i64 p.d]] w fun e w' => e = .returned (.bool true) ∧ Below w.heap.size w w' := by
  have R0 : Hid (RawAt 28 (w.alloc (.cells #[.int .i64 p.a, .int .i64 p.b, .int .i64 p.c, .int .i64 p.d] 28)) w.heap.size #[.int .i64 p.a, .int .i64 p.b, .int .i64 p.c, .int .i64 p.d]) := Lib.hid (heap_alloc_new w _)
  have HB0 : Hid (Below w.heap.size w (w.alloc (.cells #[.int .i64 p.a, .int .i64 p.b, .int .i64 p.c, .int .i64 p.d] 28))) := Lib.hid ((Below.refl _ _).alloc (Nat.le_refl _) _)
  clear hp
  have hn9 : n ≤ maxLen := by simp only [maxLen, reachBytes] at *; omega
  have hm9 : m ≤ maxLen := by simp only [maxLen, reachBytes] at *; omega
  obtain ⟨b1, hb1⟩ : ∃ b, rlg 0 l = b := ⟨_, rfl⟩
  obtain ⟨b2, hb2⟩ : ∃ b, rlg 0 o = b := ⟨_, rfl⟩
  have CL1 := Lib.hid fun W (hW : Below w.heap.size w W) => dLong_any A n c l b1 hb1 W (hA.below hW) hl hn9
  have CL2 := Lib.hid fun W (hW : Below w.heap.size w W) => dLong_any B m d o b2 hb2 W (hB.below hW) hy hm9
  clear hn9 hm9
  go_enter Try.func7, Try.ntmps7
  go_wp2_with fail
  with_reducible refine (CL1.out _ HB0.out).mono ?_
  rintro e w1 ⟨rfl, hq1⟩
  have HB1 := Lib.hid (HB0.out.trans (hq1.mono HB0.out.size))
  have R1 := Lib.hid (RawAt.below R0.out hq1 (RawAt.lt R0.out))
  clear R0 hq1 CL1
  cases b1
  · go_wp2_with fail
    with_reducible refine (CL2.out _ HB1.out).mono ?_
    rintro e w2 ⟨rfl, hq2⟩
    have HB2 := Lib.hid (HB1.out.trans (hq2.mono HB1.out.size))
    have R2 := Lib.hid (RawAt.below R1.out hq2 (RawAt.lt R1.out))
    clear hq2 CL2
    cases b2
    · skip
      obtain ⟨hn4, okl2⟩ := small_of hl okl hb1
      obtain ⟨hm4, oko2⟩ := small_of hy oko hb2
      clear hb1 hb2 hn hm okl oko
      obtain ⟨pa, pb, pc, pd⟩ := p
      simp only at *
      by_cases t1 : 0 ≤ pa
      · have k1 : decide (0 ≤ pa) = true := decide_eq_true t1
        by_cases t2 : pa ≤ pb
        · have k2 : decide (pa ≤ pb) = true := decide_eq_true t2
          by_cases t3 : pb ≤ n
          · have k3 : decide (pb ≤ (n : Int)) = true := decide_eq_true t3
            obtain ⟨ka, rfl⟩ : ∃ k : Nat, pa = k := ⟨pa.toNat, by omega⟩
            obtain ⟨kb, rfl⟩ : ∃ k : Nat, pb = k := ⟨pb.toNat, by omega⟩
            have k2n : decide (ka ≤ kb) = true := decide_eq_true (by omega)
            have k3n : decide (kb ≤ n) = true := decide_eq_true (by omega)
            have e1 : IntKind.i64.wrap ((kb : Int) - ka) = (kb : Int) - ka := IntWalk.i64_in _ (by omega)
            have e2 : IntKind.i64.wrap ((n : Int) - ((kb : Int) - ka)) = (n : Int) - ((kb : Int) - ka) := IntWalk.i64_in _ (by omega)
            obtain ⟨q, hq⟩ : ∃ q : Nat, q = n - (kb - ka) + m := ⟨_, rfl⟩
            have eq1 : (n : Int) - (kb - ka) + m = (q : Int) := by omega
            have e3 : IntKind.i64.wrap ((n : Int) - ((kb : Int) - ka) + m) = (q : Int) := by rw [eq1]; exact IntWalk.i64_in _ (by omega)
            by_cases hf : RFit ⟨ka, kb, pc, pd⟩ n q
            · have hpc : pc = ka := hf.2.1.1
              subst hpc
              have CY := Lib.hid fun W (hW : Below w.heap.size w W) => dApply_yes A B n c m d l o ka kb pd ⟨by omega, by omega⟩ (by rw [eq1]; exact hf) W (hA.below hW) hl hc (hB.below hW) hy hd (fun s hs => ⟨(okl2 s hs).1.below hW, by have := (okl2 s hs).2; omega⟩) (fun s hs => ⟨(oko2 s hs).1.below hW, by have := (oko2 s hs).2; omega⟩) (by omega) (by omega)
              have CRF := Lib.hid fun W => dRFits_any ⟨ka, kb, ka, pd⟩ n q true ⟨fun _ => hf, fun _ => rfl⟩ W (by omega) (by omega)
              rw [← hq] at CY
              have cut1 : ∀ W : World, (Instr.slice 30 (.slice A n c) none (some (.int .i64 (ka : Int))) none).run Try.prog W = .ok (.slice A ka c) W := fun W => cutK_hd row_slt A n c ka (by have := hc.1; omega) W
              have cut2 : ∀ W : World, (Instr.slice 30 (.slice A n c) (some (.int .i64 (kb : Int))) none none).run Try.prog W = .ok (.slice (cutK A c 7 kb) (n - kb) (c - kb)) W := fun W => cutK_tl row_slt A n c kb (by omega) W
              have HC1 : Hid (Caps A ka c) := Lib.hid ⟨by have := hc.1; omega, hc.2⟩
              have HC2 : Hid (Caps (cutK A c 7 kb) (n - kb) (c - kb)) := Lib.hid (caps_cut7 hc kb (by omega))
              have HC3 := Lib.hid hd
              have HR1 : Hid (RowsAt encR 7 w A (l.take ka)) := Lib.hid (rows_cut0 (hA.cut hl hc.1 (j := 0) (m := ka) (by omega)) hA)
              have HR2 : Hid (RowsAt encR 7 w (cutK A c 7 kb) (l.drop kb)) := Lib.hid (by
                have h := hA.cut hl hc.1 (j := kb) (m := n - kb) (by omega)
                rw [List.take_of_length_le (by rw [List.length_drop]; omega)] at h
                exact h)
              have HR3 := Lib.hid hB
              have HL1 : Hid ((l.take ka).length = ka) := Lib.hid (by rw [List.length_take]; omega)
              have HL2 : Hid ((l.drop kb).length = n - kb) := Lib.hid (by rw [List.length_drop]; omega)
              have HL3 := Lib.hid hy
              have HQK : Hid (∀ s ∈ l.take ka ++ (o ++ l.drop kb), RwOk w s ∧ s.n ≤ 1000000) := Lib.hid (fun s hs => by
                rcases List.mem_append.1 hs with hs | hs
                · exact ⟨(okl2 s (List.mem_of_mem_take hs)).1, by have := (okl2 s (List.mem_of_mem_take hs)).2; omega⟩
                · rcases List.mem_append.1 hs with hs | hs
                  · exact ⟨(oko2 s hs).1, by have := (oko2 s hs).2; omega⟩
                  · exact ⟨(okl2 s (List.mem_of_mem_drop hs)).1, by have := (okl2 s (List.mem_of_mem_drop hs)).2; omega⟩)
              have HQL : Hid ((l.take ka ++ (o ++ l.drop kb)).length = q) := Lib.hid (by simp only [List.length_append, HL1.out, HL2.out, HL3.out]; omega)
              have HPU : Hid (putR l ⟨ka, kb, ka, pd⟩ o = l.take ka ++ (o ++ l.drop kb)) := Lib.hid (by simp [putR])
              rw [HPU.out] at CY
              have HNB : Hid (n - kb ≤ 400) := Lib.hid (by omega)
              have hq2 : ka + m + (n - kb) = q := by omega
              have hka : ka ≤ 400 := by omega
              have hqb : q ≤ 1000 := by omega
              generalize cutK A c 7 kb = AC at *
              generalize c - kb = cb at *
              generalize n - kb = nb at *
              have HQ2 := Lib.hid hq2
              clear hf eq1 hA hl hc hB hy hd okl2 oko2 hq hq2
              have p0 := RawAt.cell R2.out 0
              have p1 := RawAt.cell R2.out 1
              have p2 := RawAt.cell R2.out 2
              have p3 := RawAt.cell R2.out 3
              simp at p0 p1 p2 p3
              go_wp2_with fail
              with_reducible refine (CY.out _ HB2.out).mono ?_
              rintro e w3 ⟨A', c', l', rfl, hr3, hrb3, hok3, hq3⟩
              have HB3 := Lib.hid (HB2.out.trans (hq3.mono HB2.out.size))
              have R3 := Lib.hid (RawAt.below R2.out hq3 (RawAt.lt R2.out))
              have HR4 := Lib.hid hr3
              have HRB := Lib.hid hrb3
              have HOK := Lib.hid hok3
              clear hq3 hr3 hrb3 hok3 CY p0 p1 p2 p3
              have p0 := RawAt.cell R3.out 0
              have p1 := RawAt.cell R3.out 1
              have p2 := RawAt.cell R3.out 2
              have p3 := RawAt.cell R3.out 3
              simp at p0 p1 p2 p3
              go_wp2_with fail
              with_reducible refine (CRF.out _).mono ?_
              rintro e w4 ⟨rfl, hq4⟩
              have HB4 := Lib.hid (HB3.out.trans (hq4.mono HB3.out.size))
              have R4 := Lib.hid (RawAt.below R3.out hq4 (RawAt.lt R3.out))
              have HX4 := Lib.hid hq4
              clear hq4 CRF p0 p1 p2 p3
              have p0 := RawAt.cell R4.out 0
              have p1 := RawAt.cell R4.out 1
              have p2 := RawAt.cell R4.out 2
              have p3 := RawAt.cell R4.out 3
              simp at p0 p1 p2 p3
              go_wp2_with (first | (at_builtin; refine wpList_appK (enc := encR) row_slt encR_len (by omega) rfl (.tmp 70) (.tmp 74) rfl (base := w4.heap.size) (v := .slice none 0 0) (n := 0) (xs := []) rfl (World.ownsRow_nil _ _ _ _) A ka c (l.take ka) rfl (HR1.out.below HB4.out) HC1.out HL1.out (kfl_one' encR_one _) (by simp only [maxLen]; omega) (by omega) (Nat.le_refl _) ?_; intro v5 w5 hown5 hg5 hor5; rw [Nat.zero_add, List.nil_append] at hown5; have HX5 : Hid (Below w4.heap.size w4 w5) := Lib.hid ((Below.refl _ _).grown hg5 (Nat.le_refl _) (fun k hk => by cases hk)); have HO5 := Lib.hid hown5; have HB5 := Lib.hid (HB4.out.trans (HX5.out.mono HB4.out.size)); have R5 := Lib.hid (RawAt.below R4.out HX5.out (RawAt.lt R4.out)); obtain ⟨A5, c5, rfl⟩ := own_form hown5; clear hown5 hg5 hor5 p0 p1 p2 p3; have p0 := RawAt.cell R5.out 0; have p1 := RawAt.cell R5.out 1; have p2 := RawAt.cell R5.out 2; have p3 := RawAt.cell R5.out 3; simp at p0 p1 p2 p3) | (at_builtin; refine wpList_appK (enc := encR) row_slt encR_len (by omega) rfl (.tmp 76) (.tmp 77) rfl rfl HO5.out B m d o rfl (HR3.out.below HB5.out) HC3.out HL3.out (kfl_one' encR_one _) (by simp only [maxLen]; omega) (by omega) HX5.out.size ?_; intro v6 w6 hown6 hg6 hor6; have HX6 : Hid (Below w4.heap.size w4 w6) := Lib.hid (HX5.out.grown hg6 HX5.out.size (fun k hk => (HO5.out.lt k hk).1)); have HO6 := Lib.hid hown6; have HB6 := Lib.hid (HB4.out.trans (HX6.out.mono HB4.out.size)); have R6 := Lib.hid (RawAt.below R4.out HX6.out (RawAt.lt R4.out)); obtain ⟨A6, c6, rfl⟩ := own_form hown6; clear hown6 hg6 hor6 p0 p1 p2 p3 HO5 R5; have p0 := RawAt.cell R6.out 0; have p1 := RawAt.cell R6.out 1; have p2 := RawAt.cell R6.out 2; have p3 := RawAt.cell R6.out 3; simp at p0 p1 p2 p3) | (at_builtin; refine wpList_appK (enc := encR) row_slt encR_len (by omega) rfl (.tmp 79) (.tmp 83) rfl rfl HO6.out AC nb cb (l.drop kb) rfl (HR2.out.below HB6.out) HC2.out HL2.out (kfl_one' encR_one _) (by simp only [maxLen]; have := HNB.out; omega) (by have := HNB.out; omega) HX6.out.size ?_; intro v7 w7 hown7 hg7 hor7; have HX7 : Hid (Below w4.heap.size w4 w7) := Lib.hid (HX6.out.grown hg7 HX6.out.size (fun k hk => (HO6.out.lt k hk).1)); rw [HQ2.out, ← kfl_append, ← kfl_append, List.append_assoc] at hown7; have HO7 := Lib.hid hown7; have HB7 := Lib.hid (HB4.out.trans (HX7.out.mono HB4.out.size)); obtain ⟨A7, c7, rfl⟩ := own_form hown7; clear hown7 hg7 hor7 p0 p1 p2 p3 HO6 R6; have CP := Lib.hid (plRows_any A' A7 q c' c7 l' (l.take ka ++ (o ++ l.drop kb)) HRB.out w7 ((HR4.out.below HX4.out).below HX7.out) (rows_ofD HO7.out) HQL.out (fun s hs => ((HOK.out s hs).below HX4.out).below HX7.out) (fun s hs => ⟨(HQK.out s hs).1.below HB7.out, (HQK.out s hs).2⟩) (by omega))))
              with_reducible refine (CP.out).mono ?_
              rintro e w8 ⟨rfl, hq8⟩
              have HB8 := Lib.hid (HB7.out.trans (hq8.mono HB7.out.size))
              clear hq8 CP
              go_wp2_with fail
              with_reducible refine (dMid_any _).mono ?_
              rintro e w9 ⟨rfl, hb9⟩
              have HB9 := Lib.hid (HB8.out.trans (hb9.mono HB8.out.size))
              go_wp2
              go_ret
              exact ⟨rfl, HB9.out⟩
            · have CNO := Lib.hid fun W => dApply_no A B n c m d ⟨ka, kb, pc, pd⟩ q (by rw [e1, e2, e3]) hf (by omega) W
              have CRF := Lib.hid fun W => dRFits_any ⟨ka, kb, pc, pd⟩ n q false ⟨(fun h => by cases h), fun h => absurd h hf⟩ W (by omega) (by omega)
              clear hf eq1 hq hA hl hc hB hy hd okl2 oko2
              have p0 := RawAt.cell R2.out 0
              have p1 := RawAt.cell R2.out 1
              have p2 := RawAt.cell R2.out 2
              have p3 := RawAt.cell R2.out 3
              simp at p0 p1 p2 p3
              go_wp2_with fail
              with_reducible refine (CNO.out _).mono ?_
              rintro e w3 ⟨rfl, hq3⟩
              have HB3 := Lib.hid (HB2.out.trans (hq3.mono HB2.out.size))
              have R3 := Lib.hid (RawAt.below R2.out hq3 (RawAt.lt R2.out))
              clear hq3 CNO p0 p1 p2 p3
              have p0 := RawAt.cell R3.out 0
              have p1 := RawAt.cell R3.out 1
              have p2 := RawAt.cell R3.out 2
              have p3 := RawAt.cell R3.out 3
              simp at p0 p1 p2 p3
              go_wp2_with fail
              with_reducible refine (CRF.out _).mono ?_
              rintro e w4 ⟨rfl, hq4⟩
              have HB4 := Lib.hid (HB3.out.trans (hq4.mono HB3.out.size))
              have R4 := Lib.hid (RawAt.below R3.out hq4 (RawAt.lt R3.out))
              clear hq4 CRF p0 p1 p2 p3
              have p0 := RawAt.cell R4.out 0
              have p1 := RawAt.cell R4.out 1
              have p2 := RawAt.cell R4.out 2
              have p3 := RawAt.cell R4.out 3
              simp at p0 p1 p2 p3
              go_wp2_with fail
              with_reducible refine (dMid_any _).mono ?_
              rintro e w9 ⟨rfl, hb9⟩
              have HB9 := Lib.hid (HB4.out.trans (hb9.mono HB4.out.size))
              clear p0 p1 p2 p3
              go_wp2
              go_ret
              exact ⟨rfl, HB9.out⟩
          · have CNO := Lib.hid fun W => dApply_no A B n c m d ⟨pa, pb, pc, pd⟩ _ rfl (fun h => t3 h.1.2.2) (by omega) W
            have k3 : decide (pb ≤ (n : Int)) = false := decide_eq_false t3
            clear hA hl hc hB hy hd okl2 oko2
            have p0 := RawAt.cell R2.out 0
            have p1 := RawAt.cell R2.out 1
            have p2 := RawAt.cell R2.out 2
            have p3 := RawAt.cell R2.out 3
            simp at p0 p1 p2 p3
            go_wp2_with fail
            with_reducible refine (CNO.out _).mono ?_
            rintro e w3 ⟨rfl, hq3⟩
            have HB3 := Lib.hid (HB2.out.trans (hq3.mono HB2.out.size))
            have R3 := Lib.hid (RawAt.below R2.out hq3 (RawAt.lt R2.out))
            clear hq3 CNO p0 p1 p2 p3
            have p0 := RawAt.cell R3.out 0
            have p1 := RawAt.cell R3.out 1
            have p2 := RawAt.cell R3.out 2
            have p3 := RawAt.cell R3.out 3
            simp at p0 p1 p2 p3
            go_wp2_with fail
            with_reducible refine (dMid_any _).mono ?_
            rintro e w9 ⟨rfl, hb9⟩
            have HB9 := Lib.hid (HB3.out.trans (hb9.mono HB3.out.size))
            clear p0 p1 p2 p3
            go_wp2
            go_ret
            exact ⟨rfl, HB9.out⟩
        · have CNO := Lib.hid fun W => dApply_no A B n c m d ⟨pa, pb, pc, pd⟩ _ rfl (fun h => t2 h.1.2.1) (by omega) W
          have k2 : decide (pa ≤ pb) = false := decide_eq_false t2
          clear hA hl hc hB hy hd okl2 oko2
          have p0 := RawAt.cell R2.out 0
          have p1 := RawAt.cell R2.out 1
          have p2 := RawAt.cell R2.out 2
          have p3 := RawAt.cell R2.out 3
          simp at p0 p1 p2 p3
          go_wp2_with fail
          with_reducible refine (CNO.out _).mono ?_
          rintro e w3 ⟨rfl, hq3⟩
          have HB3 := Lib.hid (HB2.out.trans (hq3.mono HB2.out.size))
          have R3 := Lib.hid (RawAt.below R2.out hq3 (RawAt.lt R2.out))
          clear hq3 CNO p0 p1 p2 p3
          have p0 := RawAt.cell R3.out 0
          have p1 := RawAt.cell R3.out 1
          have p2 := RawAt.cell R3.out 2
          have p3 := RawAt.cell R3.out 3
          simp at p0 p1 p2 p3
          go_wp2_with fail
          with_reducible refine (dMid_any _).mono ?_
          rintro e w9 ⟨rfl, hb9⟩
          have HB9 := Lib.hid (HB3.out.trans (hb9.mono HB3.out.size))
          clear p0 p1 p2 p3
          go_wp2
          go_ret
          exact ⟨rfl, HB9.out⟩
      · have CNO := Lib.hid fun W => dApply_no A B n c m d ⟨pa, pb, pc, pd⟩ _ rfl (fun h => t1 h.1.1) (by omega) W
        have k1 : decide (0 ≤ pa) = false := decide_eq_false t1
        clear hA hl hc hB hy hd okl2 oko2
        have p0 := RawAt.cell R2.out 0
        have p1 := RawAt.cell R2.out 1
        have p2 := RawAt.cell R2.out 2
        have p3 := RawAt.cell R2.out 3
        simp at p0 p1 p2 p3
        go_wp2_with fail
        with_reducible refine (CNO.out _).mono ?_
        rintro e w3 ⟨rfl, hq3⟩
        have HB3 := Lib.hid (HB2.out.trans (hq3.mono HB2.out.size))
        have R3 := Lib.hid (RawAt.below R2.out hq3 (RawAt.lt R2.out))
        clear hq3 CNO p0 p1 p2 p3
        have p0 := RawAt.cell R3.out 0
        have p1 := RawAt.cell R3.out 1
        have p2 := RawAt.cell R3.out 2
        have p3 := RawAt.cell R3.out 3
        simp at p0 p1 p2 p3
        go_wp2_with fail
        with_reducible refine (dMid_any _).mono ?_
        rintro e w9 ⟨rfl, hb9⟩
        have HB9 := Lib.hid (HB3.out.trans (hb9.mono HB3.out.size))
        clear p0 p1 p2 p3
        go_wp2
        go_ret
        exact ⟨rfl, HB9.out⟩
    · go_wp2_with fail
      with_reducible refine (dMid_any _).mono ?_
      rintro e w9 ⟨rfl, hb9⟩
      have HB9 := Lib.hid (HB2.out.trans (hb9.mono HB2.out.size))
      go_wp2
      go_ret
      exact ⟨rfl, HB9.out⟩
  · go_wp2_with fail
    with_reducible refine (dMid_any _).mono ?_
    rintro e w9 ⟨rfl, hb9⟩
    have HB9 := Lib.hid (HB1.out.trans (hb9.mono HB1.out.size))
    go_wp2
    go_ret
    exact ⟨rfl, HB9.out⟩
end Go.Proofs.Ytebjkgeldjgnfaa
