/- The law StopsPlaces, whole. -/
import Derived.Test.YtbalafgoengppaaDoorStW5
import Derived.Test.YtbalafgoengppaaDoorClO
namespace Go.Proofs.YtbalafgoengppaaDoor
open Go.RowKit
set_option linter.unusedVariables false
set_option maxHeartbeats 16000000 in
set_option maxRecDepth 100000 in
theorem stopsPlaces_in (A : Option Addr) (n c : Nat) (l : List Int) (tab q : Int) (w : World) (h : Tabs w) (hA : IntsAt .i32 w A l) (hl : l.length = n) (hn : ¬ 500 < n) (hnc : n ≤ c) (t1 : 1 ≤ tab) (t2 : tab ≤ 16) (gq : ¬ q < 0) (gn : ¬ (n : Int) < q) :
    Calls Tryd.prog 4 #[.slice A n c, .agg #[.int .i64 tab, .int .i64 q]] w fun e w' => e = .returned (.bool true) ∧ Below w.heap.size w w' := by
  have CT := Lib.hid fun W (hb : Below w.heap.size w W) => stTab_any W (h.below hb)
  have CP := Lib.hid fun W (hb : Below w.heap.size w W) => plain_any W (h.below hb)
  have CR := Lib.hid fun W => rsRight_yes tab W t1 t2
  have hbt : ∀ tb W, TabAt W tb zeroL wideL → TabV W (.pointer (some ⟨tb, 0, none⟩)) (wid zeroL wideL) := fun tb W ht => TabV.of ht
  have CQ := Lib.hid fun tb W (hb : Below w.heap.size w W) ht => sPlace_any (.pointer (some ⟨tb, 0, none⟩)) (wid zeroL wideL) A n c l tab q W (TabV.of ht) (hA.below hb) hl (by omega) t1 t2
  have CL := Lib.hid fun tb W (hb : Below w.heap.size w W) ht => rsCells_any tb zeroL wideL A n c l tab W ht (hA.below hb) hl (by omega) t1 t2
  have CC := Lib.hid fun tb => sCell_three (.pointer (some ⟨tb, 0, none⟩)) (wid zeroL wideL) A n c l tab q w hA hl (by omega) hnc t1 t2
  have hlen := szs_length (wid zeroL wideL) tab l 0
  rw [hl] at hlen
  obtain ⟨hbd, _, hsum⟩ := szs_bd (wid_bd zeroL wideL) t1 t2 l 0 (by omega)
  rw [hl] at hsum
  have HZ := Lib.hid hlen
  have HBD := Lib.hid hbd
  clear hlen hbd hbt
  generalize szs (wid zeroL wideL) tab 0 l = D at *
  have HCL : Hid ((cls D).length = n + 1) := Lib.hid (by rw [cls_length, HZ.out])
  have HCN : Hid (nth (cls D) n = D.sum) := Lib.hid (by have := cls_at D n (by rw [HZ.out]; exact Nat.le_refl _); rw [List.take_of_length_le (by rw [HZ.out]; exact Nat.le_refl _)] at this; exact this)
  obtain ⟨S, hS⟩ : ∃ S, S = D.sum := ⟨_, rfl⟩
  rw [← hS] at HCN hsum
  have HS := Lib.hid hS
  clear hS h hA hl
  have x1 : Below w.heap.size w (w.alloc (.cells #[.int .i64 tab, .int .i64 q] 37)) := (Below.refl _ _).alloc (Nat.le_refl _) _
  have R1 : RawAt 37 (w.alloc (.cells #[.int .i64 tab, .int .i64 q] 37)) w.heap.size #[.int .i64 tab, .int .i64 q] := heap_alloc_new w _
  have HR1 := Lib.hid R1
  have HX1 := Lib.hid x1
  clear R1 x1
  go_enter Tryd.func4, Tryd.ntmps4
  go_wp2_with fail
  generalize w.alloc (.cells #[.int .i64 tab, .int .i64 q] 37) = W1 at *
  have MK : Hid (∀ W : World, Below W1.heap.size W1 W → (fun W => W.cell? ⟨w.heap.size, 0, none⟩ = some (.int .i64 tab) ∧ W.cell? ⟨w.heap.size, 1, none⟩ = some (.int .i64 q)) W) := fun W hW => ⟨RawAt.cell (HR1.out.below hW (HR1.out.lt)) 0, RawAt.cell (HR1.out.below hW (HR1.out.lt)) 1⟩
  have hW2 : Below W1.heap.size W1 W1.drew := (Below.refl _ _).drew
  refine wp_region_noPanic ?_
  refine wp_region_held_drew (S := (fun W => W.cell? ⟨w.heap.size, 0, none⟩ = some (.int .i64 tab) ∧ W.cell? ⟨w.heap.size, 1, none⟩ = some (.int .i64 q))) (by kernel_rfl) (MK.out _ hW2) (fun hHeld => ?_)
  refine wpAnyH_take (i := 1) (v := ?_) rfl (by kernel_rfl) (by kernel_rfl) (by kernel_rfl) (fun _ _ _ h => h) (Or.inl ⟨by rfl, ?_⟩) hHeld ?_
  rotate_left
  · intro w hSw
    (try dsimp only at hSw)
    go_simp
    try with_reducible rfl
  go_simp
  refine wpAnyH_take (i := 2) (v := ?_) rfl (by kernel_rfl) (by kernel_rfl) (by kernel_rfl) (fun _ _ _ h => h) (Or.inl ⟨by rfl, ?_⟩) hHeld ?_
  rotate_left
  · intro w hSw
    (try dsimp only at hSw)
    go_simp
    try with_reducible rfl
  go_simp
  refine wpAnyH_ready (rs := [0]) (by kernel_rfl) (by simp) ?_
  refine AllReadyH.cons rfl (fun K hK => ?_) ?_
  rotate_left
  · exact AllReadyH.nil
  go_simp
  go_wp2_with (first | (go_at_call 15; ((with_reducible refine (CP.out _ (HX1.out.trans (hW2.mono HX1.out.size))).mono ?_); rintro e w3 ⟨tb, rfl, hb3, ht3⟩); have hW2 := hW2.trans (hb3.mono hW2.size); obtain ⟨cv, ce, hcv, hcc⟩ := CC.out tb; have CC3 := Lib.hid (hcc w3 (HX1.out.trans (hW2.mono HX1.out.size)) (TabV.of ht3)); have HCV := Lib.hid hcv; clear hcc hcv ht3) | (go_at_call 20; ((with_reducible refine (CC3.out).mono ?_); rintro e w4 ⟨rfl, hb4⟩); have hW2 := hW2.trans (hb4.mono hW2.size)))
  refine hK.out _ _ (MK.out _ hW2) (fun hHeld => ?_)
  clear hK K
  go_simp
  refine wpAnyH_ready (rs := [3]) (by kernel_rfl) (by simp) ?_
  refine AllReadyH.cons rfl (fun K hK => ?_) ?_
  rotate_left
  · exact AllReadyH.nil
  go_simp
  go_wp2_with (first | (go_at_call 15; ((with_reducible refine (CP.out _ (HX1.out.trans (hW2.mono HX1.out.size))).mono ?_); rintro e w3 ⟨tb, rfl, hb3, ht3⟩); have hW2 := hW2.trans (hb3.mono hW2.size); obtain ⟨cv, ce, hcv, hcc⟩ := CC.out tb; have CC3 := Lib.hid (hcc w3 (HX1.out.trans (hW2.mono HX1.out.size)) (TabV.of ht3)); have HCV := Lib.hid hcv; clear hcc hcv ht3) | (go_at_call 20; ((with_reducible refine (CC3.out).mono ?_); rintro e w4 ⟨rfl, hb4⟩); have hW2 := hW2.trans (hb4.mono hW2.size)))
  refine hK.out _ _ (MK.out _ hW2) (fun hHeld => ?_)
  clear hK K
  go_simp
  refine wpAnyH_take (i := 4) (v := ?_) rfl (by kernel_rfl) (by kernel_rfl) (by kernel_rfl) (fun _ _ _ h => h) (Or.inl ⟨by rfl, ?_⟩) hHeld ?_
  rotate_left
  · intro w hSw
    (try dsimp only at hSw)
    go_simp
    try with_reducible rfl
  go_simp
  refine wpAnyH_take (i := 5) (v := ?_) rfl (by kernel_rfl) (by kernel_rfl) (by kernel_rfl) (fun _ _ _ h => h) (Or.inl ⟨by rfl, ?_⟩) hHeld ?_
  rotate_left
  · intro w hSw
    (try dsimp only at hSw)
    go_simp
    try with_reducible rfl
  go_simp
  refine wpAnyH_take (i := 6) (v := ?_) rfl (by kernel_rfl) (by kernel_rfl) (by kernel_rfl) (fun _ _ _ h => h) (Or.inl ⟨by rfl, ?_⟩) hHeld ?_
  rotate_left
  · intro w hSw
    (try dsimp only at hSw)
    go_simp
    try with_reducible rfl
  go_simp
  refine wpAnyH_take (i := 7) (v := ?_) rfl (by kernel_rfl) (by kernel_rfl) (by kernel_rfl) (fun _ _ _ h => h) (Or.inl ⟨by rfl, ?_⟩) hHeld ?_
  rotate_left
  · intro w hSw
    (try dsimp only at hSw)
    go_simp
    try with_reducible rfl
  go_simp
  refine wpAnyH_take (i := 8) (v := ?_) rfl (by kernel_rfl) (by kernel_rfl) (by kernel_rfl) (fun _ _ _ h => h) (Or.inl ⟨by rfl, ?_⟩) hHeld ?_
  rotate_left
  · intro w hSw
    (try dsimp only at hSw)
    go_simp
    try with_reducible rfl
  go_simp
  refine wpAnyH_done (by kernel_rfl) ?_ _
  refine NoPanic.normal ?_
  clear CC3 CC hHeld hb4 hb3
  generalize w4 = W4 at *
  go_wp2_with fail
  have hW2 : Below W1.heap.size W1 W4.drew := hW2.drew
  refine wp_region_noPanic ?_
  refine wp_region_held_drew (S := (fun W => W.cell? ⟨w.heap.size, 0, none⟩ = some (.int .i64 tab) ∧ W.cell? ⟨w.heap.size, 1, none⟩ = some (.int .i64 q))) (by kernel_rfl) (MK.out _ hW2) (fun hHeld => ?_)
  refine wpAnyH_take (i := 1) (v := ?_) rfl (by kernel_rfl) (by kernel_rfl) (by kernel_rfl) (fun _ _ _ h => h) (Or.inl ⟨by rfl, ?_⟩) hHeld ?_
  rotate_left
  · intro w hSw
    (try dsimp only at hSw)
    go_simp
    try with_reducible rfl
  go_simp
  refine wpAnyH_take (i := 2) (v := ?_) rfl (by kernel_rfl) (by kernel_rfl) (by kernel_rfl) (fun _ _ _ h => h) (Or.inl ⟨by rfl, ?_⟩) hHeld ?_
  rotate_left
  · intro w hSw
    (try dsimp only at hSw)
    go_simp
    try with_reducible rfl
  go_simp
  refine wpAnyH_ready (rs := [0]) (by kernel_rfl) (by simp) ?_
  refine AllReadyH.cons rfl (fun K hK => ?_) ?_
  rotate_left
  · exact AllReadyH.nil
  go_simp
  go_wp2_with (first | (go_at_call 15; ((with_reducible refine (CP.out _ (HX1.out.trans (hW2.mono HX1.out.size))).mono ?_); rintro e w3 ⟨tb, rfl, hb3, ht3⟩); have hW2 := hW2.trans (hb3.mono hW2.size); have CQ3 := Lib.hid (CQ.out tb w3 (HX1.out.trans (hW2.mono HX1.out.size)) ht3); clear ht3) | (go_at_call 21; ((with_reducible refine (CQ3.out).mono ?_); rintro e w5 ⟨hpl, hb5⟩); obtain ⟨pa, pm, pf, rfl, hpl3⟩ := hpl.three; clear hpl; have hW2 := hW2.trans (hb5.mono hW2.size)))
  refine hK.out _ _ (MK.out _ hW2) (fun hHeld => ?_)
  clear hK K
  go_simp
  refine wpAnyH_ready (rs := [3]) (by kernel_rfl) (by simp) ?_
  refine AllReadyH.cons rfl (fun K hK => ?_) ?_
  rotate_left
  · exact AllReadyH.nil
  go_simp
  go_wp2_with (first | (go_at_call 15; ((with_reducible refine (CP.out _ (HX1.out.trans (hW2.mono HX1.out.size))).mono ?_); rintro e w3 ⟨tb, rfl, hb3, ht3⟩); have hW2 := hW2.trans (hb3.mono hW2.size); have CQ3 := Lib.hid (CQ.out tb w3 (HX1.out.trans (hW2.mono HX1.out.size)) ht3); clear ht3) | (go_at_call 21; ((with_reducible refine (CQ3.out).mono ?_); rintro e w5 ⟨hpl, hb5⟩); obtain ⟨pa, pm, pf, rfl, hpl3⟩ := hpl.three; clear hpl; have hW2 := hW2.trans (hb5.mono hW2.size)))
  refine hK.out _ _ (MK.out _ hW2) (fun hHeld => ?_)
  clear hK K
  go_simp
  refine wpAnyH_take (i := 4) (v := ?_) rfl (by kernel_rfl) (by kernel_rfl) (by kernel_rfl) (fun _ _ _ h => h) (Or.inl ⟨by rfl, ?_⟩) hHeld ?_
  rotate_left
  · intro w hSw
    (try dsimp only at hSw)
    go_simp
    try with_reducible rfl
  go_simp
  refine wpAnyH_take (i := 5) (v := ?_) rfl (by kernel_rfl) (by kernel_rfl) (by kernel_rfl) (fun _ _ _ h => h) (Or.inl ⟨by rfl, ?_⟩) hHeld ?_
  rotate_left
  · intro w hSw
    (try dsimp only at hSw)
    go_simp
    try with_reducible rfl
  go_simp
  refine wpAnyH_take (i := 6) (v := ?_) rfl (by kernel_rfl) (by kernel_rfl) (by kernel_rfl) (fun _ _ _ h => h) (Or.inl ⟨by rfl, ?_⟩) hHeld ?_
  rotate_left
  · intro w hSw
    (try dsimp only at hSw)
    go_simp
    try with_reducible rfl
  go_simp
  refine wpAnyH_take (i := 7) (v := ?_) rfl (by kernel_rfl) (by kernel_rfl) (by kernel_rfl) (fun _ _ _ h => h) (Or.inl ⟨by rfl, ?_⟩) hHeld ?_
  rotate_left
  · intro w hSw
    (try dsimp only at hSw)
    go_simp
    try with_reducible rfl
  go_simp
  refine wpAnyH_take (i := 8) (v := ?_) rfl (by kernel_rfl) (by kernel_rfl) (by kernel_rfl) (fun _ _ _ h => h) (Or.inl ⟨by rfl, ?_⟩) hHeld ?_
  rotate_left
  · intro w hSw
    (try dsimp only at hSw)
    go_simp
    try with_reducible rfl
  go_simp
  refine wpAnyH_take (i := 9) (v := ?_) rfl (by kernel_rfl) (by kernel_rfl) (by kernel_rfl) (fun _ _ _ h => h) (Or.inl ⟨by rfl, ?_⟩) hHeld ?_
  rotate_left
  · intro w hSw
    (try dsimp only at hSw)
    go_simp
    try with_reducible rfl
  go_simp
  refine wpAnyH_take (i := 10) (v := ?_) rfl (by kernel_rfl) (by kernel_rfl) (by kernel_rfl) (fun _ _ _ h => h) (Or.inl ⟨by rfl, ?_⟩) hHeld ?_
  rotate_left
  · intro w hSw
    (try dsimp only at hSw)
    go_simp
    try with_reducible rfl
  go_simp
  refine wpAnyH_done (by kernel_rfl) ?_ _
  refine NoPanic.normal ?_
  have HPL := Lib.hid hpl3
  clear CQ3 CQ hHeld hb5 hb3 hpl3
  generalize w5 = W5 at *
  have a0 := (MK.out _ hW2).1
  go_wp2_with fail
  with_reducible refine (CR.out _).mono ?_
  rintro e w6 ⟨rfl, hw6⟩
  have hw6 := hw6.symm
  subst hw6
  go_wp2_with fail
  clear a0
  have hW2 : Below W1.heap.size W1 W5.drew := hW2.drew
  refine wp_region_noPanic ?_
  refine wp_region_held_drew (S := (fun W => W.cell? ⟨w.heap.size, 0, none⟩ = some (.int .i64 tab) ∧ W.cell? ⟨w.heap.size, 1, none⟩ = some (.int .i64 q))) (by kernel_rfl) (MK.out _ hW2) (fun hHeld => ?_)
  refine wpAnyH_take (i := 1) (v := ?_) rfl (by kernel_rfl) (by kernel_rfl) (by kernel_rfl) (fun _ _ _ h => h) (Or.inl ⟨by rfl, ?_⟩) hHeld ?_
  rotate_left
  · intro w hSw
    (try dsimp only at hSw)
    go_simp
    try with_reducible rfl
  go_simp
  refine wpAnyH_take (i := 2) (v := ?_) rfl (by kernel_rfl) (by kernel_rfl) (by kernel_rfl) (fun _ _ _ h => h) (Or.inl ⟨by rfl, ?_⟩) hHeld ?_
  rotate_left
  · intro w hSw
    (try dsimp only at hSw)
    go_simp
    try with_reducible rfl
  go_simp
  refine wpAnyH_take (i := 3) (v := ?_) rfl (by kernel_rfl) (by kernel_rfl) (by kernel_rfl) (fun _ _ _ h => h) (Or.inl ⟨by rfl, ?_⟩) hHeld ?_
  rotate_left
  · intro w hSw
    (try dsimp only at hSw)
    go_simp
    try with_reducible rfl
  go_simp
  refine wpAnyH_ready (rs := [0]) (by kernel_rfl) (by simp) ?_
  refine AllReadyH.cons rfl (fun K hK => ?_) ?_
  rotate_left
  · exact AllReadyH.nil
  go_simp
  go_wp2_with (first | (go_at_call 19; ((with_reducible refine (rplain_any _).mono ?_); rintro e w3 ⟨tb, rfl, hb3, ht3⟩); have hW2 := hW2.trans (hb3.mono hW2.size); have CL3 := Lib.hid (CL.out tb w3 (HX1.out.trans (hW2.mono HX1.out.size)) ht3); clear ht3) | (go_at_call 22; ((with_reducible refine (CL3.out).mono ?_); rintro e w7 ⟨v7, rfl, o7, hb7⟩); obtain ⟨A10, c10, rfl, I10, _, _⟩ := IntsAt.of_own o7; have hW2 := hW2.trans (hb7.mono hW2.size)))
  refine hK.out _ _ (MK.out _ hW2) (fun hHeld => ?_)
  clear hK K
  go_simp
  refine wpAnyH_ready (rs := [4]) (by kernel_rfl) (by simp) ?_
  refine AllReadyH.cons rfl (fun K hK => ?_) ?_
  rotate_left
  · exact AllReadyH.nil
  go_simp
  go_wp2_with (first | (go_at_call 19; ((with_reducible refine (rplain_any _).mono ?_); rintro e w3 ⟨tb, rfl, hb3, ht3⟩); have hW2 := hW2.trans (hb3.mono hW2.size); have CL3 := Lib.hid (CL.out tb w3 (HX1.out.trans (hW2.mono HX1.out.size)) ht3); clear ht3) | (go_at_call 22; ((with_reducible refine (CL3.out).mono ?_); rintro e w7 ⟨v7, rfl, o7, hb7⟩); obtain ⟨A10, c10, rfl, I10, _, _⟩ := IntsAt.of_own o7; have hW2 := hW2.trans (hb7.mono hW2.size)))
  refine hK.out _ _ (MK.out _ hW2) (fun hHeld => ?_)
  clear hK K
  go_simp
  refine wpAnyH_take (i := 5) (v := ?_) rfl (by kernel_rfl) (by kernel_rfl) (by kernel_rfl) (fun _ _ _ h => h) (Or.inl ⟨by rfl, ?_⟩) hHeld ?_
  rotate_left
  · intro w hSw
    (try dsimp only at hSw)
    go_simp
    try with_reducible rfl
  go_simp
  refine wpAnyH_done (by kernel_rfl) ?_ _
  refine NoPanic.normal ?_
  have HIC := Lib.hid I10
  have HB7 := Lib.hid (HX1.out.trans (hW2.mono HX1.out.size))
  have A1 := Lib.hid (MK.out _ hW2).2
  have HN7 := Lib.hid (Nat.lt_of_lt_of_le HR1.out.lt hW2.size)
  clear CL3 CL hHeld hb7 hb3 o7 I10 hW2 MK HX1 HR1 CP CR
  generalize w7 = W7 at *
  have a1 := A1.out
  obtain ⟨bC, offC, rfl, hbC, hcC⟩ := HIC.out (by rw [HCL.out]; omega)
  have en := hcC n (by rw [HCL.out]; omega)
  rw [HCN.out] at en
  have EN := Lib.hid en
  have HCC := Lib.hid hcC
  clear hcC en
  have k8 : decide (q < 0) = false := decide_eq_false (by omega)
  have k9 : decide ((n : Int) < q) = false := decide_eq_false (by omega)
  rcases HCV.out with ⟨h0 | h0, _⟩ | ⟨k, h0, h1, hcv, rfl⟩
  case inl.inl => exact absurd h0 (by omega)
  case inl.inr => exact absurd h0 (by omega)
  have ek := HCC.out k (by rw [HCL.out]; omega)
  rw [show nth (cls D) k = (D.take k).sum from cls_at D k (by rw [HZ.out]; exact h1), ← hcv] at ek
  obtain rfl : k = q.toNat := by omega
  have i5 : (0 : Int) ≤ q := by omega
  have i6 : q < (n : Int) + 1 := by omega
  clear HCV hcv h0
  go_wp2_with fail
  clear ek
  have k13 : decide (q < 0) = false := decide_eq_false (by omega)
  have en := EN.out
  have i7 : (n : Int) < (n : Int) + 1 := by omega
  have i8 : (0 : Int) ≤ n := by omega
  by_cases gs : S < q
  · have k14 : decide (S < q) = true := decide_eq_true gs
    rcases HPL.out with ⟨_, rfl, rfl, rfl⟩ | ⟨_, h0, _⟩
    case inr => exact absurd gs (by rw [HS.out]; omega)
    refine wp_region_noPanic ?_
    refine wp_region_held_drew (S := (fun W => W.cell? ⟨w.heap.size, 1, none⟩ = some (.int .i64 q) ∧ W.cell? ⟨bC, offC + n, none⟩ = some (.int .i64 S))) (by kernel_rfl) (⟨A1.out, en⟩) (fun hHeld => ?_)
    refine wpAnyH_take (i := 0) (v := ?_) rfl (by kernel_rfl) (by kernel_rfl) (by kernel_rfl) (fun _ _ _ h => h) (Or.inl ⟨by rfl, ?_⟩) hHeld ?_
    rotate_left
    · intro w hSw
      (try dsimp only at hSw)
      go_simp
      try with_reducible rfl
    go_simp
    refine wpAnyH_take (i := 1) (v := ?_) rfl (by kernel_rfl) (by kernel_rfl) (by kernel_rfl) (fun _ _ _ h => h) (Or.inl ⟨by rfl, ?_⟩) hHeld ?_
    rotate_left
    · intro w hSw
      (try dsimp only at hSw)
      go_simp
      try with_reducible rfl
    go_simp
    refine wpAnyH_take (i := 2) (v := ?_) rfl (by kernel_rfl) (by kernel_rfl) (by kernel_rfl) (fun _ _ _ h => h) (Or.inl ⟨by rfl, ?_⟩) hHeld ?_
    rotate_left
    · intro w hSw
      (try dsimp only at hSw)
      go_simp
      try with_reducible rfl
    go_simp
    refine wpAnyH_take (i := 3) (v := ?_) rfl (by kernel_rfl) (by kernel_rfl) (by kernel_rfl) (fun _ _ _ h => h) (Or.inl ⟨by rfl, ?_⟩) hHeld ?_
    rotate_left
    · intro w hSw
      (try dsimp only at hSw)
      go_simp
      try with_reducible rfl
    go_simp
    refine wpAnyH_take (i := 4) (v := ?_) rfl (by kernel_rfl) (by kernel_rfl) (by kernel_rfl) (fun _ _ _ h => h) (Or.inl ⟨by rfl, ?_⟩) hHeld ?_
    rotate_left
    · intro w hSw
      (try dsimp only at hSw)
      go_simp
      try with_reducible rfl
    go_simp
    refine wpAnyH_take (i := 5) (v := ?_) rfl (by kernel_rfl) (by kernel_rfl) (by kernel_rfl) (fun _ _ _ h => h) (Or.inl ⟨by rfl, ?_⟩) hHeld ?_
    rotate_left
    · intro w hSw
      (try dsimp only at hSw)
      go_simp
      try with_reducible rfl
    go_simp
    refine wpAnyH_take (i := 6) (v := ?_) rfl (by kernel_rfl) (by kernel_rfl) (by kernel_rfl) (fun _ _ _ h => h) (Or.inl ⟨by rfl, ?_⟩) hHeld ?_
    rotate_left
    · intro w hSw
      (try dsimp only at hSw)
      go_simp
      try with_reducible rfl
    go_simp
    refine wpAnyH_take (i := 7) (v := ?_) rfl (by kernel_rfl) (by kernel_rfl) (by kernel_rfl) (fun _ _ _ h => h) (Or.inl ⟨by rfl, ?_⟩) hHeld ?_
    rotate_left
    · intro w hSw
      (try dsimp only at hSw)
      go_simp
      try with_reducible rfl
    go_simp
    refine wpAnyH_take (i := 8) (v := ?_) rfl (by kernel_rfl) (by kernel_rfl) (by kernel_rfl) (fun _ _ _ h => h) (Or.inl ⟨by rfl, ?_⟩) hHeld ?_
    rotate_left
    · intro w hSw
      (try dsimp only at hSw)
      go_simp
      try with_reducible rfl
    go_simp
    refine wpAnyH_take (i := 9) (v := ?_) rfl (by kernel_rfl) (by kernel_rfl) (by kernel_rfl) (fun _ _ _ h => h) (Or.inl ⟨by rfl, ?_⟩) hHeld ?_
    rotate_left
    · intro w hSw
      (try dsimp only at hSw)
      go_simp
      try with_reducible rfl
    go_simp
    refine wpAnyH_take (i := 10) (v := ?_) rfl (by kernel_rfl) (by kernel_rfl) (by kernel_rfl) (fun _ _ _ h => h) (Or.inl ⟨by rfl, ?_⟩) hHeld ?_
    rotate_left
    · intro w hSw
      (try dsimp only at hSw)
      go_simp
      try with_reducible rfl
    go_simp
    refine wpAnyH_take (i := 11) (v := ?_) rfl (by kernel_rfl) (by kernel_rfl) (by kernel_rfl) (fun _ _ _ h => h) (Or.inl ⟨by rfl, ?_⟩) hHeld ?_
    rotate_left
    · intro w hSw
      (try dsimp only at hSw)
      go_simp
      try with_reducible rfl
    go_simp
    refine wpAnyH_take (i := 12) (v := ?_) rfl (by kernel_rfl) (by kernel_rfl) (by kernel_rfl) (fun _ _ _ h => h) (Or.inl ⟨by rfl, ?_⟩) hHeld ?_
    rotate_left
    · intro w hSw
      (try dsimp only at hSw)
      go_simp
      try with_reducible rfl
    go_simp
    refine wpAnyH_done (by kernel_rfl) ?_ _
    refine NoPanic.normal ?_
    have HBZ : Hid (Below w.heap.size w W7.drew) := Lib.hid HB7.out.drew
    go_wp2_with fail
    with_reducible refine (CT.out _ HBZ.out).mono ?_
    rintro e w9 ⟨rfl, hb9⟩
    have HB9 := Lib.hid (HBZ.out.trans (hb9.mono HBZ.out.size))
    clear hb9
    go_wp2
    go_ret
    exact ⟨rfl, HB9.out⟩
  · have k14 : decide (S < q) = false := decide_eq_false (by omega)
    rcases HPL.out with ⟨h0 | h0, _⟩ | ⟨_, _, p, hp, rfl, rfl, rfl⟩
    case inl.inl => exact absurd h0 (by omega)
    case inl.inr => exact absurd h0 (by rw [← HS.out]; omega)
    have HP := Lib.hid hp
    clear hp
    refine wp_region_noPanic ?_
    refine wp_region_held_drew (S := (fun W => W.cell? ⟨w.heap.size, 1, none⟩ = some (.int .i64 q) ∧ W.cell? ⟨bC, offC + n, none⟩ = some (.int .i64 S))) (by kernel_rfl) (⟨A1.out, en⟩) (fun hHeld => ?_)
    refine wpAnyH_take (i := 0) (v := ?_) rfl (by kernel_rfl) (by kernel_rfl) (by kernel_rfl) (fun _ _ _ h => h) (Or.inl ⟨by rfl, ?_⟩) hHeld ?_
    rotate_left
    · intro w hSw
      (try dsimp only at hSw)
      go_simp
      try with_reducible rfl
    go_simp
    refine wpAnyH_take (i := 1) (v := ?_) rfl (by kernel_rfl) (by kernel_rfl) (by kernel_rfl) (fun _ _ _ h => h) (Or.inl ⟨by rfl, ?_⟩) hHeld ?_
    rotate_left
    · intro w hSw
      (try dsimp only at hSw)
      go_simp
      try with_reducible rfl
    go_simp
    refine wpAnyH_take (i := 2) (v := ?_) rfl (by kernel_rfl) (by kernel_rfl) (by kernel_rfl) (fun _ _ _ h => h) (Or.inl ⟨by rfl, ?_⟩) hHeld ?_
    rotate_left
    · intro w hSw
      (try dsimp only at hSw)
      go_simp
      try with_reducible rfl
    go_simp
    refine wpAnyH_take (i := 3) (v := ?_) rfl (by kernel_rfl) (by kernel_rfl) (by kernel_rfl) (fun _ _ _ h => h) (Or.inl ⟨by rfl, ?_⟩) hHeld ?_
    rotate_left
    · intro w hSw
      (try dsimp only at hSw)
      go_simp
      try with_reducible rfl
    go_simp
    refine wpAnyH_take (i := 4) (v := ?_) rfl (by kernel_rfl) (by kernel_rfl) (by kernel_rfl) (fun _ _ _ h => h) (Or.inl ⟨by rfl, ?_⟩) hHeld ?_
    rotate_left
    · intro w hSw
      (try dsimp only at hSw)
      go_simp
      try with_reducible rfl
    go_simp
    refine wpAnyH_take (i := 5) (v := ?_) rfl (by kernel_rfl) (by kernel_rfl) (by kernel_rfl) (fun _ _ _ h => h) (Or.inl ⟨by rfl, ?_⟩) hHeld ?_
    rotate_left
    · intro w hSw
      (try dsimp only at hSw)
      go_simp
      try with_reducible rfl
    go_simp
    refine wpAnyH_take (i := 6) (v := ?_) rfl (by kernel_rfl) (by kernel_rfl) (by kernel_rfl) (fun _ _ _ h => h) (Or.inl ⟨by rfl, ?_⟩) hHeld ?_
    rotate_left
    · intro w hSw
      (try dsimp only at hSw)
      go_simp
      try with_reducible rfl
    go_simp
    refine wpAnyH_take (i := 7) (v := ?_) rfl (by kernel_rfl) (by kernel_rfl) (by kernel_rfl) (fun _ _ _ h => h) (Or.inl ⟨by rfl, ?_⟩) hHeld ?_
    rotate_left
    · intro w hSw
      (try dsimp only at hSw)
      go_simp
      try with_reducible rfl
    go_simp
    refine wpAnyH_take (i := 8) (v := ?_) rfl (by kernel_rfl) (by kernel_rfl) (by kernel_rfl) (fun _ _ _ h => h) (Or.inl ⟨by rfl, ?_⟩) hHeld ?_
    rotate_left
    · intro w hSw
      (try dsimp only at hSw)
      go_simp
      try with_reducible rfl
    go_simp
    refine wpAnyH_take (i := 9) (v := ?_) rfl (by kernel_rfl) (by kernel_rfl) (by kernel_rfl) (fun _ _ _ h => h) (Or.inl ⟨by rfl, ?_⟩) hHeld ?_
    rotate_left
    · intro w hSw
      (try dsimp only at hSw)
      go_simp
      try with_reducible rfl
    go_simp
    refine wpAnyH_take (i := 10) (v := ?_) rfl (by kernel_rfl) (by kernel_rfl) (by kernel_rfl) (fun _ _ _ h => h) (Or.inl ⟨by rfl, ?_⟩) hHeld ?_
    rotate_left
    · intro w hSw
      (try dsimp only at hSw)
      go_simp
      try with_reducible rfl
    go_simp
    refine wpAnyH_take (i := 11) (v := ?_) rfl (by kernel_rfl) (by kernel_rfl) (by kernel_rfl) (fun _ _ _ h => h) (Or.inl ⟨by rfl, ?_⟩) hHeld ?_
    rotate_left
    · intro w hSw
      (try dsimp only at hSw)
      go_simp
      try with_reducible rfl
    go_simp
    refine wpAnyH_take (i := 12) (v := ?_) rfl (by kernel_rfl) (by kernel_rfl) (by kernel_rfl) (fun _ _ _ h => h) (Or.inl ⟨by rfl, ?_⟩) hHeld ?_
    rotate_left
    · intro w hSw
      (try dsimp only at hSw)
      go_simp
      try with_reducible rfl
    go_simp
    refine wpAnyH_done (by kernel_rfl) ?_ _
    refine NoPanic.normal ?_
    have a1 : W7.drew.cell? ⟨w.heap.size, 1, none⟩ = some (.int .i64 q) := A1.out
    have HC8 : Hid (∀ k, k < (cls D).length → W7.drew.cell? ⟨bC, offC + k, none⟩ = some (.int .i64 (nth (cls D) k))) := Lib.hid HCC.out
    have HBZ : Hid (Below w.heap.size w W7.drew) := Lib.hid HB7.out.drew
    have hNs : w.heap.size < W7.drew.heap.size := HN7.out
    have hbC8 : bC < W7.drew.heap.size := hbC
    generalize W7.drew = W8 at *
    clear hHeld en A1 HCC HB7 HIC HPL k13 k14
    go_wp2_with fail
    go_loopg [11, 12, 13, 118] (n + 1) (fun g la x y i wr => ∃ (j p : Nat), i = .int .i64 j ∧ j ≤ n + 1 ∧ n + 1 - j ≤ g ∧ W8 = wr ∧ la = .int .i64 p ∧ Hid (p ≤ n ∧ (D.take p).sum ≤ q ∧ ∀ i, p < i → i < j → q < (D.take i).sum))
    case atStart => exact ⟨0, 0, rfl, by omega, by omega, rfl, rfl, Lib.hid ⟨by omega, by simp; omega, fun i h1 h2 => by omega⟩⟩
    case round =>
      obtain ⟨j, pp, rfl, h1, h2, rfl, rfl, hq⟩ := hrel
      by_cases hlt : j < n + 1
      · have c1 := HC8.out j (by rw [HCL.out]; exact hlt)
        rw [show nth (cls D) j = (D.take j).sum from cls_at D j (by rw [HZ.out]; omega)] at c1
        obtain ⟨q1, q2, q3⟩ := hq.out
        have HQ3 := Lib.hid q3
        have HQ2 := Lib.hid q2
        clear hq q2 q3
        have hsj : ∃ s, s = (D.take j).sum := ⟨_, rfl⟩
        obtain ⟨s, hs⟩ := hsj
        rw [← hs] at c1
        have HSJ := Lib.hid hs
        clear hs
        have i1 : (0 : Int) ≤ j := by omega
        have i2 : (j : Int) < (n : Int) + 1 := by omega
        by_cases hle : s ≤ q
        · have k15 : decide (s ≤ q) = true := decide_eq_true hle
          go_wp2_with fail
          go_roundg (gk - 1)
          case measure => omega
          case rel => exact ⟨j + 1, j, by go_num, by omega, by omega, rfl, rfl, Lib.hid ⟨by omega, by rw [← HSJ.out]; exact hle, fun i h1 h2 => by omega⟩⟩
        · have k15 : decide (s ≤ q) = false := decide_eq_false hle
          go_wp2_with fail
          go_roundg (gk - 1)
          case measure => omega
          case rel => exact ⟨j + 1, pp, by go_num, by omega, by omega, rfl, rfl, Lib.hid ⟨q1, HQ2.out, fun i h1 h2 => by
            by_cases e : i < j
            · exact HQ3.out i h1 e
            · obtain rfl : i = j := by omega
              rw [← HSJ.out]; omega⟩⟩
      · obtain ⟨q1, q2, q3⟩ := hq.out
        obtain rfl : p = pp := HP.out.unique ⟨by rw [HZ.out]; exact q1, q2, fun i h1 h2 => q3 i h1 (by rw [HZ.out] at h2; omega)⟩
        have c1 := HC8.out p (by rw [HCL.out]; omega)
        rw [show nth (cls D) p = (D.take p).sum from cls_at D p (by rw [HZ.out]; exact q1)] at c1
        have s0 := sum_nn (D.take p) (fun y hy => (HBD.out y (List.mem_of_mem_take hy)).1)
        have hqs : q ≤ 16000 := by omega
        generalize (D.take p).sum = s at *
        have hw : IntKind.i64.wrap (q - s) = q - s := IntWalk.i64_in _ (by omega)
        have i1 : (0 : Int) ≤ p := by omega
        have i2 : (p : Int) < (n : Int) + 1 := by omega
        have MK2 : Hid (∀ W : World, Below W8.heap.size W8 W → W.cell? ⟨w.heap.size, 1, none⟩ = some (.int .i64 q) ∧ W.cell? ⟨bC, offC + p, none⟩ = some (.int .i64 s)) := Lib.hid fun W hW => ⟨((old_cells hW).1 _ _ hNs).trans a1, ((old_cells hW).1 _ _ hbC8).trans c1⟩
        have hW2 : Below W8.heap.size W8 W8.drew := (Below.refl _ _).drew
        have CT2 := Lib.hid (CT.out W8.drew HBZ.out.drew)
        have HBY : Hid (Below w.heap.size w W8.drew) := Lib.hid HBZ.out.drew
        clear q3 hq
        go_wp2_with fail
        refine wp_region_noPanic ?_
        refine wp_region_held_drew (S := (fun W => W.cell? ⟨w.heap.size, 1, none⟩ = some (.int .i64 q) ∧ W.cell? ⟨bC, offC + p, none⟩ = some (.int .i64 s))) (by kernel_rfl) (MK2.out _ hW2) (fun hHeld => ?_)
        refine wpAnyH_take (i := 0) (v := ?_) rfl (by kernel_rfl) (by kernel_rfl) (by kernel_rfl) (fun _ _ _ h => h) (Or.inl ⟨by rfl, ?_⟩) hHeld ?_
        rotate_left
        · intro w hSw
          (try dsimp only at hSw)
          go_simp
          try with_reducible rfl
        go_simp
        refine wpAnyH_take (i := 1) (v := ?_) rfl (by kernel_rfl) (by kernel_rfl) (by kernel_rfl) (fun _ _ _ h => h) (Or.inl ⟨by rfl, ?_⟩) hHeld ?_
        rotate_left
        · intro w hSw
          (try dsimp only at hSw)
          go_simp
          try with_reducible rfl
        go_simp
        refine wpAnyH_take (i := 2) (v := ?_) rfl (by kernel_rfl) (by kernel_rfl) (by kernel_rfl) (fun _ _ _ h => h) (Or.inl ⟨by rfl, ?_⟩) hHeld ?_
        rotate_left
        · intro w hSw
          (try dsimp only at hSw)
          go_simp
          try with_reducible rfl
        go_simp
        refine wpAnyH_take (i := 3) (v := ?_) rfl (by kernel_rfl) (by kernel_rfl) (by kernel_rfl) (fun _ _ _ h => h) (Or.inl ⟨by rfl, ?_⟩) hHeld ?_
        rotate_left
        · intro w hSw
          (try dsimp only at hSw)
          go_simp
          try with_reducible rfl
        go_simp
        refine wpAnyH_take (i := 4) (v := ?_) rfl (by kernel_rfl) (by kernel_rfl) (by kernel_rfl) (fun _ _ _ h => h) (Or.inl ⟨by rfl, ?_⟩) hHeld ?_
        rotate_left
        · intro w hSw
          (try dsimp only at hSw)
          go_simp
          try with_reducible rfl
        go_simp
        refine wpAnyH_take (i := 5) (v := ?_) rfl (by kernel_rfl) (by kernel_rfl) (by kernel_rfl) (fun _ _ _ h => h) (Or.inl ⟨by rfl, ?_⟩) hHeld ?_
        rotate_left
        · intro w hSw
          (try dsimp only at hSw)
          go_simp
          try with_reducible rfl
        go_simp
        refine wpAnyH_take (i := 6) (v := ?_) rfl (by kernel_rfl) (by kernel_rfl) (by kernel_rfl) (fun _ _ _ h => h) (Or.inl ⟨by rfl, ?_⟩) hHeld ?_
        rotate_left
        · intro w hSw
          (try dsimp only at hSw)
          go_simp
          try with_reducible rfl
        go_simp
        refine wpAnyH_take (i := 7) (v := ?_) rfl (by kernel_rfl) (by kernel_rfl) (by kernel_rfl) (fun _ _ _ h => h) (Or.inl ⟨by rfl, ?_⟩) hHeld ?_
        rotate_left
        · intro w hSw
          (try dsimp only at hSw)
          go_simp
          try with_reducible rfl
        go_simp
        refine wpAnyH_take (i := 8) (v := ?_) rfl (by kernel_rfl) (by kernel_rfl) (by kernel_rfl) (fun _ _ _ h => h) (Or.inl ⟨by rfl, ?_⟩) hHeld ?_
        rotate_left
        · intro w hSw
          (try dsimp only at hSw)
          go_simp
          try with_reducible rfl
        go_simp
        refine wpAnyH_take (i := 9) (v := ?_) rfl (by kernel_rfl) (by kernel_rfl) (by kernel_rfl) (fun _ _ _ h => h) (Or.inl ⟨by rfl, ?_⟩) hHeld ?_
        rotate_left
        · intro w hSw
          (try dsimp only at hSw)
          go_simp
          try with_reducible rfl
        go_simp
        refine wpAnyH_take (i := 10) (v := ?_) rfl (by kernel_rfl) (by kernel_rfl) (by kernel_rfl) (fun _ _ _ h => h) (Or.inl ⟨by rfl, ?_⟩) hHeld ?_
        rotate_left
        · intro w hSw
          (try dsimp only at hSw)
          go_simp
          try with_reducible rfl
        go_simp
        refine wpAnyH_take (i := 11) (v := ?_) rfl (by kernel_rfl) (by kernel_rfl) (by kernel_rfl) (fun _ _ _ h => h) (Or.inl ⟨by rfl, ?_⟩) hHeld ?_
        rotate_left
        · intro w hSw
          (try dsimp only at hSw)
          go_simp
          try with_reducible rfl
        go_simp
        refine wpAnyH_take (i := 12) (v := ?_) rfl (by kernel_rfl) (by kernel_rfl) (by kernel_rfl) (fun _ _ _ h => h) (Or.inl ⟨by rfl, ?_⟩) hHeld ?_
        rotate_left
        · intro w hSw
          (try dsimp only at hSw)
          go_simp
          try with_reducible rfl
        go_simp
        refine wpAnyH_take (i := 13) (v := ?_) rfl (by kernel_rfl) (by kernel_rfl) (by kernel_rfl) (fun _ _ _ h => h) (Or.inl ⟨by rfl, ?_⟩) hHeld ?_
        rotate_left
        · intro w hSw
          (try dsimp only at hSw)
          go_simp
          try with_reducible rfl
        go_simp
        refine wpAnyH_take (i := 14) (v := ?_) rfl (by kernel_rfl) (by kernel_rfl) (by kernel_rfl) (fun _ _ _ h => h) (Or.inl ⟨by rfl, ?_⟩) hHeld ?_
        rotate_left
        · intro w hSw
          (try dsimp only at hSw)
          go_simp
          try with_reducible rfl
        go_simp
        refine wpAnyH_take (i := 15) (v := ?_) rfl (by kernel_rfl) (by kernel_rfl) (by kernel_rfl) (fun _ _ _ h => h) (Or.inl ⟨by rfl, ?_⟩) hHeld ?_
        rotate_left
        · intro w hSw
          (try dsimp only at hSw)
          go_simp
          try with_reducible rfl
        go_simp
        refine wpAnyH_take (i := 16) (v := ?_) rfl (by kernel_rfl) (by kernel_rfl) (by kernel_rfl) (fun _ _ _ h => h) (Or.inl ⟨by rfl, ?_⟩) hHeld ?_
        rotate_left
        · intro w hSw
          (try dsimp only at hSw)
          go_simp
          try with_reducible rfl
        go_simp
        refine wpAnyH_take (i := 17) (v := ?_) rfl (by kernel_rfl) (by kernel_rfl) (by kernel_rfl) (fun _ _ _ h => h) (Or.inl ⟨by rfl, ?_⟩) hHeld ?_
        rotate_left
        · intro w hSw
          (try dsimp only at hSw)
          go_simp
          try with_reducible rfl
        go_simp
        refine wpAnyH_take (i := 18) (v := ?_) rfl (by kernel_rfl) (by kernel_rfl) (by kernel_rfl) (fun _ _ _ h => h) (Or.inl ⟨by rfl, ?_⟩) hHeld ?_
        rotate_left
        · intro w hSw
          (try dsimp only at hSw)
          go_simp
          try with_reducible rfl
        go_simp
        refine wpAnyH_ready (rs := [19]) (by kernel_rfl) (by simp) ?_
        refine AllReadyH.cons rfl (fun K hK => ?_) ?_
        rotate_left
        · exact AllReadyH.nil
        go_simp
        go_wp2_with ((go_at_call 13; ((with_reducible refine (CT2.out).mono ?_); rintro e w9 ⟨rfl, hb9⟩); have hW2 := hW2.trans (hb9.mono hW2.size)))
        refine hK.out _ _ (MK2.out _ hW2) (fun hHeld => ?_)
        clear hK K
        go_simp
        refine wpAnyH_take (i := 20) (v := ?_) rfl (by kernel_rfl) (by kernel_rfl) (by kernel_rfl) (fun _ _ _ h => h) (Or.inl ⟨by rfl, ?_⟩) hHeld ?_
        rotate_left
        · intro w hSw
          (try dsimp only at hSw)
          go_simp
          try with_reducible rfl
        go_simp
        refine wpAnyH_take (i := 21) (v := ?_) rfl (by kernel_rfl) (by kernel_rfl) (by kernel_rfl) (fun _ _ _ h => h) (Or.inl ⟨by rfl, ?_⟩) hHeld ?_
        rotate_left
        · intro w hSw
          (try dsimp only at hSw)
          go_simp
          try with_reducible rfl
        go_simp
        refine wpAnyH_done (by kernel_rfl) ?_ _
        refine NoPanic.normal ?_
        have HB9 := Lib.hid (HBY.out.trans (hb9.mono HBY.out.size))
        clear hb9
        go_wp2
        go_ret
        exact ⟨rfl, HB9.out⟩
end Go.Proofs.YtbalafgoengppaaDoor
