/- The law StopsPlaces, whole. -/
import Derived.Test.YtbalafgoengppaaDoorStW4
import Derived.Test.YtbalafgoengppaaDoorClO
namespace Go.Proofs.YtbalafgoengppaaDoor
open Go.RowKit
set_option linter.unusedVariables false
theorem PlRes.three {D : List Int} {q : Int} {e : Ending} (h : PlRes D q e) : ∃ pa pm pf : Int, e = .returned (.tuple #[.int .i64 pa, .int .i64 pm, .int .i64 pf]) ∧ ((q < 0 ∨ D.sum < q) ∧ pa = 0 ∧ pm = 0 ∧ pf = 1 ∨ 0 ≤ q ∧ q ≤ D.sum ∧ ∃ p : Nat, PlaceIs D q p ∧ pa = p ∧ pm = q - (D.take p).sum ∧ pf = 0) := by
  rcases h with ⟨h, rfl⟩ | ⟨h1, h2, p, h3, rfl⟩
  · exact ⟨0, 0, 1, rfl, .inl ⟨h, rfl, rfl, rfl⟩⟩
  · exact ⟨_, _, 0, rfl, .inr ⟨h1, h2, p, h3, rfl, rfl, rfl⟩⟩
theorem sCell_three (tv : Value) (f : Int → Int) (A : Option Addr) (n c : Nat) (l : List Int) (tab q : Int) (w : World) (hA : IntsAt .i32 w A l) (hl : l.length = n) (hn : n ≤ 1000000) (hc : n ≤ c) (h1 : 1 ≤ tab) (h2 : tab ≤ 16) :
    ∃ cv ce : Int, (((q < 0 ∨ (n : Int) < q) ∧ cv = 0 ∧ ce = 1) ∨ ∃ k : Nat, q = k ∧ k ≤ n ∧ cv = ((szs f tab 0 l).take k).sum ∧ ce = 0) ∧ ∀ W, Below w.heap.size w W → TabV W tv f → Calls Tryd.prog 20 #[tv, .slice A n c, .agg #[.int .i64 tab, .int .i64 q]] W fun e w' => e = .returned (.tuple #[.int .i64 cv, .int .i64 ce]) ∧ Below W.heap.size W w' := by
  by_cases h : q < 0 ∨ (n : Int) < q
  · exact ⟨0, 1, .inl ⟨h, rfl, rfl⟩, fun W hb hT => sCell_no tv A n c tab q W hn (.inr h)⟩
  · obtain ⟨k, rfl⟩ : ∃ k : Nat, q = k := ⟨q.toNat, by omega⟩
    exact ⟨_, 0, .inr ⟨k, rfl, by omega, rfl, rfl⟩, fun W hb hT => by rw [szs_take]; exact sCell_any tv f A n c l tab k W hT (hA.below hb) hl hn hc h1 h2 (by omega)⟩
set_option maxHeartbeats 16000000 in
set_option maxRecDepth 100000 in
theorem stopsPlaces_neg (A : Option Addr) (n c : Nat) (l : List Int) (tab q : Int) (w : World) (h : Tabs w) (hA : IntsAt .i32 w A l) (hl : l.length = n) (hn : ¬ 500 < n) (hnc : n ≤ c) (t1 : 1 ≤ tab) (t2 : tab ≤ 16) (gq : q < 0) :
    Calls Tryd.prog 4 #[.slice A n c, .agg #[.int .i64 tab, .int .i64 q]] w fun e w' => e = .returned (.bool true) ∧ Below w.heap.size w w' := by
  have CT := Lib.hid fun W (hb : Below w.heap.size w W) => stTab_any W (h.below hb)
  have CP := Lib.hid fun W (hb : Below w.heap.size w W) => plain_any W (h.below hb)
  have CR := Lib.hid fun W => rsRight_yes tab W t1 t2
  have hbt : ∀ tb W, TabAt W tb zeroL wideL → TabV W (.pointer (some ⟨tb, 0, none⟩)) (wid zeroL wideL) := fun tb W ht => TabV.of ht
  have CQ := Lib.hid fun tb W (hb : Below w.heap.size w W) ht => sPlace_any (.pointer (some ⟨tb, 0, none⟩)) (wid zeroL wideL) A n c l tab q W (TabV.of ht) (hA.below hb) hl (by omega) t1 t2
  have CL := Lib.hid fun tb W (hb : Below w.heap.size w W) ht => rsCells_any tb zeroL wideL A n c l tab W ht (hA.below hb) hl (by omega) t1 t2
  have CC := Lib.hid fun tb => sCell_three (.pointer (some ⟨tb, 0, none⟩)) (wid zeroL wideL) A n c l tab q w hA hl (by omega) hnc t1 t2
  have hlen := szs_length (wid zeroL wideL) tab l 0
  rw [hl] at hlen
  obtain ⟨hbd, _, hsum⟩ := szs_bd (wid_bd zeroL wideL) t1 t2 l 0 (by omega)
  rw [hl] at hsum
  have HZ := Lib.hid hlen
  have HBD := Lib.hid hbd
  clear hlen hbd hbt
  generalize szs (wid zeroL wideL) tab 0 l = D at *
  have HCL : Hid ((cls D).length = n + 1) := Lib.hid (by rw [cls_length, HZ.out])
  have HCN : Hid (nth (cls D) n = D.sum) := Lib.hid (by have := cls_at D n (by rw [HZ.out]; exact Nat.le_refl _); rw [List.take_of_length_le (by rw [HZ.out]; exact Nat.le_refl _)] at this; exact this)
  obtain ⟨S, hS⟩ : ∃ S, S = D.sum := ⟨_, rfl⟩
  rw [← hS] at HCN hsum
  have HS := Lib.hid hS
  clear hS h hA hl
  have x1 : Below w.heap.size w (w.alloc (.cells #[.int .i64 tab, .int .i64 q] 37)) := (Below.refl _ _).alloc (Nat.le_refl _) _
  have R1 : RawAt 37 (w.alloc (.cells #[.int .i64 tab, .int .i64 q] 37)) w.heap.size #[.int .i64 tab, .int .i64 q] := heap_alloc_new w _
  have HR1 := Lib.hid R1
  have HX1 := Lib.hid x1
  clear R1 x1
  go_enter Tryd.func4, Tryd.ntmps4
  go_wp2_with fail
  generalize w.alloc (.cells #[.int .i64 tab, .int .i64 q] 37) = W1 at *
  have MK : Hid (∀ W : World, Below W1.heap.size W1 W → (fun W => W.cell? ⟨w.heap.size, 0, none⟩ = some (.int .i64 tab) ∧ W.cell? ⟨w.heap.size, 1, none⟩ = some (.int .i64 q)) W) := fun W hW => ⟨RawAt.cell (HR1.out.below hW (HR1.out.lt)) 0, RawAt.cell (HR1.out.below hW (HR1.out.lt)) 1⟩
  have hW2 : Below W1.heap.size W1 W1.drew := (Below.refl _ _).drew
  refine wp_region_noPanic ?_
  refine wp_region_held_drew (S := (fun W => W.cell? ⟨w.heap.size, 0, none⟩ = some (.int .i64 tab) ∧ W.cell? ⟨w.heap.size, 1, none⟩ = some (.int .i64 q))) (by kernel_rfl) (MK.out _ hW2) (fun hHeld => ?_)
  refine wpAnyH_take (i := 1) (v := ?_) rfl (by kernel_rfl) (by kernel_rfl) (by kernel_rfl) (fun _ _ _ h => h) (Or.inl ⟨by rfl, ?_⟩) hHeld ?_
  rotate_left
  · intro w hSw
    (try dsimp only at hSw)
    go_simp
    try with_reducible rfl
  go_simp
  refine wpAnyH_take (i := 2) (v := ?_) rfl (by kernel_rfl) (by kernel_rfl) (by kernel_rfl) (fun _ _ _ h => h) (Or.inl ⟨by rfl, ?_⟩) hHeld ?_
  rotate_left
  · intro w hSw
    (try dsimp only at hSw)
    go_simp
    try with_reducible rfl
  go_simp
  refine wpAnyH_ready (rs := [0]) (by kernel_rfl) (by simp) ?_
  refine AllReadyH.cons rfl (fun K hK => ?_) ?_
  rotate_left
  · exact AllReadyH.nil
  go_simp
  go_wp2_with (first | (go_at_call 15; ((with_reducible refine (CP.out _ (HX1.out.trans (hW2.mono HX1.out.size))).mono ?_); rintro e w3 ⟨tb, rfl, hb3, ht3⟩); have hW2 := hW2.trans (hb3.mono hW2.size); obtain ⟨cv, ce, hcv, hcc⟩ := CC.out tb; have CC3 := Lib.hid (hcc w3 (HX1.out.trans (hW2.mono HX1.out.size)) (TabV.of ht3)); have HCV := Lib.hid hcv; clear hcc hcv ht3) | (go_at_call 20; ((with_reducible refine (CC3.out).mono ?_); rintro e w4 ⟨rfl, hb4⟩); have hW2 := hW2.trans (hb4.mono hW2.size)))
  refine hK.out _ _ (MK.out _ hW2) (fun hHeld => ?_)
  clear hK K
  go_simp
  refine wpAnyH_ready (rs := [3]) (by kernel_rfl) (by simp) ?_
  refine AllReadyH.cons rfl (fun K hK => ?_) ?_
  rotate_left
  · exact AllReadyH.nil
  go_simp
  go_wp2_with (first | (go_at_call 15; ((with_reducible refine (CP.out _ (HX1.out.trans (hW2.mono HX1.out.size))).mono ?_); rintro e w3 ⟨tb, rfl, hb3, ht3⟩); have hW2 := hW2.trans (hb3.mono hW2.size); obtain ⟨cv, ce, hcv, hcc⟩ := CC.out tb; have CC3 := Lib.hid (hcc w3 (HX1.out.trans (hW2.mono HX1.out.size)) (TabV.of ht3)); have HCV := Lib.hid hcv; clear hcc hcv ht3) | (go_at_call 20; ((with_reducible refine (CC3.out).mono ?_); rintro e w4 ⟨rfl, hb4⟩); have hW2 := hW2.trans (hb4.mono hW2.size)))
  refine hK.out _ _ (MK.out _ hW2) (fun hHeld => ?_)
  clear hK K
  go_simp
  refine wpAnyH_take (i := 4) (v := ?_) rfl (by kernel_rfl) (by kernel_rfl) (by kernel_rfl) (fun _ _ _ h => h) (Or.inl ⟨by rfl, ?_⟩) hHeld ?_
  rotate_left
  · intro w hSw
    (try dsimp only at hSw)
    go_simp
    try with_reducible rfl
  go_simp
  refine wpAnyH_take (i := 5) (v := ?_) rfl (by kernel_rfl) (by kernel_rfl) (by kernel_rfl) (fun _ _ _ h => h) (Or.inl ⟨by rfl, ?_⟩) hHeld ?_
  rotate_left
  · intro w hSw
    (try dsimp only at hSw)
    go_simp
    try with_reducible rfl
  go_simp
  refine wpAnyH_take (i := 6) (v := ?_) rfl (by kernel_rfl) (by kernel_rfl) (by kernel_rfl) (fun _ _ _ h => h) (Or.inl ⟨by rfl, ?_⟩) hHeld ?_
  rotate_left
  · intro w hSw
    (try dsimp only at hSw)
    go_simp
    try with_reducible rfl
  go_simp
  refine wpAnyH_take (i := 7) (v := ?_) rfl (by kernel_rfl) (by kernel_rfl) (by kernel_rfl) (fun _ _ _ h => h) (Or.inl ⟨by rfl, ?_⟩) hHeld ?_
  rotate_left
  · intro w hSw
    (try dsimp only at hSw)
    go_simp
    try with_reducible rfl
  go_simp
  refine wpAnyH_take (i := 8) (v := ?_) rfl (by kernel_rfl) (by kernel_rfl) (by kernel_rfl) (fun _ _ _ h => h) (Or.inl ⟨by rfl, ?_⟩) hHeld ?_
  rotate_left
  · intro w hSw
    (try dsimp only at hSw)
    go_simp
    try with_reducible rfl
  go_simp
  refine wpAnyH_done (by kernel_rfl) ?_ _
  refine NoPanic.normal ?_
  clear CC3 CC hHeld hb4 hb3
  generalize w4 = W4 at *
  go_wp2_with fail
  have hW2 : Below W1.heap.size W1 W4.drew := hW2.drew
  refine wp_region_noPanic ?_
  refine wp_region_held_drew (S := (fun W => W.cell? ⟨w.heap.size, 0, none⟩ = some (.int .i64 tab) ∧ W.cell? ⟨w.heap.size, 1, none⟩ = some (.int .i64 q))) (by kernel_rfl) (MK.out _ hW2) (fun hHeld => ?_)
  refine wpAnyH_take (i := 1) (v := ?_) rfl (by kernel_rfl) (by kernel_rfl) (by kernel_rfl) (fun _ _ _ h => h) (Or.inl ⟨by rfl, ?_⟩) hHeld ?_
  rotate_left
  · intro w hSw
    (try dsimp only at hSw)
    go_simp
    try with_reducible rfl
  go_simp
  refine wpAnyH_take (i := 2) (v := ?_) rfl (by kernel_rfl) (by kernel_rfl) (by kernel_rfl) (fun _ _ _ h => h) (Or.inl ⟨by rfl, ?_⟩) hHeld ?_
  rotate_left
  · intro w hSw
    (try dsimp only at hSw)
    go_simp
    try with_reducible rfl
  go_simp
  refine wpAnyH_ready (rs := [0]) (by kernel_rfl) (by simp) ?_
  refine AllReadyH.cons rfl (fun K hK => ?_) ?_
  rotate_left
  · exact AllReadyH.nil
  go_simp
  go_wp2_with (first | (go_at_call 15; ((with_reducible refine (CP.out _ (HX1.out.trans (hW2.mono HX1.out.size))).mono ?_); rintro e w3 ⟨tb, rfl, hb3, ht3⟩); have hW2 := hW2.trans (hb3.mono hW2.size); have CQ3 := Lib.hid (CQ.out tb w3 (HX1.out.trans (hW2.mono HX1.out.size)) ht3); clear ht3) | (go_at_call 21; ((with_reducible refine (CQ3.out).mono ?_); rintro e w5 ⟨hpl, hb5⟩); obtain ⟨pa, pm, pf, rfl, hpl3⟩ := hpl.three; clear hpl; have hW2 := hW2.trans (hb5.mono hW2.size)))
  refine hK.out _ _ (MK.out _ hW2) (fun hHeld => ?_)
  clear hK K
  go_simp
  refine wpAnyH_ready (rs := [3]) (by kernel_rfl) (by simp) ?_
  refine AllReadyH.cons rfl (fun K hK => ?_) ?_
  rotate_left
  · exact AllReadyH.nil
  go_simp
  go_wp2_with (first | (go_at_call 15; ((with_reducible refine (CP.out _ (HX1.out.trans (hW2.mono HX1.out.size))).mono ?_); rintro e w3 ⟨tb, rfl, hb3, ht3⟩); have hW2 := hW2.trans (hb3.mono hW2.size); have CQ3 := Lib.hid (CQ.out tb w3 (HX1.out.trans (hW2.mono HX1.out.size)) ht3); clear ht3) | (go_at_call 21; ((with_reducible refine (CQ3.out).mono ?_); rintro e w5 ⟨hpl, hb5⟩); obtain ⟨pa, pm, pf, rfl, hpl3⟩ := hpl.three; clear hpl; have hW2 := hW2.trans (hb5.mono hW2.size)))
  refine hK.out _ _ (MK.out _ hW2) (fun hHeld => ?_)
  clear hK K
  go_simp
  refine wpAnyH_take (i := 4) (v := ?_) rfl (by kernel_rfl) (by kernel_rfl) (by kernel_rfl) (fun _ _ _ h => h) (Or.inl ⟨by rfl, ?_⟩) hHeld ?_
  rotate_left
  · intro w hSw
    (try dsimp only at hSw)
    go_simp
    try with_reducible rfl
  go_simp
  refine wpAnyH_take (i := 5) (v := ?_) rfl (by kernel_rfl) (by kernel_rfl) (by kernel_rfl) (fun _ _ _ h => h) (Or.inl ⟨by rfl, ?_⟩) hHeld ?_
  rotate_left
  · intro w hSw
    (try dsimp only at hSw)
    go_simp
    try with_reducible rfl
  go_simp
  refine wpAnyH_take (i := 6) (v := ?_) rfl (by kernel_rfl) (by kernel_rfl) (by kernel_rfl) (fun _ _ _ h => h) (Or.inl ⟨by rfl, ?_⟩) hHeld ?_
  rotate_left
  · intro w hSw
    (try dsimp only at hSw)
    go_simp
    try with_reducible rfl
  go_simp
  refine wpAnyH_take (i := 7) (v := ?_) rfl (by kernel_rfl) (by kernel_rfl) (by kernel_rfl) (fun _ _ _ h => h) (Or.inl ⟨by rfl, ?_⟩) hHeld ?_
  rotate_left
  · intro w hSw
    (try dsimp only at hSw)
    go_simp
    try with_reducible rfl
  go_simp
  refine wpAnyH_take (i := 8) (v := ?_) rfl (by kernel_rfl) (by kernel_rfl) (by kernel_rfl) (fun _ _ _ h => h) (Or.inl ⟨by rfl, ?_⟩) hHeld ?_
  rotate_left
  · intro w hSw
    (try dsimp only at hSw)
    go_simp
    try with_reducible rfl
  go_simp
  refine wpAnyH_take (i := 9) (v := ?_) rfl (by kernel_rfl) (by kernel_rfl) (by kernel_rfl) (fun _ _ _ h => h) (Or.inl ⟨by rfl, ?_⟩) hHeld ?_
  rotate_left
  · intro w hSw
    (try dsimp only at hSw)
    go_simp
    try with_reducible rfl
  go_simp
  refine wpAnyH_take (i := 10) (v := ?_) rfl (by kernel_rfl) (by kernel_rfl) (by kernel_rfl) (fun _ _ _ h => h) (Or.inl ⟨by rfl, ?_⟩) hHeld ?_
  rotate_left
  · intro w hSw
    (try dsimp only at hSw)
    go_simp
    try with_reducible rfl
  go_simp
  refine wpAnyH_done (by kernel_rfl) ?_ _
  refine NoPanic.normal ?_
  have HPL := Lib.hid hpl3
  clear CQ3 CQ hHeld hb5 hb3 hpl3
  generalize w5 = W5 at *
  have a0 := (MK.out _ hW2).1
  go_wp2_with fail
  with_reducible refine (CR.out _).mono ?_
  rintro e w6 ⟨rfl, hw6⟩
  have hw6 := hw6.symm
  subst hw6
  go_wp2_with fail
  clear a0
  have hW2 : Below W1.heap.size W1 W5.drew := hW2.drew
  refine wp_region_noPanic ?_
  refine wp_region_held_drew (S := (fun W => W.cell? ⟨w.heap.size, 0, none⟩ = some (.int .i64 tab) ∧ W.cell? ⟨w.heap.size, 1, none⟩ = some (.int .i64 q))) (by kernel_rfl) (MK.out _ hW2) (fun hHeld => ?_)
  refine wpAnyH_take (i := 1) (v := ?_) rfl (by kernel_rfl) (by kernel_rfl) (by kernel_rfl) (fun _ _ _ h => h) (Or.inl ⟨by rfl, ?_⟩) hHeld ?_
  rotate_left
  · intro w hSw
    (try dsimp only at hSw)
    go_simp
    try with_reducible rfl
  go_simp
  refine wpAnyH_take (i := 2) (v := ?_) rfl (by kernel_rfl) (by kernel_rfl) (by kernel_rfl) (fun _ _ _ h => h) (Or.inl ⟨by rfl, ?_⟩) hHeld ?_
  rotate_left
  · intro w hSw
    (try dsimp only at hSw)
    go_simp
    try with_reducible rfl
  go_simp
  refine wpAnyH_take (i := 3) (v := ?_) rfl (by kernel_rfl) (by kernel_rfl) (by kernel_rfl) (fun _ _ _ h => h) (Or.inl ⟨by rfl, ?_⟩) hHeld ?_
  rotate_left
  · intro w hSw
    (try dsimp only at hSw)
    go_simp
    try with_reducible rfl
  go_simp
  refine wpAnyH_ready (rs := [0]) (by kernel_rfl) (by simp) ?_
  refine AllReadyH.cons rfl (fun K hK => ?_) ?_
  rotate_left
  · exact AllReadyH.nil
  go_simp
  go_wp2_with (first | (go_at_call 19; ((with_reducible refine (rplain_any _).mono ?_); rintro e w3 ⟨tb, rfl, hb3, ht3⟩); have hW2 := hW2.trans (hb3.mono hW2.size); have CL3 := Lib.hid (CL.out tb w3 (HX1.out.trans (hW2.mono HX1.out.size)) ht3); clear ht3) | (go_at_call 22; ((with_reducible refine (CL3.out).mono ?_); rintro e w7 ⟨v7, rfl, o7, hb7⟩); obtain ⟨A10, c10, rfl, I10, _, _⟩ := IntsAt.of_own o7; have hW2 := hW2.trans (hb7.mono hW2.size)))
  refine hK.out _ _ (MK.out _ hW2) (fun hHeld => ?_)
  clear hK K
  go_simp
  refine wpAnyH_ready (rs := [4]) (by kernel_rfl) (by simp) ?_
  refine AllReadyH.cons rfl (fun K hK => ?_) ?_
  rotate_left
  · exact AllReadyH.nil
  go_simp
  go_wp2_with (first | (go_at_call 19; ((with_reducible refine (rplain_any _).mono ?_); rintro e w3 ⟨tb, rfl, hb3, ht3⟩); have hW2 := hW2.trans (hb3.mono hW2.size); have CL3 := Lib.hid (CL.out tb w3 (HX1.out.trans (hW2.mono HX1.out.size)) ht3); clear ht3) | (go_at_call 22; ((with_reducible refine (CL3.out).mono ?_); rintro e w7 ⟨v7, rfl, o7, hb7⟩); obtain ⟨A10, c10, rfl, I10, _, _⟩ := IntsAt.of_own o7; have hW2 := hW2.trans (hb7.mono hW2.size)))
  refine hK.out _ _ (MK.out _ hW2) (fun hHeld => ?_)
  clear hK K
  go_simp
  refine wpAnyH_take (i := 5) (v := ?_) rfl (by kernel_rfl) (by kernel_rfl) (by kernel_rfl) (fun _ _ _ h => h) (Or.inl ⟨by rfl, ?_⟩) hHeld ?_
  rotate_left
  · intro w hSw
    (try dsimp only at hSw)
    go_simp
    try with_reducible rfl
  go_simp
  refine wpAnyH_done (by kernel_rfl) ?_ _
  refine NoPanic.normal ?_
  have HIC := Lib.hid I10
  have HB7 := Lib.hid (HX1.out.trans (hW2.mono HX1.out.size))
  have A1 := Lib.hid (MK.out _ hW2).2
  have HN7 := Lib.hid (Nat.lt_of_lt_of_le HR1.out.lt hW2.size)
  clear CL3 CL hHeld hb7 hb3 o7 I10 hW2 MK HX1 HR1 CP CR
  generalize w7 = W7 at *
  have a1 := A1.out
  obtain ⟨bC, offC, rfl, hbC, hcC⟩ := HIC.out (by rw [HCL.out]; omega)
  have en := hcC n (by rw [HCL.out]; omega)
  rw [HCN.out] at en
  have EN := Lib.hid en
  have HCC := Lib.hid hcC
  clear hcC en
  have k8 : decide (q < 0) = true := decide_eq_true gq
  rcases HCV.out with ⟨_, rfl, rfl⟩ | ⟨k, h0, _⟩
  case inr => exact absurd gq (by omega)
  clear HCV
  go_wp2_with fail
  have k13 : decide (q < 0) = true := decide_eq_true gq
  rcases HPL.out with ⟨_, rfl, rfl, rfl⟩ | ⟨h0, _⟩
  case inr => exact absurd gq (by omega)
  refine wp_region_noPanic ?_
  refine wp_region_held_drew (S := (fun W => W.cell? ⟨w.heap.size, 1, none⟩ = some (.int .i64 q))) (by kernel_rfl) (A1.out) (fun hHeld => ?_)
  refine wpAnyH_take (i := 0) (v := ?_) rfl (by kernel_rfl) (by kernel_rfl) (by kernel_rfl) (fun _ _ _ h => h) (Or.inl ⟨by rfl, ?_⟩) hHeld ?_
  rotate_left
  · intro w hSw
    (try dsimp only at hSw)
    go_simp
    try with_reducible rfl
  go_simp
  refine wpAnyH_take (i := 1) (v := ?_) rfl (by kernel_rfl) (by kernel_rfl) (by kernel_rfl) (fun _ _ _ h => h) (Or.inl ⟨by rfl, ?_⟩) hHeld ?_
  rotate_left
  · intro w hSw
    (try dsimp only at hSw)
    go_simp
    try with_reducible rfl
  go_simp
  refine wpAnyH_take (i := 2) (v := ?_) rfl (by kernel_rfl) (by kernel_rfl) (by kernel_rfl) (fun _ _ _ h => h) (Or.inl ⟨by rfl, ?_⟩) hHeld ?_
  rotate_left
  · intro w hSw
    (try dsimp only at hSw)
    go_simp
    try with_reducible rfl
  go_simp
  refine wpAnyH_take (i := 3) (v := ?_) rfl (by kernel_rfl) (by kernel_rfl) (by kernel_rfl) (fun _ _ _ h => h) (Or.inl ⟨by rfl, ?_⟩) hHeld ?_
  rotate_left
  · intro w hSw
    (try dsimp only at hSw)
    go_simp
    try with_reducible rfl
  go_simp
  refine wpAnyH_take (i := 4) (v := undef) rfl (by kernel_rfl) (by kernel_rfl) (by kernel_rfl) (fun _ _ _ h => h) (Or.inr ⟨by rfl, rfl⟩) hHeld ?_
  go_simp
  refine wpAnyH_take (i := 5) (v := undef) rfl (by kernel_rfl) (by kernel_rfl) (by kernel_rfl) (fun _ _ _ h => h) (Or.inr ⟨by rfl, rfl⟩) hHeld ?_
  go_simp
  refine wpAnyH_take (i := 6) (v := undef) rfl (by kernel_rfl) (by kernel_rfl) (by kernel_rfl) (fun _ _ _ h => h) (Or.inr ⟨by rfl, rfl⟩) hHeld ?_
  go_simp
  refine wpAnyH_take (i := 7) (v := undef) rfl (by kernel_rfl) (by kernel_rfl) (by kernel_rfl) (fun _ _ _ h => h) (Or.inr ⟨by rfl, rfl⟩) hHeld ?_
  go_simp
  refine wpAnyH_take (i := 8) (v := undef) rfl (by kernel_rfl) (by kernel_rfl) (by kernel_rfl) (fun _ _ _ h => h) (Or.inr ⟨by rfl, rfl⟩) hHeld ?_
  go_simp
  refine wpAnyH_take (i := 9) (v := undef) rfl (by kernel_rfl) (by kernel_rfl) (by kernel_rfl) (fun _ _ _ h => h) (Or.inr ⟨by rfl, rfl⟩) hHeld ?_
  go_simp
  refine wpAnyH_take (i := 10) (v := undef) rfl (by kernel_rfl) (by kernel_rfl) (by kernel_rfl) (fun _ _ _ h => h) (Or.inr ⟨by rfl, rfl⟩) hHeld ?_
  go_simp
  refine wpAnyH_take (i := 11) (v := undef) rfl (by kernel_rfl) (by kernel_rfl) (by kernel_rfl) (fun _ _ _ h => h) (Or.inr ⟨by rfl, rfl⟩) hHeld ?_
  go_simp
  refine wpAnyH_take (i := 12) (v := ?_) rfl (by kernel_rfl) (by kernel_rfl) (by kernel_rfl) (fun _ _ _ h => h) (Or.inl ⟨by rfl, ?_⟩) hHeld ?_
  rotate_left
  · intro w hSw
    (try dsimp only at hSw)
    go_simp
    try with_reducible rfl
  go_simp
  refine wpAnyH_done (by kernel_rfl) ?_ _
  refine NoPanic.normal ?_
  have HBZ : Hid (Below w.heap.size w W7.drew) := Lib.hid HB7.out.drew
  go_wp2_with fail
  with_reducible refine (CT.out _ HBZ.out).mono ?_
  rintro e w9 ⟨rfl, hb9⟩
  have HB9 := Lib.hid (HBZ.out.trans (hb9.mono HBZ.out.size))
  clear hb9
  go_wp2
  go_ret
  exact ⟨rfl, HB9.out⟩
end Go.Proofs.YtbalafgoengppaaDoor
