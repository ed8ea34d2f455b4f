/- Inlays: the law's is. -/
import Derived.Test.YtmijlijgcaaiiaaInP
namespace Go.Proofs.Ytmijlijgcaaiiaa
open Go.RowKit Go.Sort
set_option linter.unusedVariables false
set_option maxHeartbeats 8000000 in
set_option maxRecDepth 100000 in
theorem is13_nil (r : Int) (hr : ¬ r = 0) (nn : Int) (A2 : Option Addr) (m2 c2 : Nat) (w : World) :
    Calls Try.prog 15 #[.pointer none, .int .i64 r, .agg #[.int .i64 nn, .slice A2 m2 c2, .int .i64 r]] w fun e w' => e = .returned (.bool true) ∧ Below w.heap.size w w' := by
  have k5 : (r != 0) = true := by simp [hr]
  have k6 : (r == 0) = false := by simp [hr]
  have k7 : decide (r = 0) = false := decide_eq_false hr
  have hW2 : Below w.heap.size w (w.alloc (.cells #[.int .i64 nn, .slice A2 m2 c2, .int .i64 r] 31)) := (Below.refl _ _).alloc (Nat.le_refl _) _
  have HWA := Lib.hid hW2
  clear hr hW2
  go_enter Try.func15, Try.ntmps15
  go_wp2_with fail
  refine wp_region_noPanic ?_
  refine wp_region_held_drew (S := (fun W => True)) (by kernel_rfl) (trivial) (fun hHeld => ?_)
  refine wpAnyH_take (i := 0) (v := ?_) rfl (by kernel_rfl) (by kernel_rfl) (by kernel_rfl) (fun _ _ _ h => h) (Or.inl ⟨by rfl, ?_⟩) hHeld ?_
  rotate_left
  · intro w hSw
    (try dsimp only at hSw)
    go_simp
    try with_reducible rfl
  go_simp
  refine wpAnyH_take (i := 1) (v := ?_) rfl (by kernel_rfl) (by kernel_rfl) (by kernel_rfl) (fun _ _ _ h => h) (Or.inl ⟨by rfl, ?_⟩) hHeld ?_
  rotate_left
  · intro w hSw
    (try dsimp only at hSw)
    go_simp
    try with_reducible rfl
  go_simp
  refine wpAnyH_take (i := 2) (v := ?_) rfl (by kernel_rfl) (by kernel_rfl) (by kernel_rfl) (fun _ _ _ h => h) (Or.inl ⟨by rfl, ?_⟩) hHeld ?_
  rotate_left
  · intro w hSw
    (try dsimp only at hSw)
    go_simp
    try with_reducible rfl
  go_simp
  refine wpAnyH_take (i := 3) (v := undef) rfl (by kernel_rfl) (by kernel_rfl) (by kernel_rfl) (fun _ _ _ h => h) (Or.inr ⟨by rfl, rfl⟩) hHeld ?_
  go_simp
  refine wpAnyH_take (i := 4) (v := undef) rfl (by kernel_rfl) (by kernel_rfl) (by kernel_rfl) (fun _ _ _ h => h) (Or.inr ⟨by rfl, rfl⟩) hHeld ?_
  go_simp
  refine wpAnyH_take (i := 5) (v := undef) rfl (by kernel_rfl) (by kernel_rfl) (by kernel_rfl) (fun _ _ _ h => h) (Or.inr ⟨by rfl, rfl⟩) hHeld ?_
  go_simp
  refine wpAnyH_take (i := 6) (v := undef) rfl (by kernel_rfl) (by kernel_rfl) (by kernel_rfl) (fun _ _ _ h => h) (Or.inr ⟨by rfl, rfl⟩) hHeld ?_
  go_simp
  refine wpAnyH_take (i := 7) (v := undef) rfl (by kernel_rfl) (by kernel_rfl) (by kernel_rfl) (fun _ _ _ h => h) (Or.inr ⟨by rfl, rfl⟩) hHeld ?_
  go_simp
  refine wpAnyH_take (i := 8) (v := undef) rfl (by kernel_rfl) (by kernel_rfl) (by kernel_rfl) (fun _ _ _ h => h) (Or.inr ⟨by rfl, rfl⟩) hHeld ?_
  go_simp
  refine wpAnyH_take (i := 9) (v := undef) rfl (by kernel_rfl) (by kernel_rfl) (by kernel_rfl) (fun _ _ _ h => h) (Or.inr ⟨by rfl, rfl⟩) hHeld ?_
  go_simp
  refine wpAnyH_take (i := 10) (v := undef) rfl (by kernel_rfl) (by kernel_rfl) (by kernel_rfl) (fun _ _ _ h => h) (Or.inr ⟨by rfl, rfl⟩) hHeld ?_
  go_simp
  refine wpAnyH_take (i := 11) (v := undef) rfl (by kernel_rfl) (by kernel_rfl) (by kernel_rfl) (fun _ _ _ h => h) (Or.inr ⟨by rfl, rfl⟩) hHeld ?_
  go_simp
  refine wpAnyH_take (i := 12) (v := undef) rfl (by kernel_rfl) (by kernel_rfl) (by kernel_rfl) (fun _ _ _ h => h) (Or.inr ⟨by rfl, rfl⟩) hHeld ?_
  go_simp
  refine wpAnyH_take (i := 13) (v := undef) rfl (by kernel_rfl) (by kernel_rfl) (by kernel_rfl) (fun _ _ _ h => h) (Or.inr ⟨by rfl, rfl⟩) hHeld ?_
  go_simp
  refine wpAnyH_take (i := 14) (v := undef) rfl (by kernel_rfl) (by kernel_rfl) (by kernel_rfl) (fun _ _ _ h => h) (Or.inr ⟨by rfl, rfl⟩) hHeld ?_
  go_simp
  refine wpAnyH_take (i := 15) (v := ?_) rfl (by kernel_rfl) (by kernel_rfl) (by kernel_rfl) (fun _ _ _ h => h) (Or.inl ⟨by rfl, ?_⟩) hHeld ?_
  rotate_left
  · intro w hSw
    (try dsimp only at hSw)
    go_simp
    try with_reducible rfl
  go_simp
  refine wpAnyH_take (i := 16) (v := ?_) rfl (by kernel_rfl) (by kernel_rfl) (by kernel_rfl) (fun _ _ _ h => h) (Or.inl ⟨by rfl, ?_⟩) hHeld ?_
  rotate_left
  · intro w hSw
    (try dsimp only at hSw)
    go_simp
    try with_reducible rfl
  go_simp
  refine wpAnyH_done (by kernel_rfl) ?_ _
  refine NoPanic.normal ?_
  go_wp2
  go_ret
  exact ⟨rfl, HWA.out.drew⟩
set_option maxHeartbeats 8000000 in
set_option maxRecDepth 100000 in
theorem is13_set {sb : Nat} {n : Int} {o : List In} {w : World} (h : ISet w sb n o) (ho : o.length ≤ 100000) (A2 : Option Addr) (m2 c2 : Nat) (hR : RowsAt encI 5 w A2 o) (hm : o.length = m2) :
    Calls Try.prog 15 #[.pointer (some ⟨sb, 0, none⟩), .int .i64 0, .agg #[.int .i64 n, .slice A2 m2 c2, .int .i64 0]] w fun e w' => e = .returned (.bool true) ∧ Below w.heap.size w w' := by
  have HR := Lib.hid hR
  have HM := Lib.hid hm
  have x1 : Below w.heap.size w (w.alloc (.cells #[.int .i64 n, .slice A2 m2 c2, .int .i64 0] 31)) := (Below.refl _ _).alloc (Nat.le_refl _) _
  have r1 : RawAt 31 (w.alloc (.cells #[.int .i64 n, .slice A2 m2 c2, .int .i64 0] 31)) w.heap.size #[.int .i64 n, .slice A2 m2 c2, .int .i64 0] := heap_alloc_new w _
  obtain ⟨W1, hW1⟩ : ∃ W1, W1 = w.alloc (.cells #[.int .i64 n, .slice A2 m2 c2, .int .i64 0] 31) := ⟨_, rfl⟩
  rw [← hW1] at x1 r1
  have HW1 := Lib.hid hW1
  have X1 := Lib.hid x1
  have HR1 := Lib.hid r1
  have CAL := Lib.hid fun (W : World) (hW : Below w.heap.size w W) => iAll_any (h.below hW) ho
  have CLE := Lib.hid fun (W : World) (hW : Below w.heap.size w W) => iLen_any (h.below hW)
  rw [hm] at CAL
  have MK : Hid (∀ W : World, Below W1.heap.size W1 W → W.cell? ⟨w.heap.size, 0, none⟩ = some (.int .i64 n) ∧ W.cell? ⟨w.heap.size, 1, none⟩ = some (.slice A2 m2 c2)) := Lib.hid fun W hW => by
    have q := RawAt.below HR1.out hW HR1.out.lt
    have e0 := RawAt.cell q 0
    have e1 := RawAt.cell q 1
    simp at e0 e1
    exact ⟨e0, e1⟩
  have hW2 : Below W1.heap.size W1 W1.drew := (Below.refl _ _).drew
  clear hR hm hW1 x1 r1 h
  go_enter Try.func15, Try.ntmps15
  go_wp2_with fail
  rw [← HW1.out]
  refine wp_region_noPanic ?_
  refine wp_region_held_drew (S := (fun W => W.cell? ⟨w.heap.size, 0, none⟩ = some (.int .i64 n) ∧ W.cell? ⟨w.heap.size, 1, none⟩ = some (.slice A2 m2 c2))) (by kernel_rfl) (MK.out _ hW2) (fun hHeld => ?_)
  refine wpAnyH_take (i := 0) (v := ?_) rfl (by kernel_rfl) (by kernel_rfl) (by kernel_rfl) (fun _ _ _ h => h) (Or.inl ⟨by rfl, ?_⟩) hHeld ?_
  rotate_left
  · intro w hSw
    (try dsimp only at hSw)
    go_simp
    try with_reducible rfl
  go_simp
  refine wpAnyH_take (i := 1) (v := ?_) rfl (by kernel_rfl) (by kernel_rfl) (by kernel_rfl) (fun _ _ _ h => h) (Or.inl ⟨by rfl, ?_⟩) hHeld ?_
  rotate_left
  · intro w hSw
    (try dsimp only at hSw)
    go_simp
    try with_reducible rfl
  go_simp
  refine wpAnyH_take (i := 2) (v := ?_) rfl (by kernel_rfl) (by kernel_rfl) (by kernel_rfl) (fun _ _ _ h => h) (Or.inl ⟨by rfl, ?_⟩) hHeld ?_
  rotate_left
  · intro w hSw
    (try dsimp only at hSw)
    go_simp
    try with_reducible rfl
  go_simp
  refine wpAnyH_take (i := 3) (v := ?_) rfl (by kernel_rfl) (by kernel_rfl) (by kernel_rfl) (fun _ _ _ h => h) (Or.inl ⟨by rfl, ?_⟩) hHeld ?_
  rotate_left
  · intro w hSw
    (try dsimp only at hSw)
    go_simp
    try with_reducible rfl
  go_simp
  refine wpAnyH_take (i := 5) (v := ?_) rfl (by kernel_rfl) (by kernel_rfl) (by kernel_rfl) (fun _ _ _ h => h) (Or.inl ⟨by rfl, ?_⟩) hHeld ?_
  rotate_left
  · intro w hSw
    (try dsimp only at hSw)
    go_simp
    try with_reducible rfl
  go_simp
  refine wpAnyH_take (i := 6) (v := ?_) rfl (by kernel_rfl) (by kernel_rfl) (by kernel_rfl) (fun _ _ _ h => h) (Or.inl ⟨by rfl, ?_⟩) hHeld ?_
  rotate_left
  · intro w hSw
    (try dsimp only at hSw)
    go_simp
    try with_reducible rfl
  go_simp
  refine wpAnyH_ready (rs := [4]) (by kernel_rfl) (by simp) ?_
  refine AllReadyH.cons rfl (fun K hK => ?_) ?_
  rotate_left
  · exact AllReadyH.nil
  go_simp
  go_wp2_with (first | (go_at_call 22; ((with_reducible refine (CAL.out _ (X1.out.trans (hW2.mono X1.out.size))).mono ?_); rintro e w4 ⟨v4, rfl, o4, hb4⟩); have hW2 := hW2.trans (hb4.mono hW2.size); obtain ⟨A4, c4, rfl, hR4, _, _⟩ := rows_of_own encI_len (by omega) o4; have HR4 := Lib.hid hR4; have CPL := Lib.hid (plinl_any A4 A2 m2 c4 c2 o w4 HR4.out (HR.out.below (X1.out.trans (hW2.mono X1.out.size))) HM.out (by have := HM.out; omega))) | (go_at_call 21; ((with_reducible refine (CPL.out).mono ?_); rintro e w5 ⟨rfl, hb5⟩); have hW2 := hW2.trans (hb5.mono hW2.size)) | (go_at_call 39; ((with_reducible refine (CLE.out _ (X1.out.trans (hW2.mono X1.out.size))).mono ?_); rintro e w6 ⟨rfl, hb6⟩); have hW2 := hW2.trans (hb6.mono hW2.size)))
  refine hK.out _ _ (MK.out _ hW2) (fun hHeld => ?_)
  clear hK K
  go_simp
  refine wpAnyH_ready (rs := [7]) (by kernel_rfl) (by simp) ?_
  refine AllReadyH.cons rfl (fun K hK => ?_) ?_
  rotate_left
  · exact AllReadyH.nil
  go_simp
  go_wp2_with (first | (go_at_call 22; ((with_reducible refine (CAL.out _ (X1.out.trans (hW2.mono X1.out.size))).mono ?_); rintro e w4 ⟨v4, rfl, o4, hb4⟩); have hW2 := hW2.trans (hb4.mono hW2.size); obtain ⟨A4, c4, rfl, hR4, _, _⟩ := rows_of_own encI_len (by omega) o4; have HR4 := Lib.hid hR4; have CPL := Lib.hid (plinl_any A4 A2 m2 c4 c2 o w4 HR4.out (HR.out.below (X1.out.trans (hW2.mono X1.out.size))) HM.out (by have := HM.out; omega))) | (go_at_call 21; ((with_reducible refine (CPL.out).mono ?_); rintro e w5 ⟨rfl, hb5⟩); have hW2 := hW2.trans (hb5.mono hW2.size)) | (go_at_call 39; ((with_reducible refine (CLE.out _ (X1.out.trans (hW2.mono X1.out.size))).mono ?_); rintro e w6 ⟨rfl, hb6⟩); have hW2 := hW2.trans (hb6.mono hW2.size)))
  refine hK.out _ _ (MK.out _ hW2) (fun hHeld => ?_)
  clear hK K
  go_simp
  refine wpAnyH_take (i := 8) (v := ?_) rfl (by kernel_rfl) (by kernel_rfl) (by kernel_rfl) (fun _ _ _ h => h) (Or.inl ⟨by rfl, ?_⟩) hHeld ?_
  rotate_left
  · intro w hSw
    (try dsimp only at hSw)
    go_simp
    try with_reducible rfl
  go_simp
  refine wpAnyH_take (i := 9) (v := ?_) rfl (by kernel_rfl) (by kernel_rfl) (by kernel_rfl) (fun _ _ _ h => h) (Or.inl ⟨by rfl, ?_⟩) hHeld ?_
  rotate_left
  · intro w hSw
    (try dsimp only at hSw)
    go_simp
    try with_reducible rfl
  go_simp
  refine wpAnyH_take (i := 11) (v := ?_) rfl (by kernel_rfl) (by kernel_rfl) (by kernel_rfl) (fun _ _ _ h => h) (Or.inl ⟨by rfl, ?_⟩) hHeld ?_
  rotate_left
  · intro w hSw
    (try dsimp only at hSw)
    go_simp
    try with_reducible rfl
  go_simp
  refine wpAnyH_take (i := 12) (v := ?_) rfl (by kernel_rfl) (by kernel_rfl) (by kernel_rfl) (fun _ _ _ h => h) (Or.inl ⟨by rfl, ?_⟩) hHeld ?_
  rotate_left
  · intro w hSw
    (try dsimp only at hSw)
    go_simp
    try with_reducible rfl
  go_simp
  refine wpAnyH_ready (rs := [10]) (by kernel_rfl) (by simp) ?_
  refine AllReadyH.cons rfl (fun K hK => ?_) ?_
  rotate_left
  · exact AllReadyH.nil
  go_simp
  go_wp2_with (first | (go_at_call 22; ((with_reducible refine (CAL.out _ (X1.out.trans (hW2.mono X1.out.size))).mono ?_); rintro e w4 ⟨v4, rfl, o4, hb4⟩); have hW2 := hW2.trans (hb4.mono hW2.size); obtain ⟨A4, c4, rfl, hR4, _, _⟩ := rows_of_own encI_len (by omega) o4; have HR4 := Lib.hid hR4; have CPL := Lib.hid (plinl_any A4 A2 m2 c4 c2 o w4 HR4.out (HR.out.below (X1.out.trans (hW2.mono X1.out.size))) HM.out (by have := HM.out; omega))) | (go_at_call 21; ((with_reducible refine (CPL.out).mono ?_); rintro e w5 ⟨rfl, hb5⟩); have hW2 := hW2.trans (hb5.mono hW2.size)) | (go_at_call 39; ((with_reducible refine (CLE.out _ (X1.out.trans (hW2.mono X1.out.size))).mono ?_); rintro e w6 ⟨rfl, hb6⟩); have hW2 := hW2.trans (hb6.mono hW2.size)))
  refine hK.out _ _ (MK.out _ hW2) (fun hHeld => ?_)
  clear hK K
  go_simp
  refine wpAnyH_take (i := 13) (v := ?_) rfl (by kernel_rfl) (by kernel_rfl) (by kernel_rfl) (fun _ _ _ h => h) (Or.inl ⟨by rfl, ?_⟩) hHeld ?_
  rotate_left
  · intro w hSw
    (try dsimp only at hSw)
    go_simp
    try with_reducible rfl
  go_simp
  refine wpAnyH_take (i := 14) (v := ?_) rfl (by kernel_rfl) (by kernel_rfl) (by kernel_rfl) (fun _ _ _ h => h) (Or.inl ⟨by rfl, ?_⟩) hHeld ?_
  rotate_left
  · intro w hSw
    (try dsimp only at hSw)
    go_simp
    try with_reducible rfl
  go_simp
  refine wpAnyH_take (i := 15) (v := ?_) rfl (by kernel_rfl) (by kernel_rfl) (by kernel_rfl) (fun _ _ _ h => h) (Or.inl ⟨by rfl, ?_⟩) hHeld ?_
  rotate_left
  · intro w hSw
    (try dsimp only at hSw)
    go_simp
    try with_reducible rfl
  go_simp
  refine wpAnyH_take (i := 16) (v := ?_) rfl (by kernel_rfl) (by kernel_rfl) (by kernel_rfl) (fun _ _ _ h => h) (Or.inl ⟨by rfl, ?_⟩) hHeld ?_
  rotate_left
  · intro w hSw
    (try dsimp only at hSw)
    go_simp
    try with_reducible rfl
  go_simp
  refine wpAnyH_done (by kernel_rfl) ?_ _
  refine NoPanic.normal ?_
  have HBZ := Lib.hid (X1.out.trans (hW2.mono X1.out.size))
  clear hW2 hHeld
  go_wp2
  go_ret
  exact ⟨rfl, HBZ.out⟩
end Go.Proofs.Ytmijlijgcaaiiaa
