/- Flow: the line of a row: spotOf, spot, of, ByRow. -/
import Derived.Test.YtnfjleobcfhpnaaFlF
import Derived.Shelf.Abstract
namespace Go.Proofs.Ytnfjleobcfhpnaa
open Go.RowKit
set_option linter.unusedVariables false
theorem hK_inside : ∀ (args : Array Value) (w : World), (callFunc 79 args).run Try.prog w = .ok (.enter 79 args) w := enters_of Try.func79 (by kernel_rfl) rfl
set_option maxHeartbeats 8000000 in
set_option maxRecDepth 100000 in
theorem flspotOf (row k n s b r m p z : Int) (w : World) (h1 : row - r ≤ 4000000000000000000) (h2 : -4000000000000000000 ≤ row - r) :
    Calls Try.prog 102 #[.agg #[.int .i64 k, .int .i64 n, .int .i64 s, .int .i64 b, .int .i64 r, .int .i64 m, .int .i64 p, .int .i64 z], .func (.func 79) #[.agg #[.int .i64 2, .int .i64 row]] #[]] w fun e w' => e = .returned (.agg #[.int .i64 k, .int .i64 (row - r), .int .i64 r, .int .i64 s, .int .i64 b]) ∧ Below w.heap.size w w' := by
  have CI := Lib.hid fun (W : World) => flinside row n s b r m p W h1 h2
  have hK := hK_inside
  clear h1 h2
  have x1 : RawAt 171 (((w.alloc (.cells #[.int .i64 k, .int .i64 n, .int .i64 s, .int .i64 b, .int .i64 r, .int .i64 m, .int .i64 p, .int .i64 z] 171)).alloc (.cells #[.int .i64 0, .int .i64 0, .int .i64 0, .int .i64 0, .int .i64 0] 75)).alloc (.cells #[.int .i64 n, .int .i64 s, .int .i64 b, .int .i64 r, .int .i64 m, .int .i64 p] 128)) w.heap.size #[.int .i64 k, .int .i64 n, .int .i64 s, .int .i64 b, .int .i64 r, .int .i64 m, .int .i64 p, .int .i64 z] := RawAt.below (new2 w _ _ _ _).1 ((Below.refl _ _).alloc (Nat.le_refl _) _) (RawAt.lt (new2 w _ _ _ _).1)
  have x2 : RawAt 75 (((w.alloc (.cells #[.int .i64 k, .int .i64 n, .int .i64 s, .int .i64 b, .int .i64 r, .int .i64 m, .int .i64 p, .int .i64 z] 171)).alloc (.cells #[.int .i64 0, .int .i64 0, .int .i64 0, .int .i64 0, .int .i64 0] 75)).alloc (.cells #[.int .i64 n, .int .i64 s, .int .i64 b, .int .i64 r, .int .i64 m, .int .i64 p] 128)) (w.heap.size + 1) #[.int .i64 0, .int .i64 0, .int .i64 0, .int .i64 0, .int .i64 0] := RawAt.below (new2 w _ _ _ _).2.1 ((Below.refl _ _).alloc (Nat.le_refl _) _) (RawAt.lt (new2 w _ _ _ _).2.1)
  have x3 : RawAt 128 (((w.alloc (.cells #[.int .i64 k, .int .i64 n, .int .i64 s, .int .i64 b, .int .i64 r, .int .i64 m, .int .i64 p, .int .i64 z] 171)).alloc (.cells #[.int .i64 0, .int .i64 0, .int .i64 0, .int .i64 0, .int .i64 0] 75)).alloc (.cells #[.int .i64 n, .int .i64 s, .int .i64 b, .int .i64 r, .int .i64 m, .int .i64 p] 128)) (w.heap.size + 2) #[.int .i64 n, .int .i64 s, .int .i64 b, .int .i64 r, .int .i64 m, .int .i64 p] := by
    have := heap_alloc_new ((w.alloc (.cells #[.int .i64 k, .int .i64 n, .int .i64 s, .int .i64 b, .int .i64 r, .int .i64 m, .int .i64 p, .int .i64 z] 171)).alloc (.cells #[.int .i64 0, .int .i64 0, .int .i64 0, .int .i64 0, .int .i64 0] 75)) (.cells #[.int .i64 n, .int .i64 s, .int .i64 b, .int .i64 r, .int .i64 m, .int .i64 p] 128)
    have hz : ((w.alloc (.cells #[.int .i64 k, .int .i64 n, .int .i64 s, .int .i64 b, .int .i64 r, .int .i64 m, .int .i64 p, .int .i64 z] 171)).alloc (.cells #[.int .i64 0, .int .i64 0, .int .i64 0, .int .i64 0, .int .i64 0] 75)).heap.size = w.heap.size + 2 := by simp
    rw [hz] at this
    exact this
  have xb : Below w.heap.size w (((w.alloc (.cells #[.int .i64 k, .int .i64 n, .int .i64 s, .int .i64 b, .int .i64 r, .int .i64 m, .int .i64 p, .int .i64 z] 171)).alloc (.cells #[.int .i64 0, .int .i64 0, .int .i64 0, .int .i64 0, .int .i64 0] 75)).alloc (.cells #[.int .i64 n, .int .i64 s, .int .i64 b, .int .i64 r, .int .i64 m, .int .i64 p] 128)) := (((Below.refl _ _).alloc (Nat.le_refl _) _).alloc (by simp) _).alloc (by simp; omega) _
  obtain ⟨W3, hW3⟩ : ∃ W3, W3 = (((w.alloc (.cells #[.int .i64 k, .int .i64 n, .int .i64 s, .int .i64 b, .int .i64 r, .int .i64 m, .int .i64 p, .int .i64 z] 171)).alloc (.cells #[.int .i64 0, .int .i64 0, .int .i64 0, .int .i64 0, .int .i64 0] 75)).alloc (.cells #[.int .i64 n, .int .i64 s, .int .i64 b, .int .i64 r, .int .i64 m, .int .i64 p] 128)) := ⟨_, rfl⟩
  rw [← hW3] at x1 x2 x3 xb
  have HW3 := Lib.hid hW3
  have HX1 := Lib.hid x1
  have HX2 := Lib.hid x2
  have HX3 := Lib.hid x3
  have HXB := Lib.hid xb
  clear hW3 x1 x2 x3 xb
  have MA : Hid (∀ W : World, RawAt 171 W w.heap.size #[.int .i64 k, .int .i64 n, .int .i64 s, .int .i64 b, .int .i64 r, .int .i64 m, .int .i64 p, .int .i64 z] → RawAt 128 W (w.heap.size + 2) #[.int .i64 n, .int .i64 s, .int .i64 b, .int .i64 r, .int .i64 m, .int .i64 p] → (fun W => W.cell? ⟨w.heap.size, 0, none⟩ = some (.int .i64 k) ∧ W.cell? ⟨w.heap.size + 2, 0, none⟩ = some (.int .i64 n) ∧ W.cell? ⟨w.heap.size + 2, 1, none⟩ = some (.int .i64 s) ∧ W.cell? ⟨w.heap.size + 2, 2, none⟩ = some (.int .i64 b) ∧ W.cell? ⟨w.heap.size + 2, 3, none⟩ = some (.int .i64 r) ∧ W.cell? ⟨w.heap.size + 2, 4, none⟩ = some (.int .i64 m) ∧ W.cell? ⟨w.heap.size + 2, 5, none⟩ = some (.int .i64 p)) W) := Lib.hid fun W q1 q3 => ⟨RawAt.cell q1 0, RawAt.cell q3 0, RawAt.cell q3 1, RawAt.cell q3 2, RawAt.cell q3 3, RawAt.cell q3 4, RawAt.cell q3 5⟩
  have MK : Hid (∀ W : World, Below W3.heap.size W3 W → (fun W => W.cell? ⟨w.heap.size, 0, none⟩ = some (.int .i64 k) ∧ W.cell? ⟨w.heap.size + 2, 0, none⟩ = some (.int .i64 n) ∧ W.cell? ⟨w.heap.size + 2, 1, none⟩ = some (.int .i64 s) ∧ W.cell? ⟨w.heap.size + 2, 2, none⟩ = some (.int .i64 b) ∧ W.cell? ⟨w.heap.size + 2, 3, none⟩ = some (.int .i64 r) ∧ W.cell? ⟨w.heap.size + 2, 4, none⟩ = some (.int .i64 m) ∧ W.cell? ⟨w.heap.size + 2, 5, none⟩ = some (.int .i64 p)) W) := Lib.hid fun W hW => MA.out W (HX1.out.below hW HX1.out.lt) (HX3.out.below hW HX3.out.lt)
  have hW2 : Below W3.heap.size W3 W3.drew := (Below.refl _ _).drew
  go_enter Try.func102, Try.ntmps102
  go_wp2_with fail
  rw [← HW3.out]
  refine wp_region_noPanic ?_
  refine wp_region_held_drew (S := (fun W => W.cell? ⟨w.heap.size, 0, none⟩ = some (.int .i64 k) ∧ W.cell? ⟨w.heap.size + 2, 0, none⟩ = some (.int .i64 n) ∧ W.cell? ⟨w.heap.size + 2, 1, none⟩ = some (.int .i64 s) ∧ W.cell? ⟨w.heap.size + 2, 2, none⟩ = some (.int .i64 b) ∧ W.cell? ⟨w.heap.size + 2, 3, none⟩ = some (.int .i64 r) ∧ W.cell? ⟨w.heap.size + 2, 4, none⟩ = some (.int .i64 m) ∧ W.cell? ⟨w.heap.size + 2, 5, none⟩ = some (.int .i64 p))) (by kernel_rfl) (MK.out _ hW2) (fun hHeld => ?_)
  refine wpAnyH_take (i := 0) (v := ?_) rfl (by kernel_rfl) (by kernel_rfl) (by kernel_rfl) (fun _ _ _ h => h) (Or.inl ⟨by rfl, ?_⟩) hHeld ?_
  rotate_left
  · intro w hSw
    (try dsimp only at hSw)
    go_simp
    try with_reducible rfl
  go_simp
  refine wpAnyH_take (i := 1) (v := ?_) rfl (by kernel_rfl) (by kernel_rfl) (by kernel_rfl) (fun _ _ _ h => h) (Or.inl ⟨by rfl, ?_⟩) hHeld ?_
  rotate_left
  · intro w hSw
    (try dsimp only at hSw)
    go_simp
    try with_reducible rfl
  go_simp
  refine wpAnyH_take (i := 2) (v := ?_) rfl (by kernel_rfl) (by kernel_rfl) (by kernel_rfl) (fun _ _ _ h => h) (Or.inl ⟨by rfl, ?_⟩) hHeld ?_
  rotate_left
  · intro w hSw
    (try dsimp only at hSw)
    go_simp
    try with_reducible rfl
  go_simp
  refine wpAnyH_take (i := 3) (v := ?_) rfl (by kernel_rfl) (by kernel_rfl) (by kernel_rfl) (fun _ _ _ h => h) (Or.inl ⟨by rfl, ?_⟩) hHeld ?_
  rotate_left
  · intro w hSw
    (try dsimp only at hSw)
    go_simp
    try with_reducible rfl
  go_simp
  refine wpAnyH_take (i := 5) (v := ?_) rfl (by kernel_rfl) (by kernel_rfl) (by kernel_rfl) (fun _ _ _ h => h) (Or.inl ⟨by rfl, ?_⟩) hHeld ?_
  rotate_left
  · intro w hSw
    (try dsimp only at hSw)
    go_simp
    try with_reducible rfl
  go_simp
  refine wpAnyH_take (i := 6) (v := ?_) rfl (by kernel_rfl) (by kernel_rfl) (by kernel_rfl) (fun _ _ _ h => h) (Or.inl ⟨by rfl, ?_⟩) hHeld ?_
  rotate_left
  · intro w hSw
    (try dsimp only at hSw)
    go_simp
    try with_reducible rfl
  go_simp
  refine wpAnyH_take (i := 7) (v := ?_) rfl (by kernel_rfl) (by kernel_rfl) (by kernel_rfl) (fun _ _ _ h => h) (Or.inl ⟨by rfl, ?_⟩) hHeld ?_
  rotate_left
  · intro w hSw
    (try dsimp only at hSw)
    go_simp
    try with_reducible rfl
  go_simp
  refine wpAnyH_take (i := 8) (v := ?_) rfl (by kernel_rfl) (by kernel_rfl) (by kernel_rfl) (fun _ _ _ h => h) (Or.inl ⟨by rfl, ?_⟩) hHeld ?_
  rotate_left
  · intro w hSw
    (try dsimp only at hSw)
    go_simp
    try with_reducible rfl
  go_simp
  refine wpAnyH_take (i := 9) (v := ?_) rfl (by kernel_rfl) (by kernel_rfl) (by kernel_rfl) (fun _ _ _ h => h) (Or.inl ⟨by rfl, ?_⟩) hHeld ?_
  rotate_left
  · intro w hSw
    (try dsimp only at hSw)
    go_simp
    try with_reducible rfl
  go_simp
  refine wpAnyH_take (i := 10) (v := ?_) rfl (by kernel_rfl) (by kernel_rfl) (by kernel_rfl) (fun _ _ _ h => h) (Or.inl ⟨by rfl, ?_⟩) hHeld ?_
  rotate_left
  · intro w hSw
    (try dsimp only at hSw)
    go_simp
    try with_reducible rfl
  go_simp
  refine wpAnyH_take (i := 11) (v := ?_) rfl (by kernel_rfl) (by kernel_rfl) (by kernel_rfl) (fun _ _ _ h => h) (Or.inl ⟨by rfl, ?_⟩) hHeld ?_
  rotate_left
  · intro w hSw
    (try dsimp only at hSw)
    go_simp
    try with_reducible rfl
  go_simp
  refine wpAnyH_take (i := 12) (v := ?_) rfl (by kernel_rfl) (by kernel_rfl) (by kernel_rfl) (fun _ _ _ h => h) (Or.inl ⟨by rfl, ?_⟩) hHeld ?_
  rotate_left
  · intro w hSw
    (try dsimp only at hSw)
    go_simp
    try with_reducible rfl
  go_simp
  refine wpAnyH_take (i := 13) (v := ?_) rfl (by kernel_rfl) (by kernel_rfl) (by kernel_rfl) (fun _ _ _ h => h) (Or.inl ⟨by rfl, ?_⟩) hHeld ?_
  rotate_left
  · intro w hSw
    (try dsimp only at hSw)
    go_simp
    try with_reducible rfl
  go_simp
  refine wpAnyH_ready (rs := [4]) (by kernel_rfl) (by simp) ?_
  refine AllReadyH.cons rfl (fun K hK => ?_) ?_
  rotate_left
  · exact AllReadyH.nil
  go_simp
  go_wp2_with ((go_at_call 79; ((with_reducible refine (CI.out _).mono ?_); rintro e w4 ⟨rfl, hb4⟩); have hW2 := hW2.trans (hb4.mono hW2.size); have y1 := HX1.out.below hW2 HX1.out.lt; have y2 := HX2.out.below hW2 HX2.out.lt; have y3 := HX3.out.below hW2 HX3.out.lt; have HE1 := Lib.hid y1; have HE3 := Lib.hid y3; have q0 := RawAt.cell y2 0; have q1 := RawAt.cell y2 1; have q2 := RawAt.cell y2 2; have q3 := RawAt.cell y2 3; have q4 := RawAt.cell y2 4; have f0 := y2.free 0; have f1 := y2.free 1; have f2 := y2.free 2; have f3 := y2.free 3; have f4 := y2.free 4; simp at q0 q1 q2 q3 q4; clear y1 y2 y3))
  refine hK.out _ _ (by first | (with_reducible exact MK.out _ hW2) | exact MA.out _ (((((HE1.out.set_other (b' := w.heap.size + 1) (by omega) 0 _).set_other (b' := w.heap.size + 1) (by omega) 1 _).set_other (b' := w.heap.size + 1) (by omega) 2 _).set_other (b' := w.heap.size + 1) (by omega) 3 _).set_other (b' := w.heap.size + 1) (by omega) 4 _) (((((HE3.out.set_other (b' := w.heap.size + 1) (by omega) 0 _).set_other (b' := w.heap.size + 1) (by omega) 1 _).set_other (b' := w.heap.size + 1) (by omega) 2 _).set_other (b' := w.heap.size + 1) (by omega) 3 _).set_other (b' := w.heap.size + 1) (by omega) 4 _)) (fun hHeld => ?_)
  clear hK K
  go_simp
  refine wpAnyH_take (i := 14) (v := ?_) rfl (by kernel_rfl) (by kernel_rfl) (by kernel_rfl) (fun _ _ _ h => h) (Or.inl ⟨by rfl, ?_⟩) hHeld ?_
  rotate_left
  · intro w hSw
    (try dsimp only at hSw)
    go_simp
    try with_reducible rfl
  go_simp
  refine wpAnyH_ready (rs := [15]) (by kernel_rfl) (by simp) ?_
  refine AllReadyH.cons rfl (fun K hK => ?_) ?_
  rotate_left
  · exact AllReadyH.nil
  go_simp
  go_wp2_with ((go_at_call 79; ((with_reducible refine (CI.out _).mono ?_); rintro e w4 ⟨rfl, hb4⟩); have hW2 := hW2.trans (hb4.mono hW2.size); have y1 := HX1.out.below hW2 HX1.out.lt; have y2 := HX2.out.below hW2 HX2.out.lt; have y3 := HX3.out.below hW2 HX3.out.lt; have HE1 := Lib.hid y1; have HE3 := Lib.hid y3; have q0 := RawAt.cell y2 0; have q1 := RawAt.cell y2 1; have q2 := RawAt.cell y2 2; have q3 := RawAt.cell y2 3; have q4 := RawAt.cell y2 4; have f0 := y2.free 0; have f1 := y2.free 1; have f2 := y2.free 2; have f3 := y2.free 3; have f4 := y2.free 4; simp at q0 q1 q2 q3 q4; clear y1 y2 y3))
  refine hK.out _ _ (by first | (with_reducible exact MK.out _ hW2) | exact MA.out _ (((((HE1.out.set_other (b' := w.heap.size + 1) (by omega) 0 _).set_other (b' := w.heap.size + 1) (by omega) 1 _).set_other (b' := w.heap.size + 1) (by omega) 2 _).set_other (b' := w.heap.size + 1) (by omega) 3 _).set_other (b' := w.heap.size + 1) (by omega) 4 _) (((((HE3.out.set_other (b' := w.heap.size + 1) (by omega) 0 _).set_other (b' := w.heap.size + 1) (by omega) 1 _).set_other (b' := w.heap.size + 1) (by omega) 2 _).set_other (b' := w.heap.size + 1) (by omega) 3 _).set_other (b' := w.heap.size + 1) (by omega) 4 _)) (fun hHeld => ?_)
  clear hK K
  go_simp
  refine wpAnyH_done (by kernel_rfl) ?_ _
  refine NoPanic.normal ?_
  have HB9 := Lib.hid (HXB.out.trans (hW2.mono HXB.out.size))
  clear hHeld MK MA HE1 HE3
  go_wp2
  refine bodyPost_ret (v := .agg #[.int .i64 k, .int .i64 (row - r), .int .i64 r, .int .i64 s, .int .i64 b]) (by simp [results, Try.results102, go_sem, q0, q1, q2, q3, q4]) rfl ⟨rfl, ?_⟩
  (repeat' (first | (with_reducible exact HB9.out) | (with_reducible refine Below.setCell ?_ ?_ _) | (with_reducible refine Below.drew ?_))) <;> first | exact Nat.le_refl _ | (simp; done) | (simp; omega)
end Go.Proofs.Ytnfjleobcfhpnaa
