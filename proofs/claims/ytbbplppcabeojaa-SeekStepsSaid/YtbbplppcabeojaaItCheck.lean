/- The contract of item.Check. -/
import Derived.Test.YtbbplppcabeojaaItBound
import Derived.Test.YtbbplppcabeojaaEq3
import Derived.Deep.RegionHeld3
import Derived.Deep.RegionWith
namespace Go.Proofs.Ytbbplppcabeojaa
open Go.RowKit
theorem rv_no {i : I7} {v : Int} (h : (Oki i → v = 0) ∧ (¬ Oki i → v = 1)) (hn : ¬ Oki i) : Ending.returned (.int .i64 1) = .returned (.int .i64 v) := by rw [h.2 hn]
theorem rv_yes {i : I7} {v : Int} (h : (Oki i → v = 0) ∧ (¬ Oki i → v = 1)) (hn : Oki i) : Ending.returned (.int .i64 0) = .returned (.int .i64 v) := by rw [h.1 hn]
set_option linter.unusedVariables false in
set_option maxHeartbeats 4000000 in
set_option maxRecDepth 100000 in
theorem check_ok (tag id d0 d1 d2 mx e0 e1 e2 m : Int) (tx : ByteArray) (v : Int) (w : World) (hv : Ending.returned (.int .i64 0) = .returned (.int .i64 v))
    (hd : ∀ W : World, Calls Try.prog 88 #[.agg #[.int .i64 d0, .int .i64 d1, .int .i64 d2]] W fun e w' => e = .returned (.agg #[.int .i64 d0, .int .i64 d1, .int .i64 d2]) ∧ Below W.heap.size W w')
    (hm : ∀ W : World, Calls Try.prog 89 #[.int .i64 mx] W fun e w' => e = .returned (.int .i64 mx) ∧ w' = W) :
    Calls Try.prog 50 #[.agg (ics ⟨tag, id, d0, d1, d2, mx, tx⟩)] w fun e w' => e = .returned (.int .i64 v) ∧ Below w.heap.size w w' := by
  have CD := Lib.hid hd; clear hd
  have CM := Lib.hid hm; clear hm
  have HV := Lib.hid hv; clear hv
  unfold ics
  have HEQ := eq3
  go_enter Try.func50, Try.ntmps50
  go_wp2
  have hb0 : Below w.heap.size w (w.alloc (.cells (ics ⟨tag, id, d0, d1, d2, mx, tx⟩) 54)) := (Below.refl _ _).alloc (Nat.le_refl _) _
  have hr0 : RawAt 54 (w.alloc (.cells (ics ⟨tag, id, d0, d1, d2, mx, tx⟩) 54)) w.heap.size (ics ⟨tag, id, d0, d1, d2, mx, tx⟩) := heap_alloc_new w _
  change Code.wp _ _ _ _ (w.alloc (.cells (ics ⟨tag, id, d0, d1, d2, mx, tx⟩) 54))
  generalize (w.alloc (.cells (ics ⟨tag, id, d0, d1, d2, mx, tx⟩) 54)) = W1 at *
  generalize hbb : w.heap.size = b at hr0 ⊢
  have HBB := Lib.hid hbb; clear hbb
  have HR := Lib.hid hr0; clear hr0
  have MK := Lib.hid fun (W : World) (hW : Below W1.heap.size W1 W) => (by
      obtain ⟨x0, x1, x2, x3, x4, x5, x6⟩ := raw_ics (RawAt.below HR.out hW (RawAt.lt HR.out))
      exact ⟨x0, x1, x2, x3, x4, x5, x6, hW⟩ : W.cell? ⟨b, 0, none⟩ = some (.int .i64 tag) ∧ W.cell? ⟨b, 1, none⟩ = some (.int .i64 id) ∧ W.cell? ⟨b, 2, none⟩ = some (.int .i64 d0) ∧ W.cell? ⟨b, 3, none⟩ = some (.int .i64 d1) ∧ W.cell? ⟨b, 4, none⟩ = some (.int .i64 d2) ∧ W.cell? ⟨b, 5, none⟩ = some (.int .i64 mx) ∧ W.cell? ⟨b, 6, none⟩ = some (.string tx) ∧ Below W1.heap.size W1 W)
  have hW2 : Below W1.heap.size W1 W1.drew := (Below.refl _ _).drew
  go_wp2_with fail
  go_region_held3 (fun W => W.cell? ⟨b, 0, none⟩ = some (.int .i64 tag) ∧ W.cell? ⟨b, 1, none⟩ = some (.int .i64 id) ∧ W.cell? ⟨b, 2, none⟩ = some (.int .i64 d0) ∧ W.cell? ⟨b, 3, none⟩ = some (.int .i64 d1) ∧ W.cell? ⟨b, 4, none⟩ = some (.int .i64 d2) ∧ W.cell? ⟨b, 5, none⟩ = some (.int .i64 mx) ∧ W.cell? ⟨b, 6, none⟩ = some (.string tx) ∧ Below W1.heap.size W1 W) (first | (with_reducible exact MK.out _ hW2) | (with_reducible exact MK.out _ (Below.refl _ _)) | go_keep)
    (first
      | (go_at_call 88; ((with_reducible refine (CD.out _).mono ?_); rintro e w2 ⟨rfl, hb2⟩); have hW2 := hW2.trans (hb2.mono hW2.size))
      | (go_at_call 89; ((with_reducible refine (CM.out _).mono ?_); rintro e w2 ⟨rfl, rfl⟩)))
  go_wp2
  go_ret
  exact ⟨HV.out, by have := HBB.out; subst this; exact hb0.trans (hW2.mono hb0.size)⟩
set_option linter.unusedVariables false in
set_option maxHeartbeats 4000000 in
set_option maxRecDepth 100000 in
theorem check_mx (tag id d0 d1 d2 mx e0 e1 e2 m : Int) (tx : ByteArray) (v : Int) (w : World) (hv : Ending.returned (.int .i64 1) = .returned (.int .i64 v))
    (hd : ∀ W : World, Calls Try.prog 88 #[.agg #[.int .i64 d0, .int .i64 d1, .int .i64 d2]] W fun e w' => e = .returned (.agg #[.int .i64 d0, .int .i64 d1, .int .i64 d2]) ∧ Below W.heap.size W w')
    (hm : ∀ W : World, Calls Try.prog 89 #[.int .i64 mx] W fun e w' => e = .returned (.int .i64 m) ∧ w' = W) (hx : (m == mx) = false) :
    Calls Try.prog 50 #[.agg (ics ⟨tag, id, d0, d1, d2, mx, tx⟩)] w fun e w' => e = .returned (.int .i64 v) ∧ Below w.heap.size w w' := by
  have CD := Lib.hid hd; clear hd
  have CM := Lib.hid hm; clear hm
  have HV := Lib.hid hv; clear hv
  unfold ics
  have HEQ := eq3
  go_enter Try.func50, Try.ntmps50
  go_wp2
  have hb0 : Below w.heap.size w (w.alloc (.cells (ics ⟨tag, id, d0, d1, d2, mx, tx⟩) 54)) := (Below.refl _ _).alloc (Nat.le_refl _) _
  have hr0 : RawAt 54 (w.alloc (.cells (ics ⟨tag, id, d0, d1, d2, mx, tx⟩) 54)) w.heap.size (ics ⟨tag, id, d0, d1, d2, mx, tx⟩) := heap_alloc_new w _
  change Code.wp _ _ _ _ (w.alloc (.cells (ics ⟨tag, id, d0, d1, d2, mx, tx⟩) 54))
  generalize (w.alloc (.cells (ics ⟨tag, id, d0, d1, d2, mx, tx⟩) 54)) = W1 at *
  generalize hbb : w.heap.size = b at hr0 ⊢
  have HBB := Lib.hid hbb; clear hbb
  have HR := Lib.hid hr0; clear hr0
  have MK := Lib.hid fun (W : World) (hW : Below W1.heap.size W1 W) => (by
      obtain ⟨x0, x1, x2, x3, x4, x5, x6⟩ := raw_ics (RawAt.below HR.out hW (RawAt.lt HR.out))
      exact ⟨x0, x1, x2, x3, x4, x5, x6, hW⟩ : W.cell? ⟨b, 0, none⟩ = some (.int .i64 tag) ∧ W.cell? ⟨b, 1, none⟩ = some (.int .i64 id) ∧ W.cell? ⟨b, 2, none⟩ = some (.int .i64 d0) ∧ W.cell? ⟨b, 3, none⟩ = some (.int .i64 d1) ∧ W.cell? ⟨b, 4, none⟩ = some (.int .i64 d2) ∧ W.cell? ⟨b, 5, none⟩ = some (.int .i64 mx) ∧ W.cell? ⟨b, 6, none⟩ = some (.string tx) ∧ Below W1.heap.size W1 W)
  have hW2 : Below W1.heap.size W1 W1.drew := (Below.refl _ _).drew
  go_wp2_with fail
  go_region_held3 (fun W => W.cell? ⟨b, 0, none⟩ = some (.int .i64 tag) ∧ W.cell? ⟨b, 1, none⟩ = some (.int .i64 id) ∧ W.cell? ⟨b, 2, none⟩ = some (.int .i64 d0) ∧ W.cell? ⟨b, 3, none⟩ = some (.int .i64 d1) ∧ W.cell? ⟨b, 4, none⟩ = some (.int .i64 d2) ∧ W.cell? ⟨b, 5, none⟩ = some (.int .i64 mx) ∧ W.cell? ⟨b, 6, none⟩ = some (.string tx) ∧ Below W1.heap.size W1 W) (first | (with_reducible exact MK.out _ hW2) | (with_reducible exact MK.out _ (Below.refl _ _)) | go_keep)
    (first
      | (go_at_call 88; ((with_reducible refine (CD.out _).mono ?_); rintro e w2 ⟨rfl, hb2⟩); have hW2 := hW2.trans (hb2.mono hW2.size))
      | (go_at_call 89; ((with_reducible refine (CM.out _).mono ?_); rintro e w2 ⟨rfl, rfl⟩)))
  go_wp2
  go_ret
  exact ⟨HV.out, by have := HBB.out; subst this; exact hb0.trans (hW2.mono hb0.size)⟩
set_option linter.unusedVariables false in
set_option maxHeartbeats 4000000 in
set_option maxRecDepth 100000 in
theorem check_d0 (tag id d0 d1 d2 mx e0 e1 e2 m : Int) (tx : ByteArray) (v : Int) (w : World) (hv : Ending.returned (.int .i64 1) = .returned (.int .i64 v))
    (hd : ∀ W : World, Calls Try.prog 88 #[.agg #[.int .i64 d0, .int .i64 d1, .int .i64 d2]] W fun e w' => e = .returned (.agg #[.int .i64 e0, .int .i64 e1, .int .i64 e2]) ∧ Below W.heap.size W w')
    (hm : ∀ W : World, Calls Try.prog 89 #[.int .i64 mx] W fun e w' => e = .returned (.int .i64 m) ∧ w' = W) (hx : (e0 == d0) = false) :
    Calls Try.prog 50 #[.agg (ics ⟨tag, id, d0, d1, d2, mx, tx⟩)] w fun e w' => e = .returned (.int .i64 v) ∧ Below w.heap.size w w' := by
  have CD := Lib.hid hd; clear hd
  have CM := Lib.hid hm; clear hm
  have HV := Lib.hid hv; clear hv
  unfold ics
  have HEQ := eq3
  go_enter Try.func50, Try.ntmps50
  go_wp2
  have hb0 : Below w.heap.size w (w.alloc (.cells (ics ⟨tag, id, d0, d1, d2, mx, tx⟩) 54)) := (Below.refl _ _).alloc (Nat.le_refl _) _
  have hr0 : RawAt 54 (w.alloc (.cells (ics ⟨tag, id, d0, d1, d2, mx, tx⟩) 54)) w.heap.size (ics ⟨tag, id, d0, d1, d2, mx, tx⟩) := heap_alloc_new w _
  change Code.wp _ _ _ _ (w.alloc (.cells (ics ⟨tag, id, d0, d1, d2, mx, tx⟩) 54))
  generalize (w.alloc (.cells (ics ⟨tag, id, d0, d1, d2, mx, tx⟩) 54)) = W1 at *
  generalize hbb : w.heap.size = b at hr0 ⊢
  have HBB := Lib.hid hbb; clear hbb
  have HR := Lib.hid hr0; clear hr0
  have MK := Lib.hid fun (W : World) (hW : Below W1.heap.size W1 W) => (by
      obtain ⟨x0, x1, x2, x3, x4, x5, x6⟩ := raw_ics (RawAt.below HR.out hW (RawAt.lt HR.out))
      exact ⟨x0, x1, x2, x3, x4, x5, x6, hW⟩ : W.cell? ⟨b, 0, none⟩ = some (.int .i64 tag) ∧ W.cell? ⟨b, 1, none⟩ = some (.int .i64 id) ∧ W.cell? ⟨b, 2, none⟩ = some (.int .i64 d0) ∧ W.cell? ⟨b, 3, none⟩ = some (.int .i64 d1) ∧ W.cell? ⟨b, 4, none⟩ = some (.int .i64 d2) ∧ W.cell? ⟨b, 5, none⟩ = some (.int .i64 mx) ∧ W.cell? ⟨b, 6, none⟩ = some (.string tx) ∧ Below W1.heap.size W1 W)
  have hW2 : Below W1.heap.size W1 W1.drew := (Below.refl _ _).drew
  go_wp2_with fail
  refine wp_region_noPanic ?_
  refine wp_region_held_drew (S := (fun W => W.cell? ⟨b, 0, none⟩ = some (.int .i64 tag) ∧ W.cell? ⟨b, 1, none⟩ = some (.int .i64 id) ∧ W.cell? ⟨b, 2, none⟩ = some (.int .i64 d0) ∧ W.cell? ⟨b, 3, none⟩ = some (.int .i64 d1) ∧ W.cell? ⟨b, 4, none⟩ = some (.int .i64 d2) ∧ W.cell? ⟨b, 5, none⟩ = some (.int .i64 mx) ∧ W.cell? ⟨b, 6, none⟩ = some (.string tx) ∧ Below W1.heap.size W1 W)) (by kernel_rfl) (MK.out _ hW2) (fun hHeld => ?_)
  refine wpAnyH_take (i := 0) (v := ?_) rfl (by kernel_rfl) (by kernel_rfl) (by kernel_rfl) (fun _ _ _ h => h) (Or.inl ⟨by rfl, ?_⟩) hHeld ?_
  rotate_left
  · intro w hSw
    (try dsimp only at hSw)
    go_simp
    try with_reducible rfl
  go_simp
  refine wpAnyH_take (i := 1) (v := ?_) rfl (by kernel_rfl) (by kernel_rfl) (by kernel_rfl) (fun _ _ _ h => h) (Or.inl ⟨by rfl, ?_⟩) hHeld ?_
  rotate_left
  · intro w hSw
    (try dsimp only at hSw)
    go_simp
    try with_reducible rfl
  go_simp
  refine wpAnyH_take (i := 3) (v := ?_) rfl (by kernel_rfl) (by kernel_rfl) (by kernel_rfl) (fun _ _ _ h => h) (Or.inl ⟨by rfl, ?_⟩) hHeld ?_
  rotate_left
  · intro w hSw
    (try dsimp only at hSw)
    go_simp
    try with_reducible rfl
  go_simp
  refine wpAnyH_take (i := 4) (v := ?_) rfl (by kernel_rfl) (by kernel_rfl) (by kernel_rfl) (fun _ _ _ h => h) (Or.inl ⟨by rfl, ?_⟩) hHeld ?_
  rotate_left
  · intro w hSw
    (try dsimp only at hSw)
    go_simp
    try with_reducible rfl
  go_simp
  refine wpAnyH_ready (rs := [2]) (by kernel_rfl) (by simp) ?_
  refine AllReadyH.cons rfl (fun K hK => ?_) ?_
  rotate_left
  · exact AllReadyH.nil
  go_simp
  go_wp2_with (go_at_call 88; ((with_reducible refine (CD.out _).mono ?_); rintro e w2 ⟨rfl, hb2⟩); have hW3 := hW2.trans (hb2.mono hW2.size))
  refine hK.out _ _ (MK.out _ hW3) (fun hHeld => ?_)
  clear hK K
  go_simp
  refine wpAnyH_take (i := 5) (v := ?_) rfl (by kernel_rfl) (by kernel_rfl) (by kernel_rfl) (fun _ _ _ h => h) (Or.inl ⟨by rfl, ?_⟩) hHeld ?_
  rotate_left
  · intro w hSw
    (try dsimp only at hSw)
    go_simp
    try with_reducible rfl
  go_simp
  refine wpAnyH_take (i := 6) (v := ?_) rfl (by kernel_rfl) (by kernel_rfl) (by kernel_rfl) (fun _ _ _ h => h) (Or.inl ⟨by rfl, ?_⟩) hHeld ?_
  rotate_left
  · intro w hSw
    (try dsimp only at hSw)
    go_simp
    try with_reducible rfl
  go_simp
  refine wpAnyH_take (i := 7) (v := undef) rfl (by kernel_rfl) (by kernel_rfl) (by kernel_rfl) (fun _ _ _ h => h) (Or.inr ⟨by rfl, rfl⟩) hHeld ?_
  go_simp
  refine wpAnyH_take (i := 8) (v := undef) rfl (by kernel_rfl) (by kernel_rfl) (by kernel_rfl) (fun _ _ _ h => h) (Or.inr ⟨by rfl, rfl⟩) hHeld ?_
  go_simp
  refine wpAnyH_take (i := 9) (v := undef) rfl (by kernel_rfl) (by kernel_rfl) (by kernel_rfl) (fun _ _ _ h => h) (Or.inr ⟨by rfl, rfl⟩) hHeld ?_
  go_simp
  refine wpAnyH_take (i := 10) (v := undef) rfl (by kernel_rfl) (by kernel_rfl) (by kernel_rfl) (fun _ _ _ h => h) (Or.inr ⟨by rfl, rfl⟩) hHeld ?_
  go_simp
  refine wpAnyH_take (i := 11) (v := undef) rfl (by kernel_rfl) (by kernel_rfl) (by kernel_rfl) (fun _ _ _ h => h) (Or.inr ⟨by rfl, rfl⟩) hHeld ?_
  go_simp
  refine wpAnyH_take (i := 12) (v := undef) rfl (by kernel_rfl) (by kernel_rfl) (by kernel_rfl) (fun _ _ _ h => h) (Or.inr ⟨by rfl, rfl⟩) hHeld ?_
  go_simp
  refine wpAnyH_take (i := 13) (v := ?_) rfl (by kernel_rfl) (by kernel_rfl) (by kernel_rfl) (fun _ _ _ h => h) (Or.inl ⟨by rfl, ?_⟩) hHeld ?_
  rotate_left
  · intro w hSw
    (try dsimp only at hSw)
    go_simp
    try with_reducible rfl
  go_simp
  refine wpAnyH_done (by kernel_rfl) ?_ _
  refine NoPanic.normal ?_
  go_wp2
  go_ret
  exact ⟨HV.out, by have := HBB.out; subst this; exact hb0.trans (hW3.mono hb0.size)⟩
set_option linter.unusedVariables false in
set_option maxHeartbeats 4000000 in
set_option maxRecDepth 100000 in
theorem check_d1 (tag id d0 d1 d2 mx e0 e1 e2 m : Int) (tx : ByteArray) (v : Int) (w : World) (hv : Ending.returned (.int .i64 1) = .returned (.int .i64 v))
    (hd : ∀ W : World, Calls Try.prog 88 #[.agg #[.int .i64 d0, .int .i64 d1, .int .i64 d2]] W fun e w' => e = .returned (.agg #[.int .i64 d0, .int .i64 e1, .int .i64 e2]) ∧ Below W.heap.size W w')
    (hm : ∀ W : World, Calls Try.prog 89 #[.int .i64 mx] W fun e w' => e = .returned (.int .i64 m) ∧ w' = W) (hx : (e1 == d1) = false) :
    Calls Try.prog 50 #[.agg (ics ⟨tag, id, d0, d1, d2, mx, tx⟩)] w fun e w' => e = .returned (.int .i64 v) ∧ Below w.heap.size w w' := by
  have CD := Lib.hid hd; clear hd
  have CM := Lib.hid hm; clear hm
  have HV := Lib.hid hv; clear hv
  unfold ics
  have HEQ := eq3
  go_enter Try.func50, Try.ntmps50
  go_wp2
  have hb0 : Below w.heap.size w (w.alloc (.cells (ics ⟨tag, id, d0, d1, d2, mx, tx⟩) 54)) := (Below.refl _ _).alloc (Nat.le_refl _) _
  have hr0 : RawAt 54 (w.alloc (.cells (ics ⟨tag, id, d0, d1, d2, mx, tx⟩) 54)) w.heap.size (ics ⟨tag, id, d0, d1, d2, mx, tx⟩) := heap_alloc_new w _
  change Code.wp _ _ _ _ (w.alloc (.cells (ics ⟨tag, id, d0, d1, d2, mx, tx⟩) 54))
  generalize (w.alloc (.cells (ics ⟨tag, id, d0, d1, d2, mx, tx⟩) 54)) = W1 at *
  generalize hbb : w.heap.size = b at hr0 ⊢
  have HBB := Lib.hid hbb; clear hbb
  have HR := Lib.hid hr0; clear hr0
  have MK := Lib.hid fun (W : World) (hW : Below W1.heap.size W1 W) => (by
      obtain ⟨x0, x1, x2, x3, x4, x5, x6⟩ := raw_ics (RawAt.below HR.out hW (RawAt.lt HR.out))
      exact ⟨x0, x1, x2, x3, x4, x5, x6, hW⟩ : W.cell? ⟨b, 0, none⟩ = some (.int .i64 tag) ∧ W.cell? ⟨b, 1, none⟩ = some (.int .i64 id) ∧ W.cell? ⟨b, 2, none⟩ = some (.int .i64 d0) ∧ W.cell? ⟨b, 3, none⟩ = some (.int .i64 d1) ∧ W.cell? ⟨b, 4, none⟩ = some (.int .i64 d2) ∧ W.cell? ⟨b, 5, none⟩ = some (.int .i64 mx) ∧ W.cell? ⟨b, 6, none⟩ = some (.string tx) ∧ Below W1.heap.size W1 W)
  have hW2 : Below W1.heap.size W1 W1.drew := (Below.refl _ _).drew
  go_wp2_with fail
  refine wp_region_noPanic ?_
  refine wp_region_held_drew (S := (fun W => W.cell? ⟨b, 0, none⟩ = some (.int .i64 tag) ∧ W.cell? ⟨b, 1, none⟩ = some (.int .i64 id) ∧ W.cell? ⟨b, 2, none⟩ = some (.int .i64 d0) ∧ W.cell? ⟨b, 3, none⟩ = some (.int .i64 d1) ∧ W.cell? ⟨b, 4, none⟩ = some (.int .i64 d2) ∧ W.cell? ⟨b, 5, none⟩ = some (.int .i64 mx) ∧ W.cell? ⟨b, 6, none⟩ = some (.string tx) ∧ Below W1.heap.size W1 W)) (by kernel_rfl) (MK.out _ hW2) (fun hHeld => ?_)
  refine wpAnyH_take (i := 0) (v := ?_) rfl (by kernel_rfl) (by kernel_rfl) (by kernel_rfl) (fun _ _ _ h => h) (Or.inl ⟨by rfl, ?_⟩) hHeld ?_
  rotate_left
  · intro w hSw
    (try dsimp only at hSw)
    go_simp
    try with_reducible rfl
  go_simp
  refine wpAnyH_take (i := 1) (v := ?_) rfl (by kernel_rfl) (by kernel_rfl) (by kernel_rfl) (fun _ _ _ h => h) (Or.inl ⟨by rfl, ?_⟩) hHeld ?_
  rotate_left
  · intro w hSw
    (try dsimp only at hSw)
    go_simp
    try with_reducible rfl
  go_simp
  refine wpAnyH_take (i := 3) (v := ?_) rfl (by kernel_rfl) (by kernel_rfl) (by kernel_rfl) (fun _ _ _ h => h) (Or.inl ⟨by rfl, ?_⟩) hHeld ?_
  rotate_left
  · intro w hSw
    (try dsimp only at hSw)
    go_simp
    try with_reducible rfl
  go_simp
  refine wpAnyH_take (i := 4) (v := ?_) rfl (by kernel_rfl) (by kernel_rfl) (by kernel_rfl) (fun _ _ _ h => h) (Or.inl ⟨by rfl, ?_⟩) hHeld ?_
  rotate_left
  · intro w hSw
    (try dsimp only at hSw)
    go_simp
    try with_reducible rfl
  go_simp
  refine wpAnyH_ready (rs := [2]) (by kernel_rfl) (by simp) ?_
  refine AllReadyH.cons rfl (fun K hK => ?_) ?_
  rotate_left
  · exact AllReadyH.nil
  go_simp
  go_wp2_with (go_at_call 88; ((with_reducible refine (CD.out _).mono ?_); rintro e w2 ⟨rfl, hb2⟩); have hW3 := hW2.trans (hb2.mono hW2.size))
  refine hK.out _ _ (MK.out _ hW3) (fun hHeld => ?_)
  clear hK K
  go_simp
  refine wpAnyH_take (i := 5) (v := ?_) rfl (by kernel_rfl) (by kernel_rfl) (by kernel_rfl) (fun _ _ _ h => h) (Or.inl ⟨by rfl, ?_⟩) hHeld ?_
  rotate_left
  · intro w hSw
    (try dsimp only at hSw)
    go_simp
    try with_reducible rfl
  go_simp
  refine wpAnyH_take (i := 6) (v := ?_) rfl (by kernel_rfl) (by kernel_rfl) (by kernel_rfl) (fun _ _ _ h => h) (Or.inl ⟨by rfl, ?_⟩) hHeld ?_
  rotate_left
  · intro w hSw
    (try dsimp only at hSw)
    go_simp
    try with_reducible rfl
  go_simp
  refine wpAnyH_take (i := 7) (v := undef) rfl (by kernel_rfl) (by kernel_rfl) (by kernel_rfl) (fun _ _ _ h => h) (Or.inr ⟨by rfl, rfl⟩) hHeld ?_
  go_simp
  refine wpAnyH_take (i := 8) (v := undef) rfl (by kernel_rfl) (by kernel_rfl) (by kernel_rfl) (fun _ _ _ h => h) (Or.inr ⟨by rfl, rfl⟩) hHeld ?_
  go_simp
  refine wpAnyH_take (i := 9) (v := undef) rfl (by kernel_rfl) (by kernel_rfl) (by kernel_rfl) (fun _ _ _ h => h) (Or.inr ⟨by rfl, rfl⟩) hHeld ?_
  go_simp
  refine wpAnyH_take (i := 10) (v := undef) rfl (by kernel_rfl) (by kernel_rfl) (by kernel_rfl) (fun _ _ _ h => h) (Or.inr ⟨by rfl, rfl⟩) hHeld ?_
  go_simp
  refine wpAnyH_take (i := 11) (v := undef) rfl (by kernel_rfl) (by kernel_rfl) (by kernel_rfl) (fun _ _ _ h => h) (Or.inr ⟨by rfl, rfl⟩) hHeld ?_
  go_simp
  refine wpAnyH_take (i := 12) (v := undef) rfl (by kernel_rfl) (by kernel_rfl) (by kernel_rfl) (fun _ _ _ h => h) (Or.inr ⟨by rfl, rfl⟩) hHeld ?_
  go_simp
  refine wpAnyH_take (i := 13) (v := ?_) rfl (by kernel_rfl) (by kernel_rfl) (by kernel_rfl) (fun _ _ _ h => h) (Or.inl ⟨by rfl, ?_⟩) hHeld ?_
  rotate_left
  · intro w hSw
    (try dsimp only at hSw)
    go_simp
    try with_reducible rfl
  go_simp
  refine wpAnyH_done (by kernel_rfl) ?_ _
  refine NoPanic.normal ?_
  go_wp2
  go_ret
  exact ⟨HV.out, by have := HBB.out; subst this; exact hb0.trans (hW3.mono hb0.size)⟩
set_option linter.unusedVariables false in
set_option maxHeartbeats 4000000 in
set_option maxRecDepth 100000 in
theorem check_d2 (tag id d0 d1 d2 mx e0 e1 e2 m : Int) (tx : ByteArray) (v : Int) (w : World) (hv : Ending.returned (.int .i64 1) = .returned (.int .i64 v))
    (hd : ∀ W : World, Calls Try.prog 88 #[.agg #[.int .i64 d0, .int .i64 d1, .int .i64 d2]] W fun e w' => e = .returned (.agg #[.int .i64 d0, .int .i64 d1, .int .i64 e2]) ∧ Below W.heap.size W w')
    (hm : ∀ W : World, Calls Try.prog 89 #[.int .i64 mx] W fun e w' => e = .returned (.int .i64 m) ∧ w' = W) (hx : (e2 == d2) = false) :
    Calls Try.prog 50 #[.agg (ics ⟨tag, id, d0, d1, d2, mx, tx⟩)] w fun e w' => e = .returned (.int .i64 v) ∧ Below w.heap.size w w' := by
  have CD := Lib.hid hd; clear hd
  have CM := Lib.hid hm; clear hm
  have HV := Lib.hid hv; clear hv
  unfold ics
  have HEQ := eq3
  go_enter Try.func50, Try.ntmps50
  go_wp2
  have hb0 : Below w.heap.size w (w.alloc (.cells (ics ⟨tag, id, d0, d1, d2, mx, tx⟩) 54)) := (Below.refl _ _).alloc (Nat.le_refl _) _
  have hr0 : RawAt 54 (w.alloc (.cells (ics ⟨tag, id, d0, d1, d2, mx, tx⟩) 54)) w.heap.size (ics ⟨tag, id, d0, d1, d2, mx, tx⟩) := heap_alloc_new w _
  change Code.wp _ _ _ _ (w.alloc (.cells (ics ⟨tag, id, d0, d1, d2, mx, tx⟩) 54))
  generalize (w.alloc (.cells (ics ⟨tag, id, d0, d1, d2, mx, tx⟩) 54)) = W1 at *
  generalize hbb : w.heap.size = b at hr0 ⊢
  have HBB := Lib.hid hbb; clear hbb
  have HR := Lib.hid hr0; clear hr0
  have MK := Lib.hid fun (W : World) (hW : Below W1.heap.size W1 W) => (by
      obtain ⟨x0, x1, x2, x3, x4, x5, x6⟩ := raw_ics (RawAt.below HR.out hW (RawAt.lt HR.out))
      exact ⟨x0, x1, x2, x3, x4, x5, x6, hW⟩ : W.cell? ⟨b, 0, none⟩ = some (.int .i64 tag) ∧ W.cell? ⟨b, 1, none⟩ = some (.int .i64 id) ∧ W.cell? ⟨b, 2, none⟩ = some (.int .i64 d0) ∧ W.cell? ⟨b, 3, none⟩ = some (.int .i64 d1) ∧ W.cell? ⟨b, 4, none⟩ = some (.int .i64 d2) ∧ W.cell? ⟨b, 5, none⟩ = some (.int .i64 mx) ∧ W.cell? ⟨b, 6, none⟩ = some (.string tx) ∧ Below W1.heap.size W1 W)
  have hW2 : Below W1.heap.size W1 W1.drew := (Below.refl _ _).drew
  go_wp2_with fail
  refine wp_region_noPanic ?_
  refine wp_region_held_drew (S := (fun W => W.cell? ⟨b, 0, none⟩ = some (.int .i64 tag) ∧ W.cell? ⟨b, 1, none⟩ = some (.int .i64 id) ∧ W.cell? ⟨b, 2, none⟩ = some (.int .i64 d0) ∧ W.cell? ⟨b, 3, none⟩ = some (.int .i64 d1) ∧ W.cell? ⟨b, 4, none⟩ = some (.int .i64 d2) ∧ W.cell? ⟨b, 5, none⟩ = some (.int .i64 mx) ∧ W.cell? ⟨b, 6, none⟩ = some (.string tx) ∧ Below W1.heap.size W1 W)) (by kernel_rfl) (MK.out _ hW2) (fun hHeld => ?_)
  refine wpAnyH_take (i := 0) (v := ?_) rfl (by kernel_rfl) (by kernel_rfl) (by kernel_rfl) (fun _ _ _ h => h) (Or.inl ⟨by rfl, ?_⟩) hHeld ?_
  rotate_left
  · intro w hSw
    (try dsimp only at hSw)
    go_simp
    try with_reducible rfl
  go_simp
  refine wpAnyH_take (i := 1) (v := ?_) rfl (by kernel_rfl) (by kernel_rfl) (by kernel_rfl) (fun _ _ _ h => h) (Or.inl ⟨by rfl, ?_⟩) hHeld ?_
  rotate_left
  · intro w hSw
    (try dsimp only at hSw)
    go_simp
    try with_reducible rfl
  go_simp
  refine wpAnyH_take (i := 3) (v := ?_) rfl (by kernel_rfl) (by kernel_rfl) (by kernel_rfl) (fun _ _ _ h => h) (Or.inl ⟨by rfl, ?_⟩) hHeld ?_
  rotate_left
  · intro w hSw
    (try dsimp only at hSw)
    go_simp
    try with_reducible rfl
  go_simp
  refine wpAnyH_take (i := 4) (v := ?_) rfl (by kernel_rfl) (by kernel_rfl) (by kernel_rfl) (fun _ _ _ h => h) (Or.inl ⟨by rfl, ?_⟩) hHeld ?_
  rotate_left
  · intro w hSw
    (try dsimp only at hSw)
    go_simp
    try with_reducible rfl
  go_simp
  refine wpAnyH_ready (rs := [2]) (by kernel_rfl) (by simp) ?_
  refine AllReadyH.cons rfl (fun K hK => ?_) ?_
  rotate_left
  · exact AllReadyH.nil
  go_simp
  go_wp2_with (go_at_call 88; ((with_reducible refine (CD.out _).mono ?_); rintro e w2 ⟨rfl, hb2⟩); have hW3 := hW2.trans (hb2.mono hW2.size))
  refine hK.out _ _ (MK.out _ hW3) (fun hHeld => ?_)
  clear hK K
  go_simp
  refine wpAnyH_take (i := 5) (v := ?_) rfl (by kernel_rfl) (by kernel_rfl) (by kernel_rfl) (fun _ _ _ h => h) (Or.inl ⟨by rfl, ?_⟩) hHeld ?_
  rotate_left
  · intro w hSw
    (try dsimp only at hSw)
    go_simp
    try with_reducible rfl
  go_simp
  refine wpAnyH_take (i := 6) (v := ?_) rfl (by kernel_rfl) (by kernel_rfl) (by kernel_rfl) (fun _ _ _ h => h) (Or.inl ⟨by rfl, ?_⟩) hHeld ?_
  rotate_left
  · intro w hSw
    (try dsimp only at hSw)
    go_simp
    try with_reducible rfl
  go_simp
  refine wpAnyH_take (i := 7) (v := undef) rfl (by kernel_rfl) (by kernel_rfl) (by kernel_rfl) (fun _ _ _ h => h) (Or.inr ⟨by rfl, rfl⟩) hHeld ?_
  go_simp
  refine wpAnyH_take (i := 8) (v := undef) rfl (by kernel_rfl) (by kernel_rfl) (by kernel_rfl) (fun _ _ _ h => h) (Or.inr ⟨by rfl, rfl⟩) hHeld ?_
  go_simp
  refine wpAnyH_take (i := 9) (v := undef) rfl (by kernel_rfl) (by kernel_rfl) (by kernel_rfl) (fun _ _ _ h => h) (Or.inr ⟨by rfl, rfl⟩) hHeld ?_
  go_simp
  refine wpAnyH_take (i := 10) (v := undef) rfl (by kernel_rfl) (by kernel_rfl) (by kernel_rfl) (fun _ _ _ h => h) (Or.inr ⟨by rfl, rfl⟩) hHeld ?_
  go_simp
  refine wpAnyH_take (i := 11) (v := undef) rfl (by kernel_rfl) (by kernel_rfl) (by kernel_rfl) (fun _ _ _ h => h) (Or.inr ⟨by rfl, rfl⟩) hHeld ?_
  go_simp
  refine wpAnyH_take (i := 12) (v := undef) rfl (by kernel_rfl) (by kernel_rfl) (by kernel_rfl) (fun _ _ _ h => h) (Or.inr ⟨by rfl, rfl⟩) hHeld ?_
  go_simp
  refine wpAnyH_take (i := 13) (v := ?_) rfl (by kernel_rfl) (by kernel_rfl) (by kernel_rfl) (fun _ _ _ h => h) (Or.inl ⟨by rfl, ?_⟩) hHeld ?_
  rotate_left
  · intro w hSw
    (try dsimp only at hSw)
    go_simp
    try with_reducible rfl
  go_simp
  refine wpAnyH_done (by kernel_rfl) ?_ _
  refine NoPanic.normal ?_
  go_wp2
  go_ret
  exact ⟨HV.out, by have := HBB.out; subst this; exact hb0.trans (hW3.mono hb0.size)⟩
theorem check_any (i : I7) (v : Int) (hv : (Oki i → v = 0) ∧ (¬ Oki i → v = 1)) (w : World) : Calls Try.prog 50 #[.agg (ics i)] w fun e w' => e = .returned (.int .i64 v) ∧ Below w.heap.size w w' := by
  obtain ⟨tag, id, d0, d1, d2, mx, tx⟩ := i
  have hd := fun W => bounded_any d0 d1 d2 W
  have hm := fun W => bound_any mx W
  unfold dcs at hd
  by_cases k0 : Okn d0
  · rw [clamp_ok k0] at hd
    by_cases k1 : Okn d1
    · rw [clamp_ok k1] at hd
      by_cases k2 : Okn d2
      · rw [clamp_ok k2] at hd
        by_cases k3 : Okn mx
        · rw [clamp_ok k3] at hm
          exact check_ok tag id d0 d1 d2 mx 0 0 0 0 tx v w (rv_yes hv ⟨⟨k0, k1, k2⟩, k3⟩) hd hm
        · exact check_mx tag id d0 d1 d2 mx 0 0 0 _ tx v w (rv_no hv (fun h => k3 h.2)) hd hm (by simpa using clamp_no k3)
      · exact check_d2 tag id d0 d1 d2 mx 0 0 _ _ tx v w (rv_no hv (fun h => k2 h.1.2.2)) hd hm (by simpa using clamp_no k2)
    · exact check_d1 tag id d0 d1 d2 mx 0 _ _ _ tx v w (rv_no hv (fun h => k1 h.1.2.1)) hd hm (by simpa using clamp_no k1)
  · exact check_d0 tag id d0 d1 d2 mx _ _ _ _ tx v w (rv_no hv (fun h => k0 h.1.1)) hd hm (by simpa using clamp_no k0)
end Go.Proofs.Ytbbplppcabeojaa
