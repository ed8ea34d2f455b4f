/- Methods of trees: Find. -/
import Derived.Test.YtpnjokhhbjpciaaGreatDoorTreeT
import Derived.Test.YtpnjokhhbjpciaaGreatDoorFindT
namespace Go.Proofs.YtpnjokhhbjpciaaGreatDoor
open Go.RowKit
theorem rightd_any (dim : Int) (w : World) (rb : Bool) (hrb : rb = true ↔ 0 ≤ dim ∧ dim < 4) : Calls Tryz.prog 155 #[.int .i64 dim] w fun e w' => e = .returned (.bool rb) ∧ w' = w := by
  have HF := Lib.hid hrb; clear hrb
  by_cases h1 : dim < 0
  · have HX := Lib.hid (ab_no HF.out (fun h => by omega))
    go_enter Tryz.func155, Tryz.ntmps155
    go_wp2
    go_ret
    exact ⟨ret_bool HX.out, rfl⟩
  · by_cases h2 : dim ≤ 3
    · have HX := Lib.hid (ab_yes HF.out (by omega))
      go_enter Tryz.func155, Tryz.ntmps155
      go_wp2
      go_ret
      exact ⟨ret_bool (by first | exact HX.out | exact (decide_eq_true h2).trans HX.out), rfl⟩
    · have HX := Lib.hid (ab_no HF.out (fun h => by omega))
      go_enter Tryz.func155, Tryz.ntmps155
      go_wp2
      go_ret
      exact ⟨ret_bool HX.out, rfl⟩
theorem four_new (w : World) (a b c d : Array Value) : RawAt 3 ((((w.alloc (.cells a 3)).alloc (.cells b 3)).alloc (.cells c 3)).alloc (.cells d 208)) w.heap.size a ∧ RawAt 3 ((((w.alloc (.cells a 3)).alloc (.cells b 3)).alloc (.cells c 3)).alloc (.cells d 208)) (w.heap.size + 1) b ∧ RawAt 3 ((((w.alloc (.cells a 3)).alloc (.cells b 3)).alloc (.cells c 3)).alloc (.cells d 208)) (w.heap.size + 1 + 1) c ∧ RawAt 208 ((((w.alloc (.cells a 3)).alloc (.cells b 3)).alloc (.cells c 3)).alloc (.cells d 208)) (w.heap.size + 1 + 1 + 1) d := by
  have e1 : (w.alloc (.cells a 3)).heap.size = w.heap.size + 1 := by simp
  have e2 : ((w.alloc (.cells a 3)).alloc (.cells b 3)).heap.size = w.heap.size + 1 + 1 := by simp
  have e3 : (((w.alloc (.cells a 3)).alloc (.cells b 3)).alloc (.cells c 3)).heap.size = w.heap.size + 1 + 1 + 1 := by simp
  have h0 : RawAt 3 (w.alloc (.cells a 3)) w.heap.size a := heap_alloc_new w _
  have h1 : RawAt 3 ((w.alloc (.cells a 3)).alloc (.cells b 3)) (w.heap.size + 1) b := by rw [← e1]; exact heap_alloc_new _ _
  have h2 : RawAt 3 (((w.alloc (.cells a 3)).alloc (.cells b 3)).alloc (.cells c 3)) (w.heap.size + 1 + 1) c := by rw [← e2]; exact heap_alloc_new _ _
  have h3 : RawAt 208 ((((w.alloc (.cells a 3)).alloc (.cells b 3)).alloc (.cells c 3)).alloc (.cells d 208)) (w.heap.size + 1 + 1 + 1) d := by rw [← e3]; exact heap_alloc_new _ _
  have st : ∀ {t : TypeId} {W : World} {x : Nat} {cs : Array Value} (o : Obj), RawAt t W x cs → RawAt t (W.alloc o) x cs := fun o hx => RawAt.below hx ((Below.refl _ _).alloc (Nat.le_refl _) o) hx.lt
  exact ⟨st _ (st _ (st _ h0)), st _ (st _ h1), st _ h2, h3⟩
theorem raw_eight {t : TypeId} {w : World} {b : Nat} {a0 a1 a2 a3 a4 a5 a6 a7 : Value} (h : RawAt t w b #[a0, a1, a2, a3, a4, a5, a6, a7]) : w.cell? ⟨b, 0, none⟩ = some a0 ∧ w.cell? ⟨b, 1, none⟩ = some a1 ∧ w.cell? ⟨b, 2, none⟩ = some a2 ∧ w.cell? ⟨b, 3, none⟩ = some a3 ∧ w.cell? ⟨b, 4, none⟩ = some a4 ∧ w.cell? ⟨b, 5, none⟩ = some a5 ∧ w.cell? ⟨b, 6, none⟩ = some a6 ∧ w.cell? ⟨b, 7, none⟩ = some a7 :=
  ⟨RawAt.cell h 0, RawAt.cell h 1, RawAt.cell h 2, RawAt.cell h 3, RawAt.cell h 4, RawAt.cell h 5, RawAt.cell h 6, RawAt.cell h 7⟩
set_option linter.unusedVariables false in
set_option maxHeartbeats 8000000 in
set_option maxRecDepth 100000 in
theorem tfind_b1 (p : Option Addr) (l : List I7) (h : Nat) (dim v bi : Int) (w : World) (ht : TP w p l h) (hd : ¬ (0 ≤ dim ∧ dim < 4)) :
    Calls Tryz.prog 130 #[.pointer p, .int .i64 dim, .int .i64 v, .int .i64 bi] w fun e w' => e = .returned (.tuple #[.agg (vcs 0 s0 0), .int .i64 1]) ∧ Below w.heap.size w w' := by
  have hmf : ∀ (fn : Fn) (first cap : Array Value) (w : World), (Instr.makeFunc fn first cap).run Tryz.prog w = .ok (.func fn first cap) w := fun _ _ _ _ => rfl
  have CS : Hid (∀ W : World, Below w.heap.size w W → Calls Tryz.prog 109 #[.pointer p] W fun e w' => e = .returned (.agg #[.int .i64 (sall l).n, .int .i64 (sall l).d0, .int .i64 (sall l).d1, .int .i64 (sall l).d2, .int .i64 (sall l).mx, .int .i64 (sall l).pl]) ∧ Below W.heap.size W w') := fun W hW => tsum_any p l h W (ht.below hW)
  have ho := ht.okl.1
  have CR := Lib.hid fun (W : World) => rightd_any dim W false ⟨fun e => absurd e (by simp), fun e => absurd e hd⟩
  have CZ := Lib.hid fun (W : World) => tsize_any (sall l) 0 W (by omega)
  clear ht ho
  go_enter Tryz.func130, Tryz.ntmps130
  go_wp2
  have hb1 : Below w.heap.size w ((((w.alloc (.cells #[.int .i64 dim] 3)).alloc (.cells #[.int .i64 v] 3)).alloc (.cells #[.int .i64 bi] 3)).alloc (.cells #[.int .i64 0, .int .i64 0, .int .i64 0, .int .i64 0, .int .i64 0, .int .i64 0, .int .i64 0, .int .i64 0] 208)) := ((((Below.refl _ _).alloc (Nat.le_refl _) _).alloc (by simp) _).alloc (by simp; omega) _).alloc (by simp; omega) _
  obtain ⟨q0, q1, q2, q3⟩ := four_new w #[.int .i64 dim] #[.int .i64 v] #[.int .i64 bi] #[.int .i64 0, .int .i64 0, .int .i64 0, .int .i64 0, .int .i64 0, .int .i64 0, .int .i64 0, .int .i64 0]
  obtain ⟨W1, hW1⟩ : ∃ W1, W1 = ((((w.alloc (.cells #[.int .i64 dim] 3)).alloc (.cells #[.int .i64 v] 3)).alloc (.cells #[.int .i64 bi] 3)).alloc (.cells #[.int .i64 0, .int .i64 0, .int .i64 0, .int .i64 0, .int .i64 0, .int .i64 0, .int .i64 0, .int .i64 0] 208)) := ⟨_, rfl⟩
  rw [← hW1] at hb1 q0 q1 q2 q3 ⊢
  clear hW1
  have HQ0 := Lib.hid q0
  have HQ1 := Lib.hid q1
  have HQ2 := Lib.hid q2
  have HQ3 := Lib.hid q3
  clear q0 q1 q2 q3
  have MK := Lib.hid fun (W : World) (hW : Below W1.heap.size W1 W) => (⟨RawAt.cell (RawAt.below HQ0.out hW (RawAt.lt HQ0.out)) 0, RawAt.cell (RawAt.below HQ1.out hW (RawAt.lt HQ1.out)) 0, RawAt.cell (RawAt.below HQ2.out hW (RawAt.lt HQ2.out)) 0⟩ : W.cell? ⟨w.heap.size, 0, none⟩ = some (.int .i64 dim) ∧ W.cell? ⟨w.heap.size + 1, 0, none⟩ = some (.int .i64 v) ∧ W.cell? ⟨w.heap.size + 1 + 1, 0, none⟩ = some (.int .i64 bi))
  have hW2 : Below W1.heap.size W1 W1.drew := (Below.refl _ _).drew
  go_wp2_with fail
  refine wp_region_noPanic ?_
  refine wp_region_held_drew (S := (fun W => W.cell? ⟨w.heap.size, 0, none⟩ = some (.int .i64 dim) ∧ W.cell? ⟨w.heap.size + 1, 0, none⟩ = some (.int .i64 v) ∧ W.cell? ⟨w.heap.size + 1 + 1, 0, none⟩ = some (.int .i64 bi))) (by kernel_rfl) (MK.out _ hW2) (fun hHeld => ?_)
  refine wpAnyH_take (i := 0) (v := ?_) rfl (by kernel_rfl) (by kernel_rfl) (by kernel_rfl) (fun _ _ _ h => h) (Or.inl ⟨by rfl, ?_⟩) hHeld ?_
  rotate_left
  · intro w hSw
    (try dsimp only at hSw)
    go_simp
    try with_reducible rfl
  go_simp
  refine wpAnyH_ready (rs := [1]) (by kernel_rfl) (by simp) ?_
  refine AllReadyH.cons rfl (fun K hK => ?_) ?_
  rotate_left
  · exact AllReadyH.nil
  go_simp
  go_wp2_with (first | (go_at_call 155; ((with_reducible refine (CR.out _).mono ?_); rintro e w2 ⟨rfl, hw2⟩); have hw2 := hw2.symm; subst hw2) | (go_at_call 109; ((with_reducible refine (CS.out _ (hb1.trans (hW2.mono hb1.size))).mono ?_); rintro e w3 ⟨rfl, hb3⟩); have hW2 := hW2.trans (hb3.mono hW2.size)) | (go_at_call 156; ((with_reducible refine (CZ.out _).mono ?_); rintro e w4 ⟨rfl, hb4⟩); have hW2 := hW2.trans (hb4.mono hW2.size)))
  refine hK.out _ _ (MK.out _ hW2) (fun hHeld => ?_)
  clear hK K
  go_simp
  refine wpAnyH_take (i := 2) (v := ?_) rfl (by kernel_rfl) (by kernel_rfl) (by kernel_rfl) (fun _ _ _ h => h) (Or.inl ⟨by rfl, ?_⟩) hHeld ?_
  rotate_left
  · intro w hSw
    (try dsimp only at hSw)
    go_simp
    try with_reducible rfl
  go_simp
  refine wpAnyH_take (i := 3) (v := ?_) rfl (by kernel_rfl) (by kernel_rfl) (by kernel_rfl) (fun _ _ _ h => h) (Or.inl ⟨by rfl, ?_⟩) hHeld ?_
  rotate_left
  · intro w hSw
    (try dsimp only at hSw)
    go_simp
    try with_reducible rfl
  go_simp
  refine wpAnyH_take (i := 4) (v := undef) rfl (by kernel_rfl) (by kernel_rfl) (by kernel_rfl) (fun _ _ _ h => h) (Or.inr ⟨by rfl, rfl⟩) hHeld ?_
  go_simp
  refine wpAnyH_take (i := 5) (v := undef) rfl (by kernel_rfl) (by kernel_rfl) (by kernel_rfl) (fun _ _ _ h => h) (Or.inr ⟨by rfl, rfl⟩) hHeld ?_
  go_simp
  refine wpAnyH_take (i := 6) (v := ?_) rfl (by kernel_rfl) (by kernel_rfl) (by kernel_rfl) (fun _ _ _ h => h) (Or.inl ⟨by rfl, ?_⟩) hHeld ?_
  rotate_left
  · intro w hSw
    (try dsimp only at hSw)
    go_simp
    try with_reducible rfl
  go_simp
  refine wpAnyH_take (i := 7) (v := ?_) rfl (by kernel_rfl) (by kernel_rfl) (by kernel_rfl) (fun _ _ _ h => h) (Or.inl ⟨by rfl, ?_⟩) hHeld ?_
  rotate_left
  · intro w hSw
    (try dsimp only at hSw)
    go_simp
    try with_reducible rfl
  go_simp
  refine wpAnyH_take (i := 8) (v := undef) rfl (by kernel_rfl) (by kernel_rfl) (by kernel_rfl) (fun _ _ _ h => h) (Or.inr ⟨by rfl, rfl⟩) hHeld ?_
  go_simp
  refine wpAnyH_take (i := 9) (v := undef) rfl (by kernel_rfl) (by kernel_rfl) (by kernel_rfl) (fun _ _ _ h => h) (Or.inr ⟨by rfl, rfl⟩) hHeld ?_
  go_simp
  refine wpAnyH_take (i := 10) (v := undef) rfl (by kernel_rfl) (by kernel_rfl) (by kernel_rfl) (fun _ _ _ h => h) (Or.inr ⟨by rfl, rfl⟩) hHeld ?_
  go_simp
  refine wpAnyH_take (i := 11) (v := undef) rfl (by kernel_rfl) (by kernel_rfl) (by kernel_rfl) (fun _ _ _ h => h) (Or.inr ⟨by rfl, rfl⟩) hHeld ?_
  go_simp
  refine wpAnyH_take (i := 12) (v := undef) rfl (by kernel_rfl) (by kernel_rfl) (by kernel_rfl) (fun _ _ _ h => h) (Or.inr ⟨by rfl, rfl⟩) hHeld ?_
  go_simp
  refine wpAnyH_take (i := 13) (v := undef) rfl (by kernel_rfl) (by kernel_rfl) (by kernel_rfl) (fun _ _ _ h => h) (Or.inr ⟨by rfl, rfl⟩) hHeld ?_
  go_simp
  refine wpAnyH_take (i := 14) (v := ?_) rfl (by kernel_rfl) (by kernel_rfl) (by kernel_rfl) (fun _ _ _ h => h) (Or.inl ⟨by rfl, ?_⟩) hHeld ?_
  rotate_left
  · intro w hSw
    (try dsimp only at hSw)
    go_simp
    try with_reducible rfl
  go_simp
  refine wpAnyH_take (i := 15) (v := ?_) rfl (by kernel_rfl) (by kernel_rfl) (by kernel_rfl) (fun _ _ _ h => h) (Or.inl ⟨by rfl, ?_⟩) hHeld ?_
  rotate_left
  · intro w hSw
    (try dsimp only at hSw)
    go_simp
    try with_reducible rfl
  go_simp
  refine wpAnyH_take (i := 16) (v := undef) rfl (by kernel_rfl) (by kernel_rfl) (by kernel_rfl) (fun _ _ _ h => h) (Or.inr ⟨by rfl, rfl⟩) hHeld ?_
  go_simp
  refine wpAnyH_take (i := 17) (v := undef) rfl (by kernel_rfl) (by kernel_rfl) (by kernel_rfl) (fun _ _ _ h => h) (Or.inr ⟨by rfl, rfl⟩) hHeld ?_
  go_simp
  refine wpAnyH_take (i := 18) (v := undef) rfl (by kernel_rfl) (by kernel_rfl) (by kernel_rfl) (fun _ _ _ h => h) (Or.inr ⟨by rfl, rfl⟩) hHeld ?_
  go_simp
  refine wpAnyH_take (i := 19) (v := undef) rfl (by kernel_rfl) (by kernel_rfl) (by kernel_rfl) (fun _ _ _ h => h) (Or.inr ⟨by rfl, rfl⟩) hHeld ?_
  go_simp
  refine wpAnyH_take (i := 20) (v := undef) rfl (by kernel_rfl) (by kernel_rfl) (by kernel_rfl) (fun _ _ _ h => h) (Or.inr ⟨by rfl, rfl⟩) hHeld ?_
  go_simp
  refine wpAnyH_take (i := 21) (v := undef) rfl (by kernel_rfl) (by kernel_rfl) (by kernel_rfl) (fun _ _ _ h => h) (Or.inr ⟨by rfl, rfl⟩) hHeld ?_
  go_simp
  refine wpAnyH_take (i := 22) (v := ?_) rfl (by kernel_rfl) (by kernel_rfl) (by kernel_rfl) (fun _ _ _ h => h) (Or.inl ⟨by rfl, ?_⟩) hHeld ?_
  rotate_left
  · intro w hSw
    (try dsimp only at hSw)
    go_simp
    try with_reducible rfl
  go_simp
  refine wpAnyH_done (by kernel_rfl) ?_ _
  refine NoPanic.normal ?_
  have r2 := HQ3.out.below hW2 HQ3.out.lt
  have af := hb1.trans (hW2.mono hb1.size)
  have f0 := r2.free 0
  have f1 := r2.free 1
  have f2 := r2.free 2
  have f3 := r2.free 3
  have f4 := r2.free 4
  have f5 := r2.free 5
  have f6 := r2.free 6
  have f7 := r2.free 7
  obtain ⟨c0, c1, c2, c3, c4, c5, c6, c7⟩ := raw_eight r2
  clear r2
  obtain ⟨k0, k1, k2, k3, k4, k5, k6, k7⟩ := raw_eight HQ3.out
  have j0 := HQ3.out.free 0
  have j1 := HQ3.out.free 1
  have j2 := HQ3.out.free 2
  have j3 := HQ3.out.free 3
  have j4 := HQ3.out.free 4
  have j5 := HQ3.out.free 5
  have j6 := HQ3.out.free 6
  have j7 := HQ3.out.free 7
  go_wp2
  refine bodyPost_ret (v := .tuple #[.agg #[.int .i64 0, .int .i64 0, .int .i64 0, .int .i64 0, .int .i64 0, .int .i64 0, .int .i64 0, .int .i64 0], .int .i64 1]) (by simp [results, Tryz.results130, go_sem, k0, k1, k2, k3, k4, k5, k6, k7]) rfl ⟨rfl, ?_⟩
  (repeat' (first | (with_reducible exact af) | (with_reducible exact hb1) | (with_reducible refine Below.setCell ?_ ?_ _) | (with_reducible refine Below.drew ?_))) <;> first | exact Nat.le_refl _ | (simp; done) | (simp; omega)
set_option linter.unusedVariables false in
set_option maxHeartbeats 8000000 in
set_option maxRecDepth 100000 in
theorem tfind_b2 (p : Option Addr) (l : List I7) (h : Nat) (dim v bi : Int) (w : World) (ht : TP w p l h) (hd : 0 ≤ dim ∧ dim < 4) (hv : v < 0) :
    Calls Tryz.prog 130 #[.pointer p, .int .i64 dim, .int .i64 v, .int .i64 bi] w fun e w' => e = .returned (.tuple #[.agg (vcs 0 s0 0), .int .i64 1]) ∧ Below w.heap.size w w' := by
  have hmf : ∀ (fn : Fn) (first cap : Array Value) (w : World), (Instr.makeFunc fn first cap).run Tryz.prog w = .ok (.func fn first cap) w := fun _ _ _ _ => rfl
  have CS : Hid (∀ W : World, Below w.heap.size w W → Calls Tryz.prog 109 #[.pointer p] W fun e w' => e = .returned (.agg #[.int .i64 (sall l).n, .int .i64 (sall l).d0, .int .i64 (sall l).d1, .int .i64 (sall l).d2, .int .i64 (sall l).mx, .int .i64 (sall l).pl]) ∧ Below W.heap.size W w') := fun W hW => tsum_any p l h W (ht.below hW)
  have ho := ht.okl.1
  have CR := Lib.hid fun (W : World) => rightd_any dim W true ⟨fun _ => hd, fun _ => rfl⟩
  have CZ : Hid (∀ W : World, Calls Tryz.prog 156 #[.agg #[.int .i64 (sall l).n, .int .i64 (sall l).d0, .int .i64 (sall l).d1, .int .i64 (sall l).d2, .int .i64 (sall l).mx, .int .i64 (sall l).pl], .int .i64 dim] W fun e w' => e = .returned (.int .i64 (sdim l dim.toNat)) ∧ Below W.heap.size W w') := fun W => by
    have := tsize_any (sall l) dim.toNat W (by omega)
    rw [ssz_sdim l ho, Int.toNat_of_nonneg hd.1] at this
    exact this
  generalize hE : sdim l dim.toNat = E at *
  clear ht ho
  have q1 : decide (v < 0) = true := decide_eq_true hv
  go_enter Tryz.func130, Tryz.ntmps130
  go_wp2
  have hb1 : Below w.heap.size w ((((w.alloc (.cells #[.int .i64 dim] 3)).alloc (.cells #[.int .i64 v] 3)).alloc (.cells #[.int .i64 bi] 3)).alloc (.cells #[.int .i64 0, .int .i64 0, .int .i64 0, .int .i64 0, .int .i64 0, .int .i64 0, .int .i64 0, .int .i64 0] 208)) := ((((Below.refl _ _).alloc (Nat.le_refl _) _).alloc (by simp) _).alloc (by simp; omega) _).alloc (by simp; omega) _
  obtain ⟨q0, q1, q2, q3⟩ := four_new w #[.int .i64 dim] #[.int .i64 v] #[.int .i64 bi] #[.int .i64 0, .int .i64 0, .int .i64 0, .int .i64 0, .int .i64 0, .int .i64 0, .int .i64 0, .int .i64 0]
  obtain ⟨W1, hW1⟩ : ∃ W1, W1 = ((((w.alloc (.cells #[.int .i64 dim] 3)).alloc (.cells #[.int .i64 v] 3)).alloc (.cells #[.int .i64 bi] 3)).alloc (.cells #[.int .i64 0, .int .i64 0, .int .i64 0, .int .i64 0, .int .i64 0, .int .i64 0, .int .i64 0, .int .i64 0] 208)) := ⟨_, rfl⟩
  rw [← hW1] at hb1 q0 q1 q2 q3 ⊢
  clear hW1
  have HQ0 := Lib.hid q0
  have HQ1 := Lib.hid q1
  have HQ2 := Lib.hid q2
  have HQ3 := Lib.hid q3
  clear q0 q1 q2 q3
  have MK := Lib.hid fun (W : World) (hW : Below W1.heap.size W1 W) => (⟨RawAt.cell (RawAt.below HQ0.out hW (RawAt.lt HQ0.out)) 0, RawAt.cell (RawAt.below HQ1.out hW (RawAt.lt HQ1.out)) 0, RawAt.cell (RawAt.below HQ2.out hW (RawAt.lt HQ2.out)) 0⟩ : W.cell? ⟨w.heap.size, 0, none⟩ = some (.int .i64 dim) ∧ W.cell? ⟨w.heap.size + 1, 0, none⟩ = some (.int .i64 v) ∧ W.cell? ⟨w.heap.size + 1 + 1, 0, none⟩ = some (.int .i64 bi))
  have hW2 : Below W1.heap.size W1 W1.drew := (Below.refl _ _).drew
  go_wp2_with fail
  refine wp_region_noPanic ?_
  refine wp_region_held_drew (S := (fun W => W.cell? ⟨w.heap.size, 0, none⟩ = some (.int .i64 dim) ∧ W.cell? ⟨w.heap.size + 1, 0, none⟩ = some (.int .i64 v) ∧ W.cell? ⟨w.heap.size + 1 + 1, 0, none⟩ = some (.int .i64 bi))) (by kernel_rfl) (MK.out _ hW2) (fun hHeld => ?_)
  refine wpAnyH_take (i := 0) (v := ?_) rfl (by kernel_rfl) (by kernel_rfl) (by kernel_rfl) (fun _ _ _ h => h) (Or.inl ⟨by rfl, ?_⟩) hHeld ?_
  rotate_left
  · intro w hSw
    (try dsimp only at hSw)
    go_simp
    try with_reducible rfl
  go_simp
  refine wpAnyH_ready (rs := [1]) (by kernel_rfl) (by simp) ?_
  refine AllReadyH.cons rfl (fun K hK => ?_) ?_
  rotate_left
  · exact AllReadyH.nil
  go_simp
  go_wp2_with (first | (go_at_call 155; ((with_reducible refine (CR.out _).mono ?_); rintro e w2 ⟨rfl, hw2⟩); have hw2 := hw2.symm; subst hw2) | (go_at_call 109; ((with_reducible refine (CS.out _ (hb1.trans (hW2.mono hb1.size))).mono ?_); rintro e w3 ⟨rfl, hb3⟩); have hW2 := hW2.trans (hb3.mono hW2.size)) | (go_at_call 156; ((with_reducible refine (CZ.out _).mono ?_); rintro e w4 ⟨rfl, hb4⟩); have hW2 := hW2.trans (hb4.mono hW2.size)))
  refine hK.out _ _ (MK.out _ hW2) (fun hHeld => ?_)
  clear hK K
  go_simp
  refine wpAnyH_take (i := 2) (v := ?_) rfl (by kernel_rfl) (by kernel_rfl) (by kernel_rfl) (fun _ _ _ h => h) (Or.inl ⟨by rfl, ?_⟩) hHeld ?_
  rotate_left
  · intro w hSw
    (try dsimp only at hSw)
    go_simp
    try with_reducible rfl
  go_simp
  refine wpAnyH_take (i := 3) (v := ?_) rfl (by kernel_rfl) (by kernel_rfl) (by kernel_rfl) (fun _ _ _ h => h) (Or.inl ⟨by rfl, ?_⟩) hHeld ?_
  rotate_left
  · intro w hSw
    (try dsimp only at hSw)
    go_simp
    try with_reducible rfl
  go_simp
  refine wpAnyH_take (i := 4) (v := ?_) rfl (by kernel_rfl) (by kernel_rfl) (by kernel_rfl) (fun _ _ _ h => h) (Or.inl ⟨by rfl, ?_⟩) hHeld ?_
  rotate_left
  · intro w hSw
    (try dsimp only at hSw)
    go_simp
    try with_reducible rfl
  go_simp
  refine wpAnyH_take (i := 5) (v := ?_) rfl (by kernel_rfl) (by kernel_rfl) (by kernel_rfl) (fun _ _ _ h => h) (Or.inl ⟨by rfl, ?_⟩) hHeld ?_
  rotate_left
  · intro w hSw
    (try dsimp only at hSw)
    go_simp
    try with_reducible rfl
  go_simp
  refine wpAnyH_take (i := 6) (v := ?_) rfl (by kernel_rfl) (by kernel_rfl) (by kernel_rfl) (fun _ _ _ h => h) (Or.inl ⟨by rfl, ?_⟩) hHeld ?_
  rotate_left
  · intro w hSw
    (try dsimp only at hSw)
    go_simp
    try with_reducible rfl
  go_simp
  refine wpAnyH_take (i := 7) (v := ?_) rfl (by kernel_rfl) (by kernel_rfl) (by kernel_rfl) (fun _ _ _ h => h) (Or.inl ⟨by rfl, ?_⟩) hHeld ?_
  rotate_left
  · intro w hSw
    (try dsimp only at hSw)
    go_simp
    try with_reducible rfl
  go_simp
  refine wpAnyH_take (i := 8) (v := undef) rfl (by kernel_rfl) (by kernel_rfl) (by kernel_rfl) (fun _ _ _ h => h) (Or.inr ⟨by rfl, rfl⟩) hHeld ?_
  go_simp
  refine wpAnyH_take (i := 9) (v := undef) rfl (by kernel_rfl) (by kernel_rfl) (by kernel_rfl) (fun _ _ _ h => h) (Or.inr ⟨by rfl, rfl⟩) hHeld ?_
  go_simp
  refine wpAnyH_take (i := 10) (v := undef) rfl (by kernel_rfl) (by kernel_rfl) (by kernel_rfl) (fun _ _ _ h => h) (Or.inr ⟨by rfl, rfl⟩) hHeld ?_
  go_simp
  refine wpAnyH_take (i := 11) (v := undef) rfl (by kernel_rfl) (by kernel_rfl) (by kernel_rfl) (fun _ _ _ h => h) (Or.inr ⟨by rfl, rfl⟩) hHeld ?_
  go_simp
  refine wpAnyH_take (i := 12) (v := undef) rfl (by kernel_rfl) (by kernel_rfl) (by kernel_rfl) (fun _ _ _ h => h) (Or.inr ⟨by rfl, rfl⟩) hHeld ?_
  go_simp
  refine wpAnyH_take (i := 13) (v := undef) rfl (by kernel_rfl) (by kernel_rfl) (by kernel_rfl) (fun _ _ _ h => h) (Or.inr ⟨by rfl, rfl⟩) hHeld ?_
  go_simp
  refine wpAnyH_take (i := 14) (v := ?_) rfl (by kernel_rfl) (by kernel_rfl) (by kernel_rfl) (fun _ _ _ h => h) (Or.inl ⟨by rfl, ?_⟩) hHeld ?_
  rotate_left
  · intro w hSw
    (try dsimp only at hSw)
    go_simp
    try with_reducible rfl
  go_simp
  refine wpAnyH_take (i := 15) (v := ?_) rfl (by kernel_rfl) (by kernel_rfl) (by kernel_rfl) (fun _ _ _ h => h) (Or.inl ⟨by rfl, ?_⟩) hHeld ?_
  rotate_left
  · intro w hSw
    (try dsimp only at hSw)
    go_simp
    try with_reducible rfl
  go_simp
  refine wpAnyH_take (i := 16) (v := undef) rfl (by kernel_rfl) (by kernel_rfl) (by kernel_rfl) (fun _ _ _ h => h) (Or.inr ⟨by rfl, rfl⟩) hHeld ?_
  go_simp
  refine wpAnyH_take (i := 17) (v := undef) rfl (by kernel_rfl) (by kernel_rfl) (by kernel_rfl) (fun _ _ _ h => h) (Or.inr ⟨by rfl, rfl⟩) hHeld ?_
  go_simp
  refine wpAnyH_take (i := 18) (v := undef) rfl (by kernel_rfl) (by kernel_rfl) (by kernel_rfl) (fun _ _ _ h => h) (Or.inr ⟨by rfl, rfl⟩) hHeld ?_
  go_simp
  refine wpAnyH_take (i := 19) (v := undef) rfl (by kernel_rfl) (by kernel_rfl) (by kernel_rfl) (fun _ _ _ h => h) (Or.inr ⟨by rfl, rfl⟩) hHeld ?_
  go_simp
  refine wpAnyH_take (i := 20) (v := undef) rfl (by kernel_rfl) (by kernel_rfl) (by kernel_rfl) (fun _ _ _ h => h) (Or.inr ⟨by rfl, rfl⟩) hHeld ?_
  go_simp
  refine wpAnyH_take (i := 21) (v := undef) rfl (by kernel_rfl) (by kernel_rfl) (by kernel_rfl) (fun _ _ _ h => h) (Or.inr ⟨by rfl, rfl⟩) hHeld ?_
  go_simp
  refine wpAnyH_take (i := 22) (v := ?_) rfl (by kernel_rfl) (by kernel_rfl) (by kernel_rfl) (fun _ _ _ h => h) (Or.inl ⟨by rfl, ?_⟩) hHeld ?_
  rotate_left
  · intro w hSw
    (try dsimp only at hSw)
    go_simp
    try with_reducible rfl
  go_simp
  refine wpAnyH_done (by kernel_rfl) ?_ _
  refine NoPanic.normal ?_
  have r2 := HQ3.out.below hW2 HQ3.out.lt
  have af := hb1.trans (hW2.mono hb1.size)
  have f0 := r2.free 0
  have f1 := r2.free 1
  have f2 := r2.free 2
  have f3 := r2.free 3
  have f4 := r2.free 4
  have f5 := r2.free 5
  have f6 := r2.free 6
  have f7 := r2.free 7
  obtain ⟨c0, c1, c2, c3, c4, c5, c6, c7⟩ := raw_eight r2
  clear r2
  obtain ⟨k0, k1, k2, k3, k4, k5, k6, k7⟩ := raw_eight HQ3.out
  have j0 := HQ3.out.free 0
  have j1 := HQ3.out.free 1
  have j2 := HQ3.out.free 2
  have j3 := HQ3.out.free 3
  have j4 := HQ3.out.free 4
  have j5 := HQ3.out.free 5
  have j6 := HQ3.out.free 6
  have j7 := HQ3.out.free 7
  go_wp2
  refine bodyPost_ret (v := .tuple #[.agg #[.int .i64 0, .int .i64 0, .int .i64 0, .int .i64 0, .int .i64 0, .int .i64 0, .int .i64 0, .int .i64 0], .int .i64 1]) (by simp [results, Tryz.results130, go_sem, k0, k1, k2, k3, k4, k5, k6, k7]) rfl ⟨rfl, ?_⟩
  (repeat' (first | (with_reducible exact af) | (with_reducible exact hb1) | (with_reducible refine Below.setCell ?_ ?_ _) | (with_reducible refine Below.drew ?_))) <;> first | exact Nat.le_refl _ | (simp; done) | (simp; omega)
set_option linter.unusedVariables false in
set_option maxHeartbeats 8000000 in
set_option maxRecDepth 100000 in
theorem tfind_b3 (p : Option Addr) (l : List I7) (h : Nat) (dim v bi : Int) (w : World) (ht : TP w p l h) (hd : 0 ≤ dim ∧ dim < 4) (hv : 0 ≤ v) (hs : sdim l dim.toNat < v) :
    Calls Tryz.prog 130 #[.pointer p, .int .i64 dim, .int .i64 v, .int .i64 bi] w fun e w' => e = .returned (.tuple #[.agg (vcs 0 s0 0), .int .i64 1]) ∧ Below w.heap.size w w' := by
  have hmf : ∀ (fn : Fn) (first cap : Array Value) (w : World), (Instr.makeFunc fn first cap).run Tryz.prog w = .ok (.func fn first cap) w := fun _ _ _ _ => rfl
  have CS : Hid (∀ W : World, Below w.heap.size w W → Calls Tryz.prog 109 #[.pointer p] W fun e w' => e = .returned (.agg #[.int .i64 (sall l).n, .int .i64 (sall l).d0, .int .i64 (sall l).d1, .int .i64 (sall l).d2, .int .i64 (sall l).mx, .int .i64 (sall l).pl]) ∧ Below W.heap.size W w') := fun W hW => tsum_any p l h W (ht.below hW)
  have ho := ht.okl.1
  have CR := Lib.hid fun (W : World) => rightd_any dim W true ⟨fun _ => hd, fun _ => rfl⟩
  have CZ : Hid (∀ W : World, Calls Tryz.prog 156 #[.agg #[.int .i64 (sall l).n, .int .i64 (sall l).d0, .int .i64 (sall l).d1, .int .i64 (sall l).d2, .int .i64 (sall l).mx, .int .i64 (sall l).pl], .int .i64 dim] W fun e w' => e = .returned (.int .i64 (sdim l dim.toNat)) ∧ Below W.heap.size W w') := fun W => by
    have := tsize_any (sall l) dim.toNat W (by omega)
    rw [ssz_sdim l ho, Int.toNat_of_nonneg hd.1] at this
    exact this
  generalize hE : sdim l dim.toNat = E at *
  clear ht ho
  have q1 : decide (v < 0) = false := decide_eq_false (by omega)
  have q2 : decide (E < v) = true := decide_eq_true hs
  go_enter Tryz.func130, Tryz.ntmps130
  go_wp2
  have hb1 : Below w.heap.size w ((((w.alloc (.cells #[.int .i64 dim] 3)).alloc (.cells #[.int .i64 v] 3)).alloc (.cells #[.int .i64 bi] 3)).alloc (.cells #[.int .i64 0, .int .i64 0, .int .i64 0, .int .i64 0, .int .i64 0, .int .i64 0, .int .i64 0, .int .i64 0] 208)) := ((((Below.refl _ _).alloc (Nat.le_refl _) _).alloc (by simp) _).alloc (by simp; omega) _).alloc (by simp; omega) _
  obtain ⟨q0, q1, q2, q3⟩ := four_new w #[.int .i64 dim] #[.int .i64 v] #[.int .i64 bi] #[.int .i64 0, .int .i64 0, .int .i64 0, .int .i64 0, .int .i64 0, .int .i64 0, .int .i64 0, .int .i64 0]
  obtain ⟨W1, hW1⟩ : ∃ W1, W1 = ((((w.alloc (.cells #[.int .i64 dim] 3)).alloc (.cells #[.int .i64 v] 3)).alloc (.cells #[.int .i64 bi] 3)).alloc (.cells #[.int .i64 0, .int .i64 0, .int .i64 0, .int .i64 0, .int .i64 0, .int .i64 0, .int .i64 0, .int .i64 0] 208)) := ⟨_, rfl⟩
  rw [← hW1] at hb1 q0 q1 q2 q3 ⊢
  clear hW1
  have HQ0 := Lib.hid q0
  have HQ1 := Lib.hid q1
  have HQ2 := Lib.hid q2
  have HQ3 := Lib.hid q3
  clear q0 q1 q2 q3
  have MK := Lib.hid fun (W : World) (hW : Below W1.heap.size W1 W) => (⟨RawAt.cell (RawAt.below HQ0.out hW (RawAt.lt HQ0.out)) 0, RawAt.cell (RawAt.below HQ1.out hW (RawAt.lt HQ1.out)) 0, RawAt.cell (RawAt.below HQ2.out hW (RawAt.lt HQ2.out)) 0⟩ : W.cell? ⟨w.heap.size, 0, none⟩ = some (.int .i64 dim) ∧ W.cell? ⟨w.heap.size + 1, 0, none⟩ = some (.int .i64 v) ∧ W.cell? ⟨w.heap.size + 1 + 1, 0, none⟩ = some (.int .i64 bi))
  have hW2 : Below W1.heap.size W1 W1.drew := (Below.refl _ _).drew
  go_wp2_with fail
  refine wp_region_noPanic ?_
  refine wp_region_held_drew (S := (fun W => W.cell? ⟨w.heap.size, 0, none⟩ = some (.int .i64 dim) ∧ W.cell? ⟨w.heap.size + 1, 0, none⟩ = some (.int .i64 v) ∧ W.cell? ⟨w.heap.size + 1 + 1, 0, none⟩ = some (.int .i64 bi))) (by kernel_rfl) (MK.out _ hW2) (fun hHeld => ?_)
  refine wpAnyH_take (i := 0) (v := ?_) rfl (by kernel_rfl) (by kernel_rfl) (by kernel_rfl) (fun _ _ _ h => h) (Or.inl ⟨by rfl, ?_⟩) hHeld ?_
  rotate_left
  · intro w hSw
    (try dsimp only at hSw)
    go_simp
    try with_reducible rfl
  go_simp
  refine wpAnyH_ready (rs := [1]) (by kernel_rfl) (by simp) ?_
  refine AllReadyH.cons rfl (fun K hK => ?_) ?_
  rotate_left
  · exact AllReadyH.nil
  go_simp
  go_wp2_with (first | (go_at_call 155; ((with_reducible refine (CR.out _).mono ?_); rintro e w2 ⟨rfl, hw2⟩); have hw2 := hw2.symm; subst hw2) | (go_at_call 109; ((with_reducible refine (CS.out _ (hb1.trans (hW2.mono hb1.size))).mono ?_); rintro e w3 ⟨rfl, hb3⟩); have hW2 := hW2.trans (hb3.mono hW2.size)) | (go_at_call 156; ((with_reducible refine (CZ.out _).mono ?_); rintro e w4 ⟨rfl, hb4⟩); have hW2 := hW2.trans (hb4.mono hW2.size)))
  refine hK.out _ _ (MK.out _ hW2) (fun hHeld => ?_)
  clear hK K
  go_simp
  refine wpAnyH_take (i := 2) (v := ?_) rfl (by kernel_rfl) (by kernel_rfl) (by kernel_rfl) (fun _ _ _ h => h) (Or.inl ⟨by rfl, ?_⟩) hHeld ?_
  rotate_left
  · intro w hSw
    (try dsimp only at hSw)
    go_simp
    try with_reducible rfl
  go_simp
  refine wpAnyH_take (i := 3) (v := ?_) rfl (by kernel_rfl) (by kernel_rfl) (by kernel_rfl) (fun _ _ _ h => h) (Or.inl ⟨by rfl, ?_⟩) hHeld ?_
  rotate_left
  · intro w hSw
    (try dsimp only at hSw)
    go_simp
    try with_reducible rfl
  go_simp
  refine wpAnyH_take (i := 4) (v := ?_) rfl (by kernel_rfl) (by kernel_rfl) (by kernel_rfl) (fun _ _ _ h => h) (Or.inl ⟨by rfl, ?_⟩) hHeld ?_
  rotate_left
  · intro w hSw
    (try dsimp only at hSw)
    go_simp
    try with_reducible rfl
  go_simp
  refine wpAnyH_take (i := 5) (v := ?_) rfl (by kernel_rfl) (by kernel_rfl) (by kernel_rfl) (fun _ _ _ h => h) (Or.inl ⟨by rfl, ?_⟩) hHeld ?_
  rotate_left
  · intro w hSw
    (try dsimp only at hSw)
    go_simp
    try with_reducible rfl
  go_simp
  refine wpAnyH_take (i := 6) (v := ?_) rfl (by kernel_rfl) (by kernel_rfl) (by kernel_rfl) (fun _ _ _ h => h) (Or.inl ⟨by rfl, ?_⟩) hHeld ?_
  rotate_left
  · intro w hSw
    (try dsimp only at hSw)
    go_simp
    try with_reducible rfl
  go_simp
  refine wpAnyH_take (i := 7) (v := ?_) rfl (by kernel_rfl) (by kernel_rfl) (by kernel_rfl) (fun _ _ _ h => h) (Or.inl ⟨by rfl, ?_⟩) hHeld ?_
  rotate_left
  · intro w hSw
    (try dsimp only at hSw)
    go_simp
    try with_reducible rfl
  go_simp
  refine wpAnyH_take (i := 8) (v := ?_) rfl (by kernel_rfl) (by kernel_rfl) (by kernel_rfl) (fun _ _ _ h => h) (Or.inl ⟨by rfl, ?_⟩) hHeld ?_
  rotate_left
  · intro w hSw
    (try dsimp only at hSw)
    go_simp
    try with_reducible rfl
  go_simp
  refine wpAnyH_take (i := 9) (v := ?_) rfl (by kernel_rfl) (by kernel_rfl) (by kernel_rfl) (fun _ _ _ h => h) (Or.inl ⟨by rfl, ?_⟩) hHeld ?_
  rotate_left
  · intro w hSw
    (try dsimp only at hSw)
    go_simp
    try with_reducible rfl
  go_simp
  refine wpAnyH_take (i := 11) (v := ?_) rfl (by kernel_rfl) (by kernel_rfl) (by kernel_rfl) (fun _ _ _ h => h) (Or.inl ⟨by rfl, ?_⟩) hHeld ?_
  rotate_left
  · intro w hSw
    (try dsimp only at hSw)
    go_simp
    try with_reducible rfl
  go_simp
  refine wpAnyH_ready (rs := [10]) (by kernel_rfl) (by simp) ?_
  refine AllReadyH.cons rfl (fun K hK => ?_) ?_
  rotate_left
  · exact AllReadyH.nil
  go_simp
  go_wp2_with (first | (go_at_call 155; ((with_reducible refine (CR.out _).mono ?_); rintro e w2 ⟨rfl, hw2⟩); have hw2 := hw2.symm; subst hw2) | (go_at_call 109; ((with_reducible refine (CS.out _ (hb1.trans (hW2.mono hb1.size))).mono ?_); rintro e w3 ⟨rfl, hb3⟩); have hW2 := hW2.trans (hb3.mono hW2.size)) | (go_at_call 156; ((with_reducible refine (CZ.out _).mono ?_); rintro e w4 ⟨rfl, hb4⟩); have hW2 := hW2.trans (hb4.mono hW2.size)))
  refine hK.out _ _ (MK.out _ hW2) (fun hHeld => ?_)
  clear hK K
  go_simp
  refine wpAnyH_ready (rs := [12]) (by kernel_rfl) (by simp) ?_
  refine AllReadyH.cons rfl (fun K hK => ?_) ?_
  rotate_left
  · exact AllReadyH.nil
  go_simp
  go_wp2_with (first | (go_at_call 155; ((with_reducible refine (CR.out _).mono ?_); rintro e w2 ⟨rfl, hw2⟩); have hw2 := hw2.symm; subst hw2) | (go_at_call 109; ((with_reducible refine (CS.out _ (hb1.trans (hW2.mono hb1.size))).mono ?_); rintro e w3 ⟨rfl, hb3⟩); have hW2 := hW2.trans (hb3.mono hW2.size)) | (go_at_call 156; ((with_reducible refine (CZ.out _).mono ?_); rintro e w4 ⟨rfl, hb4⟩); have hW2 := hW2.trans (hb4.mono hW2.size)))
  refine hK.out _ _ (MK.out _ hW2) (fun hHeld => ?_)
  clear hK K
  go_simp
  refine wpAnyH_take (i := 13) (v := ?_) rfl (by kernel_rfl) (by kernel_rfl) (by kernel_rfl) (fun _ _ _ h => h) (Or.inl ⟨by rfl, ?_⟩) hHeld ?_
  rotate_left
  · intro w hSw
    (try dsimp only at hSw)
    go_simp
    try with_reducible rfl
  go_simp
  refine wpAnyH_take (i := 14) (v := ?_) rfl (by kernel_rfl) (by kernel_rfl) (by kernel_rfl) (fun _ _ _ h => h) (Or.inl ⟨by rfl, ?_⟩) hHeld ?_
  rotate_left
  · intro w hSw
    (try dsimp only at hSw)
    go_simp
    try with_reducible rfl
  go_simp
  refine wpAnyH_take (i := 15) (v := ?_) rfl (by kernel_rfl) (by kernel_rfl) (by kernel_rfl) (fun _ _ _ h => h) (Or.inl ⟨by rfl, ?_⟩) hHeld ?_
  rotate_left
  · intro w hSw
    (try dsimp only at hSw)
    go_simp
    try with_reducible rfl
  go_simp
  refine wpAnyH_take (i := 16) (v := undef) rfl (by kernel_rfl) (by kernel_rfl) (by kernel_rfl) (fun _ _ _ h => h) (Or.inr ⟨by rfl, rfl⟩) hHeld ?_
  go_simp
  refine wpAnyH_take (i := 17) (v := undef) rfl (by kernel_rfl) (by kernel_rfl) (by kernel_rfl) (fun _ _ _ h => h) (Or.inr ⟨by rfl, rfl⟩) hHeld ?_
  go_simp
  refine wpAnyH_take (i := 18) (v := undef) rfl (by kernel_rfl) (by kernel_rfl) (by kernel_rfl) (fun _ _ _ h => h) (Or.inr ⟨by rfl, rfl⟩) hHeld ?_
  go_simp
  refine wpAnyH_take (i := 19) (v := undef) rfl (by kernel_rfl) (by kernel_rfl) (by kernel_rfl) (fun _ _ _ h => h) (Or.inr ⟨by rfl, rfl⟩) hHeld ?_
  go_simp
  refine wpAnyH_take (i := 20) (v := undef) rfl (by kernel_rfl) (by kernel_rfl) (by kernel_rfl) (fun _ _ _ h => h) (Or.inr ⟨by rfl, rfl⟩) hHeld ?_
  go_simp
  refine wpAnyH_take (i := 21) (v := undef) rfl (by kernel_rfl) (by kernel_rfl) (by kernel_rfl) (fun _ _ _ h => h) (Or.inr ⟨by rfl, rfl⟩) hHeld ?_
  go_simp
  refine wpAnyH_take (i := 22) (v := ?_) rfl (by kernel_rfl) (by kernel_rfl) (by kernel_rfl) (fun _ _ _ h => h) (Or.inl ⟨by rfl, ?_⟩) hHeld ?_
  rotate_left
  · intro w hSw
    (try dsimp only at hSw)
    go_simp
    try with_reducible rfl
  go_simp
  refine wpAnyH_done (by kernel_rfl) ?_ _
  refine NoPanic.normal ?_
  have r2 := HQ3.out.below hW2 HQ3.out.lt
  have af := hb1.trans (hW2.mono hb1.size)
  have f0 := r2.free 0
  have f1 := r2.free 1
  have f2 := r2.free 2
  have f3 := r2.free 3
  have f4 := r2.free 4
  have f5 := r2.free 5
  have f6 := r2.free 6
  have f7 := r2.free 7
  obtain ⟨c0, c1, c2, c3, c4, c5, c6, c7⟩ := raw_eight r2
  clear r2
  obtain ⟨k0, k1, k2, k3, k4, k5, k6, k7⟩ := raw_eight HQ3.out
  have j0 := HQ3.out.free 0
  have j1 := HQ3.out.free 1
  have j2 := HQ3.out.free 2
  have j3 := HQ3.out.free 3
  have j4 := HQ3.out.free 4
  have j5 := HQ3.out.free 5
  have j6 := HQ3.out.free 6
  have j7 := HQ3.out.free 7
  go_wp2
  refine bodyPost_ret (v := .tuple #[.agg #[.int .i64 0, .int .i64 0, .int .i64 0, .int .i64 0, .int .i64 0, .int .i64 0, .int .i64 0, .int .i64 0], .int .i64 1]) (by simp [results, Tryz.results130, go_sem, c0, c1, c2, c3, c4, c5, c6, c7]) rfl ⟨rfl, ?_⟩
  (repeat' (first | (with_reducible exact af) | (with_reducible exact hb1) | (with_reducible refine Below.setCell ?_ ?_ _) | (with_reducible refine Below.drew ?_))) <;> first | exact Nat.le_refl _ | (simp; done) | (simp; omega)
set_option linter.unusedVariables false in
set_option maxHeartbeats 8000000 in
set_option maxRecDepth 100000 in
theorem tfind_b4 (p : Option Addr) (l : List I7) (h : Nat) (dim v bi : Int) (w : World) (ht : TP w p l h) (hd : 0 ≤ dim ∧ dim < 4) (hv : 0 ≤ v) (hs : v ≤ sdim l dim.toNat) (hb0 : bi ≠ 0) (hb1_ : bi ≠ 1) :
    Calls Tryz.prog 130 #[.pointer p, .int .i64 dim, .int .i64 v, .int .i64 bi] w fun e w' => e = .returned (.tuple #[.agg (vcs 0 s0 0), .int .i64 1]) ∧ Below w.heap.size w w' := by
  have hmf : ∀ (fn : Fn) (first cap : Array Value) (w : World), (Instr.makeFunc fn first cap).run Tryz.prog w = .ok (.func fn first cap) w := fun _ _ _ _ => rfl
  have CS : Hid (∀ W : World, Below w.heap.size w W → Calls Tryz.prog 109 #[.pointer p] W fun e w' => e = .returned (.agg #[.int .i64 (sall l).n, .int .i64 (sall l).d0, .int .i64 (sall l).d1, .int .i64 (sall l).d2, .int .i64 (sall l).mx, .int .i64 (sall l).pl]) ∧ Below W.heap.size W w') := fun W hW => tsum_any p l h W (ht.below hW)
  have ho := ht.okl.1
  have CR := Lib.hid fun (W : World) => rightd_any dim W true ⟨fun _ => hd, fun _ => rfl⟩
  have CZ : Hid (∀ W : World, Calls Tryz.prog 156 #[.agg #[.int .i64 (sall l).n, .int .i64 (sall l).d0, .int .i64 (sall l).d1, .int .i64 (sall l).d2, .int .i64 (sall l).mx, .int .i64 (sall l).pl], .int .i64 dim] W fun e w' => e = .returned (.int .i64 (sdim l dim.toNat)) ∧ Below W.heap.size W w') := fun W => by
    have := tsize_any (sall l) dim.toNat W (by omega)
    rw [ssz_sdim l ho, Int.toNat_of_nonneg hd.1] at this
    exact this
  generalize hE : sdim l dim.toNat = E at *
  clear ht ho
  have q1 : decide (v < 0) = false := decide_eq_false (by omega)
  have q2 : decide (E < v) = false := decide_eq_false (by omega)
  have q3 : (bi == 0) = false := by simp [hb0]
  have q4 : (bi == 1) = false := by simp [hb1_]
  have q5 : (bi != 0) = true := by simp [hb0]
  have q6 : (bi != 1) = true := by simp [hb1_]
  go_enter Tryz.func130, Tryz.ntmps130
  go_wp2
  have hb1 : Below w.heap.size w ((((w.alloc (.cells #[.int .i64 dim] 3)).alloc (.cells #[.int .i64 v] 3)).alloc (.cells #[.int .i64 bi] 3)).alloc (.cells #[.int .i64 0, .int .i64 0, .int .i64 0, .int .i64 0, .int .i64 0, .int .i64 0, .int .i64 0, .int .i64 0] 208)) := ((((Below.refl _ _).alloc (Nat.le_refl _) _).alloc (by simp) _).alloc (by simp; omega) _).alloc (by simp; omega) _
  obtain ⟨q0, q1, q2, q3⟩ := four_new w #[.int .i64 dim] #[.int .i64 v] #[.int .i64 bi] #[.int .i64 0, .int .i64 0, .int .i64 0, .int .i64 0, .int .i64 0, .int .i64 0, .int .i64 0, .int .i64 0]
  obtain ⟨W1, hW1⟩ : ∃ W1, W1 = ((((w.alloc (.cells #[.int .i64 dim] 3)).alloc (.cells #[.int .i64 v] 3)).alloc (.cells #[.int .i64 bi] 3)).alloc (.cells #[.int .i64 0, .int .i64 0, .int .i64 0, .int .i64 0, .int .i64 0, .int .i64 0, .int .i64 0, .int .i64 0] 208)) := ⟨_, rfl⟩
  rw [← hW1] at hb1 q0 q1 q2 q3 ⊢
  clear hW1
  have HQ0 := Lib.hid q0
  have HQ1 := Lib.hid q1
  have HQ2 := Lib.hid q2
  have HQ3 := Lib.hid q3
  clear q0 q1 q2 q3
  have MK := Lib.hid fun (W : World) (hW : Below W1.heap.size W1 W) => (⟨RawAt.cell (RawAt.below HQ0.out hW (RawAt.lt HQ0.out)) 0, RawAt.cell (RawAt.below HQ1.out hW (RawAt.lt HQ1.out)) 0, RawAt.cell (RawAt.below HQ2.out hW (RawAt.lt HQ2.out)) 0⟩ : W.cell? ⟨w.heap.size, 0, none⟩ = some (.int .i64 dim) ∧ W.cell? ⟨w.heap.size + 1, 0, none⟩ = some (.int .i64 v) ∧ W.cell? ⟨w.heap.size + 1 + 1, 0, none⟩ = some (.int .i64 bi))
  have hW2 : Below W1.heap.size W1 W1.drew := (Below.refl _ _).drew
  go_wp2_with fail
  refine wp_region_noPanic ?_
  refine wp_region_held_drew (S := (fun W => W.cell? ⟨w.heap.size, 0, none⟩ = some (.int .i64 dim) ∧ W.cell? ⟨w.heap.size + 1, 0, none⟩ = some (.int .i64 v) ∧ W.cell? ⟨w.heap.size + 1 + 1, 0, none⟩ = some (.int .i64 bi))) (by kernel_rfl) (MK.out _ hW2) (fun hHeld => ?_)
  refine wpAnyH_take (i := 0) (v := ?_) rfl (by kernel_rfl) (by kernel_rfl) (by kernel_rfl) (fun _ _ _ h => h) (Or.inl ⟨by rfl, ?_⟩) hHeld ?_
  rotate_left
  · intro w hSw
    (try dsimp only at hSw)
    go_simp
    try with_reducible rfl
  go_simp
  refine wpAnyH_ready (rs := [1]) (by kernel_rfl) (by simp) ?_
  refine AllReadyH.cons rfl (fun K hK => ?_) ?_
  rotate_left
  · exact AllReadyH.nil
  go_simp
  go_wp2_with (first | (go_at_call 155; ((with_reducible refine (CR.out _).mono ?_); rintro e w2 ⟨rfl, hw2⟩); have hw2 := hw2.symm; subst hw2) | (go_at_call 109; ((with_reducible refine (CS.out _ (hb1.trans (hW2.mono hb1.size))).mono ?_); rintro e w3 ⟨rfl, hb3⟩); have hW2 := hW2.trans (hb3.mono hW2.size)) | (go_at_call 156; ((with_reducible refine (CZ.out _).mono ?_); rintro e w4 ⟨rfl, hb4⟩); have hW2 := hW2.trans (hb4.mono hW2.size)))
  refine hK.out _ _ (MK.out _ hW2) (fun hHeld => ?_)
  clear hK K
  go_simp
  refine wpAnyH_take (i := 2) (v := ?_) rfl (by kernel_rfl) (by kernel_rfl) (by kernel_rfl) (fun _ _ _ h => h) (Or.inl ⟨by rfl, ?_⟩) hHeld ?_
  rotate_left
  · intro w hSw
    (try dsimp only at hSw)
    go_simp
    try with_reducible rfl
  go_simp
  refine wpAnyH_take (i := 3) (v := ?_) rfl (by kernel_rfl) (by kernel_rfl) (by kernel_rfl) (fun _ _ _ h => h) (Or.inl ⟨by rfl, ?_⟩) hHeld ?_
  rotate_left
  · intro w hSw
    (try dsimp only at hSw)
    go_simp
    try with_reducible rfl
  go_simp
  refine wpAnyH_take (i := 4) (v := ?_) rfl (by kernel_rfl) (by kernel_rfl) (by kernel_rfl) (fun _ _ _ h => h) (Or.inl ⟨by rfl, ?_⟩) hHeld ?_
  rotate_left
  · intro w hSw
    (try dsimp only at hSw)
    go_simp
    try with_reducible rfl
  go_simp
  refine wpAnyH_take (i := 5) (v := ?_) rfl (by kernel_rfl) (by kernel_rfl) (by kernel_rfl) (fun _ _ _ h => h) (Or.inl ⟨by rfl, ?_⟩) hHeld ?_
  rotate_left
  · intro w hSw
    (try dsimp only at hSw)
    go_simp
    try with_reducible rfl
  go_simp
  refine wpAnyH_take (i := 6) (v := ?_) rfl (by kernel_rfl) (by kernel_rfl) (by kernel_rfl) (fun _ _ _ h => h) (Or.inl ⟨by rfl, ?_⟩) hHeld ?_
  rotate_left
  · intro w hSw
    (try dsimp only at hSw)
    go_simp
    try with_reducible rfl
  go_simp
  refine wpAnyH_take (i := 7) (v := ?_) rfl (by kernel_rfl) (by kernel_rfl) (by kernel_rfl) (fun _ _ _ h => h) (Or.inl ⟨by rfl, ?_⟩) hHeld ?_
  rotate_left
  · intro w hSw
    (try dsimp only at hSw)
    go_simp
    try with_reducible rfl
  go_simp
  refine wpAnyH_take (i := 8) (v := ?_) rfl (by kernel_rfl) (by kernel_rfl) (by kernel_rfl) (fun _ _ _ h => h) (Or.inl ⟨by rfl, ?_⟩) hHeld ?_
  rotate_left
  · intro w hSw
    (try dsimp only at hSw)
    go_simp
    try with_reducible rfl
  go_simp
  refine wpAnyH_take (i := 9) (v := ?_) rfl (by kernel_rfl) (by kernel_rfl) (by kernel_rfl) (fun _ _ _ h => h) (Or.inl ⟨by rfl, ?_⟩) hHeld ?_
  rotate_left
  · intro w hSw
    (try dsimp only at hSw)
    go_simp
    try with_reducible rfl
  go_simp
  refine wpAnyH_take (i := 11) (v := ?_) rfl (by kernel_rfl) (by kernel_rfl) (by kernel_rfl) (fun _ _ _ h => h) (Or.inl ⟨by rfl, ?_⟩) hHeld ?_
  rotate_left
  · intro w hSw
    (try dsimp only at hSw)
    go_simp
    try with_reducible rfl
  go_simp
  refine wpAnyH_ready (rs := [10]) (by kernel_rfl) (by simp) ?_
  refine AllReadyH.cons rfl (fun K hK => ?_) ?_
  rotate_left
  · exact AllReadyH.nil
  go_simp
  go_wp2_with (first | (go_at_call 155; ((with_reducible refine (CR.out _).mono ?_); rintro e w2 ⟨rfl, hw2⟩); have hw2 := hw2.symm; subst hw2) | (go_at_call 109; ((with_reducible refine (CS.out _ (hb1.trans (hW2.mono hb1.size))).mono ?_); rintro e w3 ⟨rfl, hb3⟩); have hW2 := hW2.trans (hb3.mono hW2.size)) | (go_at_call 156; ((with_reducible refine (CZ.out _).mono ?_); rintro e w4 ⟨rfl, hb4⟩); have hW2 := hW2.trans (hb4.mono hW2.size)))
  refine hK.out _ _ (MK.out _ hW2) (fun hHeld => ?_)
  clear hK K
  go_simp
  refine wpAnyH_ready (rs := [12]) (by kernel_rfl) (by simp) ?_
  refine AllReadyH.cons rfl (fun K hK => ?_) ?_
  rotate_left
  · exact AllReadyH.nil
  go_simp
  go_wp2_with (first | (go_at_call 155; ((with_reducible refine (CR.out _).mono ?_); rintro e w2 ⟨rfl, hw2⟩); have hw2 := hw2.symm; subst hw2) | (go_at_call 109; ((with_reducible refine (CS.out _ (hb1.trans (hW2.mono hb1.size))).mono ?_); rintro e w3 ⟨rfl, hb3⟩); have hW2 := hW2.trans (hb3.mono hW2.size)) | (go_at_call 156; ((with_reducible refine (CZ.out _).mono ?_); rintro e w4 ⟨rfl, hb4⟩); have hW2 := hW2.trans (hb4.mono hW2.size)))
  refine hK.out _ _ (MK.out _ hW2) (fun hHeld => ?_)
  clear hK K
  go_simp
  refine wpAnyH_take (i := 13) (v := ?_) rfl (by kernel_rfl) (by kernel_rfl) (by kernel_rfl) (fun _ _ _ h => h) (Or.inl ⟨by rfl, ?_⟩) hHeld ?_
  rotate_left
  · intro w hSw
    (try dsimp only at hSw)
    go_simp
    try with_reducible rfl
  go_simp
  refine wpAnyH_take (i := 14) (v := ?_) rfl (by kernel_rfl) (by kernel_rfl) (by kernel_rfl) (fun _ _ _ h => h) (Or.inl ⟨by rfl, ?_⟩) hHeld ?_
  rotate_left
  · intro w hSw
    (try dsimp only at hSw)
    go_simp
    try with_reducible rfl
  go_simp
  refine wpAnyH_take (i := 15) (v := ?_) rfl (by kernel_rfl) (by kernel_rfl) (by kernel_rfl) (fun _ _ _ h => h) (Or.inl ⟨by rfl, ?_⟩) hHeld ?_
  rotate_left
  · intro w hSw
    (try dsimp only at hSw)
    go_simp
    try with_reducible rfl
  go_simp
  refine wpAnyH_take (i := 16) (v := ?_) rfl (by kernel_rfl) (by kernel_rfl) (by kernel_rfl) (fun _ _ _ h => h) (Or.inl ⟨by rfl, ?_⟩) hHeld ?_
  rotate_left
  · intro w hSw
    (try dsimp only at hSw)
    go_simp
    try with_reducible rfl
  go_simp
  refine wpAnyH_take (i := 17) (v := ?_) rfl (by kernel_rfl) (by kernel_rfl) (by kernel_rfl) (fun _ _ _ h => h) (Or.inl ⟨by rfl, ?_⟩) hHeld ?_
  rotate_left
  · intro w hSw
    (try dsimp only at hSw)
    go_simp
    try with_reducible rfl
  go_simp
  refine wpAnyH_take (i := 18) (v := ?_) rfl (by kernel_rfl) (by kernel_rfl) (by kernel_rfl) (fun _ _ _ h => h) (Or.inl ⟨by rfl, ?_⟩) hHeld ?_
  rotate_left
  · intro w hSw
    (try dsimp only at hSw)
    go_simp
    try with_reducible rfl
  go_simp
  refine wpAnyH_take (i := 19) (v := ?_) rfl (by kernel_rfl) (by kernel_rfl) (by kernel_rfl) (fun _ _ _ h => h) (Or.inl ⟨by rfl, ?_⟩) hHeld ?_
  rotate_left
  · intro w hSw
    (try dsimp only at hSw)
    go_simp
    try with_reducible rfl
  go_simp
  refine wpAnyH_take (i := 20) (v := ?_) rfl (by kernel_rfl) (by kernel_rfl) (by kernel_rfl) (fun _ _ _ h => h) (Or.inl ⟨by rfl, ?_⟩) hHeld ?_
  rotate_left
  · intro w hSw
    (try dsimp only at hSw)
    go_simp
    try with_reducible rfl
  go_simp
  refine wpAnyH_take (i := 21) (v := ?_) rfl (by kernel_rfl) (by kernel_rfl) (by kernel_rfl) (fun _ _ _ h => h) (Or.inl ⟨by rfl, ?_⟩) hHeld ?_
  rotate_left
  · intro w hSw
    (try dsimp only at hSw)
    go_simp
    try with_reducible rfl
  go_simp
  refine wpAnyH_take (i := 22) (v := ?_) rfl (by kernel_rfl) (by kernel_rfl) (by kernel_rfl) (fun _ _ _ h => h) (Or.inl ⟨by rfl, ?_⟩) hHeld ?_
  rotate_left
  · intro w hSw
    (try dsimp only at hSw)
    go_simp
    try with_reducible rfl
  go_simp
  refine wpAnyH_done (by kernel_rfl) ?_ _
  refine NoPanic.normal ?_
  have r2 := HQ3.out.below hW2 HQ3.out.lt
  have af := hb1.trans (hW2.mono hb1.size)
  have f0 := r2.free 0
  have f1 := r2.free 1
  have f2 := r2.free 2
  have f3 := r2.free 3
  have f4 := r2.free 4
  have f5 := r2.free 5
  have f6 := r2.free 6
  have f7 := r2.free 7
  obtain ⟨c0, c1, c2, c3, c4, c5, c6, c7⟩ := raw_eight r2
  clear r2
  obtain ⟨k0, k1, k2, k3, k4, k5, k6, k7⟩ := raw_eight HQ3.out
  have j0 := HQ3.out.free 0
  have j1 := HQ3.out.free 1
  have j2 := HQ3.out.free 2
  have j3 := HQ3.out.free 3
  have j4 := HQ3.out.free 4
  have j5 := HQ3.out.free 5
  have j6 := HQ3.out.free 6
  have j7 := HQ3.out.free 7
  go_wp2
  refine bodyPost_ret (v := .tuple #[.agg #[.int .i64 0, .int .i64 0, .int .i64 0, .int .i64 0, .int .i64 0, .int .i64 0, .int .i64 0, .int .i64 0], .int .i64 1]) (by simp [results, Tryz.results130, go_sem, c0, c1, c2, c3, c4, c5, c6, c7]) rfl ⟨rfl, ?_⟩
  (repeat' (first | (with_reducible exact af) | (with_reducible exact hb1) | (with_reducible refine Below.setCell ?_ ?_ _) | (with_reducible refine Below.drew ?_))) <;> first | exact Nat.le_refl _ | (simp; done) | (simp; omega)
set_option maxHeartbeats 8000000 in
set_option maxRecDepth 100000 in
theorem tfind_ok0 (p : Option Addr) (l : List I7) (h : Nat) (dim v : Int) (w : World) (ht : TP w p l h) (hd : 0 ≤ dim ∧ dim < 4) (hv : 0 ≤ v) (hs : v ≤ sdim l dim.toNat) :
    Calls Tryz.prog 130 #[.pointer p, .int .i64 dim, .int .i64 v, .int .i64 0] w fun e w' => ∃ (k : Nat) (z : Int), FindIs l dim.toNat v 0 k ∧ 0 ≤ z ∧ z ≤ h ∧ e = .returned (.tuple #[.agg (vcs k (sall (l.take k)) z), .int .i64 0]) ∧ Below w.heap.size w w' := by
  have hmf : ∀ (fn : Fn) (first cap : Array Value) (w : World), (Instr.makeFunc fn first cap).run Tryz.prog w = .ok (.func fn first cap) w := fun _ _ _ _ => rfl
  have CS : Hid (∀ W : World, Below w.heap.size w W → Calls Tryz.prog 109 #[.pointer p] W fun e w' => e = .returned (.agg #[.int .i64 (sall l).n, .int .i64 (sall l).d0, .int .i64 (sall l).d1, .int .i64 (sall l).d2, .int .i64 (sall l).mx, .int .i64 (sall l).pl]) ∧ Below W.heap.size W w') := fun W hW => tsum_any p l h W (ht.below hW)
  have ho := ht.okl.1
  obtain ⟨u, hT, hroot⟩ := root_fix ht
  have C2 := Lib.hid hroot
  have CF : Hid (∀ (W : World) (bd bv bb : Nat), Below w.heap.size w W → Env W dim.toNat v 0 bd bv bb → Calls Tryz.prog 158 #[u, .func (.func 157) #[] #[.pointer (some ⟨bd, 0, none⟩), .pointer (some ⟨bv, 0, none⟩), .pointer (some ⟨bb, 0, none⟩)]] W fun e w' => ∃ (q : Nat) (z : Int), FindIs l dim.toNat v 0 q ∧ 0 ≤ z ∧ z ≤ h ∧ e = .returned (.agg (vcs q (sall (l.take q)) z)) ∧ Below W.heap.size W w') := fun W bd bv bb hW hE => by
    rcases hT with ⟨rfl, rfl, rfl⟩ | ⟨c, hk, hc⟩
    · refine (find_nil bd bv bb W).mono ?_
      rintro e w' ⟨rfl, hb⟩
      exact ⟨0, 0, ⟨Nat.le_refl _, fun j hj => absurd hj (by omega), fun hh => absurd hh (by simp)⟩, Int.le_refl _, Int.le_refl _, rfl, hb⟩
    · exact find_node h ⟨u, l, c⟩ l dim.toNat v 0 bd bv bb W (hk.below hW) rfl ho (by have := ht.okl.2; omega) (by omega) hE
  have hdn : ((dim.toNat : Nat) : Int) = dim := Int.toNat_of_nonneg hd.1
  have CR := Lib.hid fun (W : World) => rightd_any dim W true ⟨fun _ => hd, fun _ => rfl⟩
  clear hT hroot
  have CZ : Hid (∀ W : World, Calls Tryz.prog 156 #[.agg #[.int .i64 (sall l).n, .int .i64 (sall l).d0, .int .i64 (sall l).d1, .int .i64 (sall l).d2, .int .i64 (sall l).mx, .int .i64 (sall l).pl], .int .i64 dim] W fun e w' => e = .returned (.int .i64 (sdim l dim.toNat)) ∧ Below W.heap.size W w') := fun W => by
    have := tsize_any (sall l) dim.toNat W (by omega)
    rw [ssz_sdim l ho, Int.toNat_of_nonneg hd.1] at this
    exact this
  generalize hE_ : sdim l dim.toNat = E at *
  clear hE_
  clear ht ho
  have q1 : decide (v < 0) = false := decide_eq_false (by omega)
  have q2 : decide (E < v) = false := decide_eq_false (by omega)
  go_enter Tryz.func130, Tryz.ntmps130
  go_wp2
  have hb1 : Below w.heap.size w ((((w.alloc (.cells #[.int .i64 dim] 3)).alloc (.cells #[.int .i64 v] 3)).alloc (.cells #[.int .i64 0] 3)).alloc (.cells #[.int .i64 0, .int .i64 0, .int .i64 0, .int .i64 0, .int .i64 0, .int .i64 0, .int .i64 0, .int .i64 0] 208)) := ((((Below.refl _ _).alloc (Nat.le_refl _) _).alloc (by simp) _).alloc (by simp; omega) _).alloc (by simp; omega) _
  obtain ⟨q0, q1, q2, q3⟩ := four_new w #[.int .i64 dim] #[.int .i64 v] #[.int .i64 0] #[.int .i64 0, .int .i64 0, .int .i64 0, .int .i64 0, .int .i64 0, .int .i64 0, .int .i64 0, .int .i64 0]
  obtain ⟨W1, hW1⟩ : ∃ W1, W1 = ((((w.alloc (.cells #[.int .i64 dim] 3)).alloc (.cells #[.int .i64 v] 3)).alloc (.cells #[.int .i64 0] 3)).alloc (.cells #[.int .i64 0, .int .i64 0, .int .i64 0, .int .i64 0, .int .i64 0, .int .i64 0, .int .i64 0, .int .i64 0] 208)) := ⟨_, rfl⟩
  rw [← hW1] at hb1 q0 q1 q2 q3 ⊢
  clear hW1
  have HQ0 := Lib.hid q0
  have HQ1 := Lib.hid q1
  have HQ2 := Lib.hid q2
  have HQ3 := Lib.hid q3
  clear q0 q1 q2 q3
  have MK := Lib.hid fun (W : World) (hW : Below W1.heap.size W1 W) => (⟨RawAt.cell (RawAt.below HQ0.out hW (RawAt.lt HQ0.out)) 0, RawAt.cell (RawAt.below HQ1.out hW (RawAt.lt HQ1.out)) 0, RawAt.cell (RawAt.below HQ2.out hW (RawAt.lt HQ2.out)) 0⟩ : W.cell? ⟨w.heap.size, 0, none⟩ = some (.int .i64 dim) ∧ W.cell? ⟨w.heap.size + 1, 0, none⟩ = some (.int .i64 v) ∧ W.cell? ⟨w.heap.size + 1 + 1, 0, none⟩ = some (.int .i64 0))
  have hW2 : Below W1.heap.size W1 W1.drew := (Below.refl _ _).drew
  go_wp2_with fail
  refine wp_region_noPanic ?_
  refine wp_region_held_drew (S := (fun W => W.cell? ⟨w.heap.size, 0, none⟩ = some (.int .i64 dim) ∧ W.cell? ⟨w.heap.size + 1, 0, none⟩ = some (.int .i64 v) ∧ W.cell? ⟨w.heap.size + 1 + 1, 0, none⟩ = some (.int .i64 0))) (by kernel_rfl) (MK.out _ hW2) (fun hHeld => ?_)
  refine wpAnyH_take (i := 0) (v := ?_) rfl (by kernel_rfl) (by kernel_rfl) (by kernel_rfl) (fun _ _ _ h => h) (Or.inl ⟨by rfl, ?_⟩) hHeld ?_
  rotate_left
  · intro w hSw
    (try dsimp only at hSw)
    go_simp
    try with_reducible rfl
  go_simp
  refine wpAnyH_ready (rs := [1]) (by kernel_rfl) (by simp) ?_
  refine AllReadyH.cons rfl (fun K hK => ?_) ?_
  rotate_left
  · exact AllReadyH.nil
  go_simp
  go_wp2_with (first | (go_at_call 155; ((with_reducible refine (CR.out _).mono ?_); rintro e w2 ⟨rfl, hw2⟩); have hw2 := hw2.symm; subst hw2) | (go_at_call 109; ((with_reducible refine (CS.out _ (hb1.trans (hW2.mono hb1.size))).mono ?_); rintro e w3 ⟨rfl, hb3⟩); have hW2 := hW2.trans (hb3.mono hW2.size)) | (go_at_call 156; ((with_reducible refine (CZ.out _).mono ?_); rintro e w4 ⟨rfl, hb4⟩); have hW2 := hW2.trans (hb4.mono hW2.size)))
  refine hK.out _ _ (MK.out _ hW2) (fun hHeld => ?_)
  clear hK K
  go_simp
  refine wpAnyH_take (i := 2) (v := ?_) rfl (by kernel_rfl) (by kernel_rfl) (by kernel_rfl) (fun _ _ _ h => h) (Or.inl ⟨by rfl, ?_⟩) hHeld ?_
  rotate_left
  · intro w hSw
    (try dsimp only at hSw)
    go_simp
    try with_reducible rfl
  go_simp
  refine wpAnyH_take (i := 3) (v := ?_) rfl (by kernel_rfl) (by kernel_rfl) (by kernel_rfl) (fun _ _ _ h => h) (Or.inl ⟨by rfl, ?_⟩) hHeld ?_
  rotate_left
  · intro w hSw
    (try dsimp only at hSw)
    go_simp
    try with_reducible rfl
  go_simp
  refine wpAnyH_take (i := 4) (v := ?_) rfl (by kernel_rfl) (by kernel_rfl) (by kernel_rfl) (fun _ _ _ h => h) (Or.inl ⟨by rfl, ?_⟩) hHeld ?_
  rotate_left
  · intro w hSw
    (try dsimp only at hSw)
    go_simp
    try with_reducible rfl
  go_simp
  refine wpAnyH_take (i := 5) (v := ?_) rfl (by kernel_rfl) (by kernel_rfl) (by kernel_rfl) (fun _ _ _ h => h) (Or.inl ⟨by rfl, ?_⟩) hHeld ?_
  rotate_left
  · intro w hSw
    (try dsimp only at hSw)
    go_simp
    try with_reducible rfl
  go_simp
  refine wpAnyH_take (i := 6) (v := ?_) rfl (by kernel_rfl) (by kernel_rfl) (by kernel_rfl) (fun _ _ _ h => h) (Or.inl ⟨by rfl, ?_⟩) hHeld ?_
  rotate_left
  · intro w hSw
    (try dsimp only at hSw)
    go_simp
    try with_reducible rfl
  go_simp
  refine wpAnyH_take (i := 7) (v := ?_) rfl (by kernel_rfl) (by kernel_rfl) (by kernel_rfl) (fun _ _ _ h => h) (Or.inl ⟨by rfl, ?_⟩) hHeld ?_
  rotate_left
  · intro w hSw
    (try dsimp only at hSw)
    go_simp
    try with_reducible rfl
  go_simp
  refine wpAnyH_take (i := 8) (v := ?_) rfl (by kernel_rfl) (by kernel_rfl) (by kernel_rfl) (fun _ _ _ h => h) (Or.inl ⟨by rfl, ?_⟩) hHeld ?_
  rotate_left
  · intro w hSw
    (try dsimp only at hSw)
    go_simp
    try with_reducible rfl
  go_simp
  refine wpAnyH_take (i := 9) (v := ?_) rfl (by kernel_rfl) (by kernel_rfl) (by kernel_rfl) (fun _ _ _ h => h) (Or.inl ⟨by rfl, ?_⟩) hHeld ?_
  rotate_left
  · intro w hSw
    (try dsimp only at hSw)
    go_simp
    try with_reducible rfl
  go_simp
  refine wpAnyH_take (i := 11) (v := ?_) rfl (by kernel_rfl) (by kernel_rfl) (by kernel_rfl) (fun _ _ _ h => h) (Or.inl ⟨by rfl, ?_⟩) hHeld ?_
  rotate_left
  · intro w hSw
    (try dsimp only at hSw)
    go_simp
    try with_reducible rfl
  go_simp
  refine wpAnyH_ready (rs := [10]) (by kernel_rfl) (by simp) ?_
  refine AllReadyH.cons rfl (fun K hK => ?_) ?_
  rotate_left
  · exact AllReadyH.nil
  go_simp
  go_wp2_with (first | (go_at_call 155; ((with_reducible refine (CR.out _).mono ?_); rintro e w2 ⟨rfl, hw2⟩); have hw2 := hw2.symm; subst hw2) | (go_at_call 109; ((with_reducible refine (CS.out _ (hb1.trans (hW2.mono hb1.size))).mono ?_); rintro e w3 ⟨rfl, hb3⟩); have hW2 := hW2.trans (hb3.mono hW2.size)) | (go_at_call 156; ((with_reducible refine (CZ.out _).mono ?_); rintro e w4 ⟨rfl, hb4⟩); have hW2 := hW2.trans (hb4.mono hW2.size)))
  refine hK.out _ _ (MK.out _ hW2) (fun hHeld => ?_)
  clear hK K
  go_simp
  refine wpAnyH_ready (rs := [12]) (by kernel_rfl) (by simp) ?_
  refine AllReadyH.cons rfl (fun K hK => ?_) ?_
  rotate_left
  · exact AllReadyH.nil
  go_simp
  go_wp2_with (first | (go_at_call 155; ((with_reducible refine (CR.out _).mono ?_); rintro e w2 ⟨rfl, hw2⟩); have hw2 := hw2.symm; subst hw2) | (go_at_call 109; ((with_reducible refine (CS.out _ (hb1.trans (hW2.mono hb1.size))).mono ?_); rintro e w3 ⟨rfl, hb3⟩); have hW2 := hW2.trans (hb3.mono hW2.size)) | (go_at_call 156; ((with_reducible refine (CZ.out _).mono ?_); rintro e w4 ⟨rfl, hb4⟩); have hW2 := hW2.trans (hb4.mono hW2.size)))
  refine hK.out _ _ (MK.out _ hW2) (fun hHeld => ?_)
  clear hK K
  go_simp
  refine wpAnyH_take (i := 13) (v := ?_) rfl (by kernel_rfl) (by kernel_rfl) (by kernel_rfl) (fun _ _ _ h => h) (Or.inl ⟨by rfl, ?_⟩) hHeld ?_
  rotate_left
  · intro w hSw
    (try dsimp only at hSw)
    go_simp
    try with_reducible rfl
  go_simp
  refine wpAnyH_take (i := 14) (v := ?_) rfl (by kernel_rfl) (by kernel_rfl) (by kernel_rfl) (fun _ _ _ h => h) (Or.inl ⟨by rfl, ?_⟩) hHeld ?_
  rotate_left
  · intro w hSw
    (try dsimp only at hSw)
    go_simp
    try with_reducible rfl
  go_simp
  refine wpAnyH_take (i := 15) (v := ?_) rfl (by kernel_rfl) (by kernel_rfl) (by kernel_rfl) (fun _ _ _ h => h) (Or.inl ⟨by rfl, ?_⟩) hHeld ?_
  rotate_left
  · intro w hSw
    (try dsimp only at hSw)
    go_simp
    try with_reducible rfl
  go_simp
  refine wpAnyH_take (i := 16) (v := ?_) rfl (by kernel_rfl) (by kernel_rfl) (by kernel_rfl) (fun _ _ _ h => h) (Or.inl ⟨by rfl, ?_⟩) hHeld ?_
  rotate_left
  · intro w hSw
    (try dsimp only at hSw)
    go_simp
    try with_reducible rfl
  go_simp
  refine wpAnyH_take (i := 17) (v := ?_) rfl (by kernel_rfl) (by kernel_rfl) (by kernel_rfl) (fun _ _ _ h => h) (Or.inl ⟨by rfl, ?_⟩) hHeld ?_
  rotate_left
  · intro w hSw
    (try dsimp only at hSw)
    go_simp
    try with_reducible rfl
  go_simp
  refine wpAnyH_take (i := 18) (v := ?_) rfl (by kernel_rfl) (by kernel_rfl) (by kernel_rfl) (fun _ _ _ h => h) (Or.inl ⟨by rfl, ?_⟩) hHeld ?_
  rotate_left
  · intro w hSw
    (try dsimp only at hSw)
    go_simp
    try with_reducible rfl
  go_simp
  refine wpAnyH_take (i := 19) (v := undef) rfl (by kernel_rfl) (by kernel_rfl) (by kernel_rfl) (fun _ _ _ h => h) (Or.inr ⟨by rfl, rfl⟩) hHeld ?_
  go_simp
  refine wpAnyH_take (i := 20) (v := undef) rfl (by kernel_rfl) (by kernel_rfl) (by kernel_rfl) (fun _ _ _ h => h) (Or.inr ⟨by rfl, rfl⟩) hHeld ?_
  go_simp
  refine wpAnyH_take (i := 21) (v := ?_) rfl (by kernel_rfl) (by kernel_rfl) (by kernel_rfl) (fun _ _ _ h => h) (Or.inl ⟨by rfl, ?_⟩) hHeld ?_
  rotate_left
  · intro w hSw
    (try dsimp only at hSw)
    go_simp
    try with_reducible rfl
  go_simp
  refine wpAnyH_take (i := 22) (v := ?_) rfl (by kernel_rfl) (by kernel_rfl) (by kernel_rfl) (fun _ _ _ h => h) (Or.inl ⟨by rfl, ?_⟩) hHeld ?_
  rotate_left
  · intro w hSw
    (try dsimp only at hSw)
    go_simp
    try with_reducible rfl
  go_simp
  refine wpAnyH_done (by kernel_rfl) ?_ _
  refine NoPanic.normal ?_
  have af := hb1.trans (hW2.mono hb1.size)
  go_wp2_with fail
  refine (C2.out _ af).mono ?_
  rintro e w5 ⟨rfl, hw5⟩
  have hw5 := hw5.symm
  subst hw5
  go_wp2_with fail
  refine (CF.out _ _ _ _ af (fun W hW => by
    obtain ⟨m0, m1, m2⟩ := MK.out W (hW2.trans (hW.mono hW2.size))
    rw [hdn]
    exact ⟨m0, m1, m2⟩)).mono ?_
  rintro e w6 ⟨q, z, hF, hz0, hz1, rfl, hb6⟩
  have hW6 := hW2.trans (hb6.mono hW2.size)
  have ag := hb1.trans (hW6.mono hb1.size)
  have HF := Lib.hid hF
  have HZ0 := Lib.hid hz0
  have HZ1 := Lib.hid hz1
  clear hF hz0 hz1
  have r2 := HQ3.out.below hW6 HQ3.out.lt
  have f0 := r2.free 0
  have f1 := r2.free 1
  have f2 := r2.free 2
  have f3 := r2.free 3
  have f4 := r2.free 4
  have f5 := r2.free 5
  have f6 := r2.free 6
  have f7 := r2.free 7
  obtain ⟨c0, c1, c2, c3, c4, c5, c6, c7⟩ := raw_eight r2
  clear r2
  generalize hsq : sall (l.take q) = s at *
  have HSQ := Lib.hid hsq; clear hsq
  unfold vcs
  go_wp2
  refine bodyPost_ret (v := .tuple #[.agg #[.int .i64 q, .int .i64 s.n, .int .i64 s.d0, .int .i64 s.d1, .int .i64 s.d2, .int .i64 s.mx, .int .i64 s.pl, .int .i64 z], .int .i64 0]) (by simp [results, Tryz.results130, go_sem, c0, c1, c2, c3, c4, c5, c6, c7]) rfl ⟨q, z, HF.out, HZ0.out, HZ1.out, by rw [HSQ.out]; rfl, ?_⟩
  (repeat' (first | (with_reducible exact ag) | (with_reducible refine Below.setCell ?_ ?_ _) | (with_reducible refine Below.drew ?_))) <;> first | exact Nat.le_refl _ | (simp; done) | (simp; omega)
set_option maxHeartbeats 8000000 in
set_option maxRecDepth 100000 in
theorem tfind_ok1 (p : Option Addr) (l : List I7) (h : Nat) (dim v : Int) (w : World) (ht : TP w p l h) (hd : 0 ≤ dim ∧ dim < 4) (hv : 0 ≤ v) (hs : v ≤ sdim l dim.toNat) :
    Calls Tryz.prog 130 #[.pointer p, .int .i64 dim, .int .i64 v, .int .i64 1] w fun e w' => ∃ (k : Nat) (z : Int), FindIs l dim.toNat v 1 k ∧ 0 ≤ z ∧ z ≤ h ∧ e = .returned (.tuple #[.agg (vcs k (sall (l.take k)) z), .int .i64 0]) ∧ Below w.heap.size w w' := by
  have hmf : ∀ (fn : Fn) (first cap : Array Value) (w : World), (Instr.makeFunc fn first cap).run Tryz.prog w = .ok (.func fn first cap) w := fun _ _ _ _ => rfl
  have CS : Hid (∀ W : World, Below w.heap.size w W → Calls Tryz.prog 109 #[.pointer p] W fun e w' => e = .returned (.agg #[.int .i64 (sall l).n, .int .i64 (sall l).d0, .int .i64 (sall l).d1, .int .i64 (sall l).d2, .int .i64 (sall l).mx, .int .i64 (sall l).pl]) ∧ Below W.heap.size W w') := fun W hW => tsum_any p l h W (ht.below hW)
  have ho := ht.okl.1
  obtain ⟨u, hT, hroot⟩ := root_fix ht
  have C2 := Lib.hid hroot
  have CF : Hid (∀ (W : World) (bd bv bb : Nat), Below w.heap.size w W → Env W dim.toNat v 1 bd bv bb → Calls Tryz.prog 158 #[u, .func (.func 157) #[] #[.pointer (some ⟨bd, 0, none⟩), .pointer (some ⟨bv, 0, none⟩), .pointer (some ⟨bb, 0, none⟩)]] W fun e w' => ∃ (q : Nat) (z : Int), FindIs l dim.toNat v 1 q ∧ 0 ≤ z ∧ z ≤ h ∧ e = .returned (.agg (vcs q (sall (l.take q)) z)) ∧ Below W.heap.size W w') := fun W bd bv bb hW hE => by
    rcases hT with ⟨rfl, rfl, rfl⟩ | ⟨c, hk, hc⟩
    · refine (find_nil bd bv bb W).mono ?_
      rintro e w' ⟨rfl, hb⟩
      exact ⟨0, 0, ⟨Nat.le_refl _, fun j hj => absurd hj (by omega), fun hh => absurd hh (by simp)⟩, Int.le_refl _, Int.le_refl _, rfl, hb⟩
    · exact find_node h ⟨u, l, c⟩ l dim.toNat v 1 bd bv bb W (hk.below hW) rfl ho (by have := ht.okl.2; omega) (by omega) hE
  have hdn : ((dim.toNat : Nat) : Int) = dim := Int.toNat_of_nonneg hd.1
  have CR := Lib.hid fun (W : World) => rightd_any dim W true ⟨fun _ => hd, fun _ => rfl⟩
  clear hT hroot
  have CZ : Hid (∀ W : World, Calls Tryz.prog 156 #[.agg #[.int .i64 (sall l).n, .int .i64 (sall l).d0, .int .i64 (sall l).d1, .int .i64 (sall l).d2, .int .i64 (sall l).mx, .int .i64 (sall l).pl], .int .i64 dim] W fun e w' => e = .returned (.int .i64 (sdim l dim.toNat)) ∧ Below W.heap.size W w') := fun W => by
    have := tsize_any (sall l) dim.toNat W (by omega)
    rw [ssz_sdim l ho, Int.toNat_of_nonneg hd.1] at this
    exact this
  generalize hE_ : sdim l dim.toNat = E at *
  clear hE_
  clear ht ho
  have q1 : decide (v < 0) = false := decide_eq_false (by omega)
  have q2 : decide (E < v) = false := decide_eq_false (by omega)
  go_enter Tryz.func130, Tryz.ntmps130
  go_wp2
  have hb1 : Below w.heap.size w ((((w.alloc (.cells #[.int .i64 dim] 3)).alloc (.cells #[.int .i64 v] 3)).alloc (.cells #[.int .i64 1] 3)).alloc (.cells #[.int .i64 0, .int .i64 0, .int .i64 0, .int .i64 0, .int .i64 0, .int .i64 0, .int .i64 0, .int .i64 0] 208)) := ((((Below.refl _ _).alloc (Nat.le_refl _) _).alloc (by simp) _).alloc (by simp; omega) _).alloc (by simp; omega) _
  obtain ⟨q0, q1, q2, q3⟩ := four_new w #[.int .i64 dim] #[.int .i64 v] #[.int .i64 1] #[.int .i64 0, .int .i64 0, .int .i64 0, .int .i64 0, .int .i64 0, .int .i64 0, .int .i64 0, .int .i64 0]
  obtain ⟨W1, hW1⟩ : ∃ W1, W1 = ((((w.alloc (.cells #[.int .i64 dim] 3)).alloc (.cells #[.int .i64 v] 3)).alloc (.cells #[.int .i64 1] 3)).alloc (.cells #[.int .i64 0, .int .i64 0, .int .i64 0, .int .i64 0, .int .i64 0, .int .i64 0, .int .i64 0, .int .i64 0] 208)) := ⟨_, rfl⟩
  rw [← hW1] at hb1 q0 q1 q2 q3 ⊢
  clear hW1
  have HQ0 := Lib.hid q0
  have HQ1 := Lib.hid q1
  have HQ2 := Lib.hid q2
  have HQ3 := Lib.hid q3
  clear q0 q1 q2 q3
  have MK := Lib.hid fun (W : World) (hW : Below W1.heap.size W1 W) => (⟨RawAt.cell (RawAt.below HQ0.out hW (RawAt.lt HQ0.out)) 0, RawAt.cell (RawAt.below HQ1.out hW (RawAt.lt HQ1.out)) 0, RawAt.cell (RawAt.below HQ2.out hW (RawAt.lt HQ2.out)) 0⟩ : W.cell? ⟨w.heap.size, 0, none⟩ = some (.int .i64 dim) ∧ W.cell? ⟨w.heap.size + 1, 0, none⟩ = some (.int .i64 v) ∧ W.cell? ⟨w.heap.size + 1 + 1, 0, none⟩ = some (.int .i64 1))
  have hW2 : Below W1.heap.size W1 W1.drew := (Below.refl _ _).drew
  go_wp2_with fail
  refine wp_region_noPanic ?_
  refine wp_region_held_drew (S := (fun W => W.cell? ⟨w.heap.size, 0, none⟩ = some (.int .i64 dim) ∧ W.cell? ⟨w.heap.size + 1, 0, none⟩ = some (.int .i64 v) ∧ W.cell? ⟨w.heap.size + 1 + 1, 0, none⟩ = some (.int .i64 1))) (by kernel_rfl) (MK.out _ hW2) (fun hHeld => ?_)
  refine wpAnyH_take (i := 0) (v := ?_) rfl (by kernel_rfl) (by kernel_rfl) (by kernel_rfl) (fun _ _ _ h => h) (Or.inl ⟨by rfl, ?_⟩) hHeld ?_
  rotate_left
  · intro w hSw
    (try dsimp only at hSw)
    go_simp
    try with_reducible rfl
  go_simp
  refine wpAnyH_ready (rs := [1]) (by kernel_rfl) (by simp) ?_
  refine AllReadyH.cons rfl (fun K hK => ?_) ?_
  rotate_left
  · exact AllReadyH.nil
  go_simp
  go_wp2_with (first | (go_at_call 155; ((with_reducible refine (CR.out _).mono ?_); rintro e w2 ⟨rfl, hw2⟩); have hw2 := hw2.symm; subst hw2) | (go_at_call 109; ((with_reducible refine (CS.out _ (hb1.trans (hW2.mono hb1.size))).mono ?_); rintro e w3 ⟨rfl, hb3⟩); have hW2 := hW2.trans (hb3.mono hW2.size)) | (go_at_call 156; ((with_reducible refine (CZ.out _).mono ?_); rintro e w4 ⟨rfl, hb4⟩); have hW2 := hW2.trans (hb4.mono hW2.size)))
  refine hK.out _ _ (MK.out _ hW2) (fun hHeld => ?_)
  clear hK K
  go_simp
  refine wpAnyH_take (i := 2) (v := ?_) rfl (by kernel_rfl) (by kernel_rfl) (by kernel_rfl) (fun _ _ _ h => h) (Or.inl ⟨by rfl, ?_⟩) hHeld ?_
  rotate_left
  · intro w hSw
    (try dsimp only at hSw)
    go_simp
    try with_reducible rfl
  go_simp
  refine wpAnyH_take (i := 3) (v := ?_) rfl (by kernel_rfl) (by kernel_rfl) (by kernel_rfl) (fun _ _ _ h => h) (Or.inl ⟨by rfl, ?_⟩) hHeld ?_
  rotate_left
  · intro w hSw
    (try dsimp only at hSw)
    go_simp
    try with_reducible rfl
  go_simp
  refine wpAnyH_take (i := 4) (v := ?_) rfl (by kernel_rfl) (by kernel_rfl) (by kernel_rfl) (fun _ _ _ h => h) (Or.inl ⟨by rfl, ?_⟩) hHeld ?_
  rotate_left
  · intro w hSw
    (try dsimp only at hSw)
    go_simp
    try with_reducible rfl
  go_simp
  refine wpAnyH_take (i := 5) (v := ?_) rfl (by kernel_rfl) (by kernel_rfl) (by kernel_rfl) (fun _ _ _ h => h) (Or.inl ⟨by rfl, ?_⟩) hHeld ?_
  rotate_left
  · intro w hSw
    (try dsimp only at hSw)
    go_simp
    try with_reducible rfl
  go_simp
  refine wpAnyH_take (i := 6) (v := ?_) rfl (by kernel_rfl) (by kernel_rfl) (by kernel_rfl) (fun _ _ _ h => h) (Or.inl ⟨by rfl, ?_⟩) hHeld ?_
  rotate_left
  · intro w hSw
    (try dsimp only at hSw)
    go_simp
    try with_reducible rfl
  go_simp
  refine wpAnyH_take (i := 7) (v := ?_) rfl (by kernel_rfl) (by kernel_rfl) (by kernel_rfl) (fun _ _ _ h => h) (Or.inl ⟨by rfl, ?_⟩) hHeld ?_
  rotate_left
  · intro w hSw
    (try dsimp only at hSw)
    go_simp
    try with_reducible rfl
  go_simp
  refine wpAnyH_take (i := 8) (v := ?_) rfl (by kernel_rfl) (by kernel_rfl) (by kernel_rfl) (fun _ _ _ h => h) (Or.inl ⟨by rfl, ?_⟩) hHeld ?_
  rotate_left
  · intro w hSw
    (try dsimp only at hSw)
    go_simp
    try with_reducible rfl
  go_simp
  refine wpAnyH_take (i := 9) (v := ?_) rfl (by kernel_rfl) (by kernel_rfl) (by kernel_rfl) (fun _ _ _ h => h) (Or.inl ⟨by rfl, ?_⟩) hHeld ?_
  rotate_left
  · intro w hSw
    (try dsimp only at hSw)
    go_simp
    try with_reducible rfl
  go_simp
  refine wpAnyH_take (i := 11) (v := ?_) rfl (by kernel_rfl) (by kernel_rfl) (by kernel_rfl) (fun _ _ _ h => h) (Or.inl ⟨by rfl, ?_⟩) hHeld ?_
  rotate_left
  · intro w hSw
    (try dsimp only at hSw)
    go_simp
    try with_reducible rfl
  go_simp
  refine wpAnyH_ready (rs := [10]) (by kernel_rfl) (by simp) ?_
  refine AllReadyH.cons rfl (fun K hK => ?_) ?_
  rotate_left
  · exact AllReadyH.nil
  go_simp
  go_wp2_with (first | (go_at_call 155; ((with_reducible refine (CR.out _).mono ?_); rintro e w2 ⟨rfl, hw2⟩); have hw2 := hw2.symm; subst hw2) | (go_at_call 109; ((with_reducible refine (CS.out _ (hb1.trans (hW2.mono hb1.size))).mono ?_); rintro e w3 ⟨rfl, hb3⟩); have hW2 := hW2.trans (hb3.mono hW2.size)) | (go_at_call 156; ((with_reducible refine (CZ.out _).mono ?_); rintro e w4 ⟨rfl, hb4⟩); have hW2 := hW2.trans (hb4.mono hW2.size)))
  refine hK.out _ _ (MK.out _ hW2) (fun hHeld => ?_)
  clear hK K
  go_simp
  refine wpAnyH_ready (rs := [12]) (by kernel_rfl) (by simp) ?_
  refine AllReadyH.cons rfl (fun K hK => ?_) ?_
  rotate_left
  · exact AllReadyH.nil
  go_simp
  go_wp2_with (first | (go_at_call 155; ((with_reducible refine (CR.out _).mono ?_); rintro e w2 ⟨rfl, hw2⟩); have hw2 := hw2.symm; subst hw2) | (go_at_call 109; ((with_reducible refine (CS.out _ (hb1.trans (hW2.mono hb1.size))).mono ?_); rintro e w3 ⟨rfl, hb3⟩); have hW2 := hW2.trans (hb3.mono hW2.size)) | (go_at_call 156; ((with_reducible refine (CZ.out _).mono ?_); rintro e w4 ⟨rfl, hb4⟩); have hW2 := hW2.trans (hb4.mono hW2.size)))
  refine hK.out _ _ (MK.out _ hW2) (fun hHeld => ?_)
  clear hK K
  go_simp
  refine wpAnyH_take (i := 13) (v := ?_) rfl (by kernel_rfl) (by kernel_rfl) (by kernel_rfl) (fun _ _ _ h => h) (Or.inl ⟨by rfl, ?_⟩) hHeld ?_
  rotate_left
  · intro w hSw
    (try dsimp only at hSw)
    go_simp
    try with_reducible rfl
  go_simp
  refine wpAnyH_take (i := 14) (v := ?_) rfl (by kernel_rfl) (by kernel_rfl) (by kernel_rfl) (fun _ _ _ h => h) (Or.inl ⟨by rfl, ?_⟩) hHeld ?_
  rotate_left
  · intro w hSw
    (try dsimp only at hSw)
    go_simp
    try with_reducible rfl
  go_simp
  refine wpAnyH_take (i := 15) (v := ?_) rfl (by kernel_rfl) (by kernel_rfl) (by kernel_rfl) (fun _ _ _ h => h) (Or.inl ⟨by rfl, ?_⟩) hHeld ?_
  rotate_left
  · intro w hSw
    (try dsimp only at hSw)
    go_simp
    try with_reducible rfl
  go_simp
  refine wpAnyH_take (i := 16) (v := ?_) rfl (by kernel_rfl) (by kernel_rfl) (by kernel_rfl) (fun _ _ _ h => h) (Or.inl ⟨by rfl, ?_⟩) hHeld ?_
  rotate_left
  · intro w hSw
    (try dsimp only at hSw)
    go_simp
    try with_reducible rfl
  go_simp
  refine wpAnyH_take (i := 17) (v := ?_) rfl (by kernel_rfl) (by kernel_rfl) (by kernel_rfl) (fun _ _ _ h => h) (Or.inl ⟨by rfl, ?_⟩) hHeld ?_
  rotate_left
  · intro w hSw
    (try dsimp only at hSw)
    go_simp
    try with_reducible rfl
  go_simp
  refine wpAnyH_take (i := 18) (v := ?_) rfl (by kernel_rfl) (by kernel_rfl) (by kernel_rfl) (fun _ _ _ h => h) (Or.inl ⟨by rfl, ?_⟩) hHeld ?_
  rotate_left
  · intro w hSw
    (try dsimp only at hSw)
    go_simp
    try with_reducible rfl
  go_simp
  refine wpAnyH_take (i := 19) (v := ?_) rfl (by kernel_rfl) (by kernel_rfl) (by kernel_rfl) (fun _ _ _ h => h) (Or.inl ⟨by rfl, ?_⟩) hHeld ?_
  rotate_left
  · intro w hSw
    (try dsimp only at hSw)
    go_simp
    try with_reducible rfl
  go_simp
  refine wpAnyH_take (i := 20) (v := ?_) rfl (by kernel_rfl) (by kernel_rfl) (by kernel_rfl) (fun _ _ _ h => h) (Or.inl ⟨by rfl, ?_⟩) hHeld ?_
  rotate_left
  · intro w hSw
    (try dsimp only at hSw)
    go_simp
    try with_reducible rfl
  go_simp
  refine wpAnyH_take (i := 21) (v := ?_) rfl (by kernel_rfl) (by kernel_rfl) (by kernel_rfl) (fun _ _ _ h => h) (Or.inl ⟨by rfl, ?_⟩) hHeld ?_
  rotate_left
  · intro w hSw
    (try dsimp only at hSw)
    go_simp
    try with_reducible rfl
  go_simp
  refine wpAnyH_take (i := 22) (v := ?_) rfl (by kernel_rfl) (by kernel_rfl) (by kernel_rfl) (fun _ _ _ h => h) (Or.inl ⟨by rfl, ?_⟩) hHeld ?_
  rotate_left
  · intro w hSw
    (try dsimp only at hSw)
    go_simp
    try with_reducible rfl
  go_simp
  refine wpAnyH_done (by kernel_rfl) ?_ _
  refine NoPanic.normal ?_
  have af := hb1.trans (hW2.mono hb1.size)
  go_wp2_with fail
  refine (C2.out _ af).mono ?_
  rintro e w5 ⟨rfl, hw5⟩
  have hw5 := hw5.symm
  subst hw5
  go_wp2_with fail
  refine (CF.out _ _ _ _ af (fun W hW => by
    obtain ⟨m0, m1, m2⟩ := MK.out W (hW2.trans (hW.mono hW2.size))
    rw [hdn]
    exact ⟨m0, m1, m2⟩)).mono ?_
  rintro e w6 ⟨q, z, hF, hz0, hz1, rfl, hb6⟩
  have hW6 := hW2.trans (hb6.mono hW2.size)
  have ag := hb1.trans (hW6.mono hb1.size)
  have HF := Lib.hid hF
  have HZ0 := Lib.hid hz0
  have HZ1 := Lib.hid hz1
  clear hF hz0 hz1
  have r2 := HQ3.out.below hW6 HQ3.out.lt
  have f0 := r2.free 0
  have f1 := r2.free 1
  have f2 := r2.free 2
  have f3 := r2.free 3
  have f4 := r2.free 4
  have f5 := r2.free 5
  have f6 := r2.free 6
  have f7 := r2.free 7
  obtain ⟨c0, c1, c2, c3, c4, c5, c6, c7⟩ := raw_eight r2
  clear r2
  generalize hsq : sall (l.take q) = s at *
  have HSQ := Lib.hid hsq; clear hsq
  unfold vcs
  go_wp2
  refine bodyPost_ret (v := .tuple #[.agg #[.int .i64 q, .int .i64 s.n, .int .i64 s.d0, .int .i64 s.d1, .int .i64 s.d2, .int .i64 s.mx, .int .i64 s.pl, .int .i64 z], .int .i64 0]) (by simp [results, Tryz.results130, go_sem, c0, c1, c2, c3, c4, c5, c6, c7]) rfl ⟨q, z, HF.out, HZ0.out, HZ1.out, by rw [HSQ.out]; rfl, ?_⟩
  (repeat' (first | (with_reducible exact ag) | (with_reducible refine Below.setCell ?_ ?_ _) | (with_reducible refine Below.drew ?_))) <;> first | exact Nat.le_refl _ | (simp; done) | (simp; omega)
theorem tfind_any (p : Option Addr) (l : List I7) (h : Nat) (dim v bi : Int) (w : World) (ht : TP w p l h) (hask : AskOk l dim v bi) :
    Calls Tryz.prog 130 #[.pointer p, .int .i64 dim, .int .i64 v, .int .i64 bi] w fun e w' => ∃ (k : Nat) (z : Int), FindIs l dim.toNat v bi k ∧ 0 ≤ z ∧ z ≤ h ∧ e = .returned (.tuple #[.agg (vcs k (sall (l.take k)) z), .int .i64 0]) ∧ Below w.heap.size w w' := by
  obtain ⟨h1, h2, h3, h4, rfl | rfl⟩ := hask
  · exact tfind_ok0 p l h dim v w ht ⟨h1, h2⟩ h3 h4
  · exact tfind_ok1 p l h dim v w ht ⟨h1, h2⟩ h3 h4
theorem tfind_bad (p : Option Addr) (l : List I7) (h : Nat) (dim v bi : Int) (w : World) (ht : TP w p l h) (hask : ¬ AskOk l dim v bi) :
    Calls Tryz.prog 130 #[.pointer p, .int .i64 dim, .int .i64 v, .int .i64 bi] w fun e w' => e = .returned (.tuple #[.agg (vcs 0 s0 0), .int .i64 1]) ∧ Below w.heap.size w w' := by
  by_cases h1 : 0 ≤ dim ∧ dim < 4
  · by_cases h2 : v < 0
    · exact tfind_b2 p l h dim v bi w ht h1 h2
    · by_cases h3 : sdim l dim.toNat < v
      · exact tfind_b3 p l h dim v bi w ht h1 (by omega) h3
      · exact tfind_b4 p l h dim v bi w ht h1 (by omega) (by omega) (fun e => hask ⟨h1.1, h1.2, by omega, by omega, .inl e⟩) (fun e => hask ⟨h1.1, h1.2, by omega, by omega, .inr e⟩)
  · exact tfind_b1 p l h dim v bi w ht h1
end Go.Proofs.YtpnjokhhbjpciaaGreatDoor
