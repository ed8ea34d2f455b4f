/- Folds: what a nil set answers. -/
import Derived.Test.YtnfjleobcfhpnaaFoT
import Derived.Test.YtnfjleobcfhpnaaPtA
import Derived.Test.YtnfjleobcfhpnaaPtE
import Derived.Deep.RegionHeld3
namespace Go.Proofs.Ytnfjleobcfhpnaa
open Go.RowKit Go.Sort
set_option linter.unusedVariables false
set_option maxHeartbeats 8000000 in
set_option maxRecDepth 100000 in
theorem fIndexF0 (A : Option Addr) (c : Nat) (K : Value) (w : World) : Calls Try.prog 66 #[.slice A 0 c, K] w fun e w' => e = .returned (.int .i64 (-1)) ∧ w' = w := by
  go_enter Try.func66, Try.ntmps66
  go_wp2_with fail
  go_loopg [8] 0 (fun g i wr => i = .int .i64 0 ∧ wr = w)
  case atStart => exact ⟨rfl, rfl⟩
  case round =>
    obtain ⟨rfl, rfl⟩ := hrel
    go_wp2
    go_ret
    exact ⟨rfl, rfl⟩
set_option maxHeartbeats 8000000 in
set_option maxRecDepth 100000 in
theorem fDelete0 (A : Option Addr) (c : Nat) (K : Value) (w : World) : Calls Try.prog 40 #[.slice A 0 c, K] w fun e w' => e = .returned (.slice A 0 c) ∧ w' = w := by
  have CI := Lib.hid (fIndexF0 A c K w)
  go_enter Try.func40, Try.ntmps40
  go_wp2_with fail
  with_reducible refine (CI.out).mono ?_
  rintro e1 w1 ⟨rfl, rfl⟩
  go_wp2
  go_ret
  exact ⟨rfl, rfl⟩
set_option maxHeartbeats 8000000 in
set_option maxRecDepth 100000 in
theorem fRemove_nil (x : Fo) (w : World) : Calls Try.prog 18 #[.pointer none, .agg #[.int .i64 x.f, .int .i64 x.t]] w fun e w' => ∃ p, e = .returned (.tuple #[p, .int .i64 0, .int .i64 (if fsp x 0 then 0 else 1)]) ∧ (fsp x 0 → ∃ sb, p = .pointer (some ⟨sb, 0, none⟩)) ∧ (¬ fsp x 0 → p = .pointer none) ∧ Below w.heap.size w w' := by
  have CL := Lib.hid fun W => fLen_nil W
  have CSP := Lib.hid fun W => fSpans_any x 0 W
  have CA := Lib.hid fun W => fAll_nil W
  have CK := Lib.hid fun W => fKept_nil W
  have tf0 := fun (A : Option Addr) (m c : Nat) (w : World) => ffld1 0 A m c w
  have x1 : Below w.heap.size w (w.alloc (.cells #[.int .i64 x.f, .int .i64 x.t] 33)) := (Below.refl _ _).alloc (Nat.le_refl _) _
  have R1 : RawAt 33 (w.alloc (.cells #[.int .i64 x.f, .int .i64 x.t] 33)) w.heap.size #[.int .i64 x.f, .int .i64 x.t] := heap_alloc_new w _
  obtain ⟨W1, hW1⟩ : ∃ W1, W1 = (w.alloc (.cells #[.int .i64 x.f, .int .i64 x.t] 33)) := ⟨_, rfl⟩
  obtain ⟨b0, hb0⟩ : ∃ b0, b0 = w.heap.size := ⟨_, rfl⟩
  rw [← hW1] at x1 R1
  rw [← hb0] at R1
  have HX1 := Lib.hid x1
  have HR1 := Lib.hid R1
  have HW1 := Lib.hid hW1
  have HB0 := Lib.hid hb0
  have MK : Hid (∀ W : World, Below W1.heap.size W1 W → (fun W => W.cell? ⟨b0, 0, none⟩ = some (.int .i64 x.f) ∧ W.cell? ⟨b0, 1, none⟩ = some (.int .i64 x.t)) W) := Lib.hid fun W hW => ⟨RawAt.cell (RawAt.below HR1.out hW HR1.out.lt) 0, RawAt.cell (RawAt.below HR1.out hW HR1.out.lt) 1⟩
  have hW2 : Below W1.heap.size W1 W1.drew := (Below.refl _ _).drew
  clear x1 R1 hW1 hb0
  by_cases g : fsp x 0
  · have k1 : decide (fsp x 0) = true := decide_eq_true g
    rw [k1] at CSP
    rw [if_pos g]
    have HG := Lib.hid g
    clear g k1
    go_enter Try.func18, Try.ntmps18
    go_wp2_with fail
    rw [← HW1.out, ← HB0.out]
    refine wp_region_noPanic ?_
    refine wp_region_held_drew (S := (fun W => W.cell? ⟨b0, 0, none⟩ = some (.int .i64 x.f) ∧ W.cell? ⟨b0, 1, none⟩ = some (.int .i64 x.t))) (by kernel_rfl) (MK.out _ hW2) (fun hHeld => ?_)
    refine wpAnyH_take (i := 0) (v := ?_) rfl (by kernel_rfl) (by kernel_rfl) (by kernel_rfl) (fun _ _ _ h => h) (Or.inl ⟨by rfl, ?_⟩) hHeld ?_
    rotate_left
    · intro w hSw
      (try dsimp only at hSw)
      go_simp
      try with_reducible rfl
    go_simp
    refine wpAnyH_take (i := 1) (v := ?_) rfl (by kernel_rfl) (by kernel_rfl) (by kernel_rfl) (fun _ _ _ h => h) (Or.inl ⟨by rfl, ?_⟩) hHeld ?_
    rotate_left
    · intro w hSw
      (try dsimp only at hSw)
      go_simp
      try with_reducible rfl
    go_simp
    refine wpAnyH_ready (rs := [2]) (by kernel_rfl) (by simp) ?_
    refine AllReadyH.cons rfl (fun K hK => ?_) ?_
    rotate_left
    · exact AllReadyH.nil
    go_simp
    go_wp2_with (first | (go_at_call 34; (with_reducible refine (CL.out _).mono ?_); rintro e w2 ⟨rfl, b2⟩; have hW2 := hW2.trans (b2.mono hW2.size)) | (go_at_call 35; (with_reducible refine (CSP.out _).mono ?_); rintro e w3 ⟨rfl, b3⟩; have hW2 := hW2.trans (b3.mono hW2.size)))
    refine hK.out _ _ (MK.out _ hW2) (fun hHeld => ?_)
    clear hK K
    go_simp
    refine wpAnyH_ready (rs := [3]) (by kernel_rfl) (by simp) ?_
    refine AllReadyH.cons rfl (fun K hK => ?_) ?_
    rotate_left
    · exact AllReadyH.nil
    go_simp
    go_wp2_with (first | (go_at_call 34; (with_reducible refine (CL.out _).mono ?_); rintro e w2 ⟨rfl, b2⟩; have hW2 := hW2.trans (b2.mono hW2.size)) | (go_at_call 35; (with_reducible refine (CSP.out _).mono ?_); rintro e w3 ⟨rfl, b3⟩; have hW2 := hW2.trans (b3.mono hW2.size)))
    refine hK.out _ _ (MK.out _ hW2) (fun hHeld => ?_)
    clear hK K
    go_simp
    refine wpAnyH_take (i := 4) (v := ?_) rfl (by kernel_rfl) (by kernel_rfl) (by kernel_rfl) (fun _ _ _ h => h) (Or.inl ⟨by rfl, ?_⟩) hHeld ?_
    rotate_left
    · intro w hSw
      (try dsimp only at hSw)
      go_simp
      try with_reducible rfl
    go_simp
    refine wpAnyH_done (by kernel_rfl) ?_ _
    refine NoPanic.normal ?_
    have Q3 := Lib.hid (HX1.out.trans (hW2.mono HX1.out.size))
    clear hW2 hHeld MK
    go_wp2_with fail
    with_reducible refine (CA.out _).mono ?_
    rintro e4 w4 ⟨v4, rfl, o4, b4⟩
    obtain ⟨A4, c4, rfl⟩ := own_formF o4
    have Q4 := Lib.hid (Q3.out.trans (b4.mono Q3.out.size))
    clear b4 o4
    have CD := Lib.hid fun K W => fDelete0 A4 c4 K W
    have hmf : ∀ (fn : Fn) (first cap : Array Value) (w : World), (Instr.makeFunc fn first cap).run Try.prog w = .ok (.func fn first cap) w := fun _ _ _ _ => rfl
    go_wp2_with fail
    with_reducible refine (CD.out _ _).mono ?_
    rintro e5 w5 ⟨rfl, hw5⟩
    subst hw5
    go_wp2_with fail
    with_reducible refine (CL.out _).mono ?_
    rintro e6 w6 ⟨rfl, b6⟩
    have q6 := Q4.out.trans (b6.mono Q4.out.size)
    have Q6 := Lib.hid (q6.alloc q6.size (.cells #[.int .i64 0, .slice A4 0 c4] 87))
    clear b6 q6
    go_wp2_with fail
    with_reducible refine (CK.out _).mono ?_
    rintro e7 w7 ⟨rfl, b7⟩
    have Q7 := Lib.hid (Q6.out.trans (b7.mono Q6.out.size))
    clear b7
    go_wp2
    refine bodyPost_ret (v := .tuple #[.pointer (some ⟨w6.heap.size, 0, none⟩), .int .i64 0, .int .i64 0]) (by simp [results, Try.results18, go_sem]) rfl ⟨_, rfl, fun _ => ⟨_, rfl⟩, fun h => absurd HG.out h, Q7.out⟩
  · have k1 : decide (fsp x 0) = false := decide_eq_false g
    rw [k1] at CSP
    rw [if_neg g]
    have HG := Lib.hid g
    clear g k1
    go_enter Try.func18, Try.ntmps18
    go_wp2_with fail
    rw [← HW1.out, ← HB0.out]
    refine wp_region_noPanic ?_
    refine wp_region_held_drew (S := (fun W => W.cell? ⟨b0, 0, none⟩ = some (.int .i64 x.f) ∧ W.cell? ⟨b0, 1, none⟩ = some (.int .i64 x.t))) (by kernel_rfl) (MK.out _ hW2) (fun hHeld => ?_)
    refine wpAnyH_take (i := 0) (v := ?_) rfl (by kernel_rfl) (by kernel_rfl) (by kernel_rfl) (fun _ _ _ h => h) (Or.inl ⟨by rfl, ?_⟩) hHeld ?_
    rotate_left
    · intro w hSw
      (try dsimp only at hSw)
      go_simp
      try with_reducible rfl
    go_simp
    refine wpAnyH_take (i := 1) (v := ?_) rfl (by kernel_rfl) (by kernel_rfl) (by kernel_rfl) (fun _ _ _ h => h) (Or.inl ⟨by rfl, ?_⟩) hHeld ?_
    rotate_left
    · intro w hSw
      (try dsimp only at hSw)
      go_simp
      try with_reducible rfl
    go_simp
    refine wpAnyH_ready (rs := [2]) (by kernel_rfl) (by simp) ?_
    refine AllReadyH.cons rfl (fun K hK => ?_) ?_
    rotate_left
    · exact AllReadyH.nil
    go_simp
    go_wp2_with (first | (go_at_call 34; (with_reducible refine (CL.out _).mono ?_); rintro e w2 ⟨rfl, b2⟩; have hW2 := hW2.trans (b2.mono hW2.size)) | (go_at_call 35; (with_reducible refine (CSP.out _).mono ?_); rintro e w3 ⟨rfl, b3⟩; have hW2 := hW2.trans (b3.mono hW2.size)))
    refine hK.out _ _ (MK.out _ hW2) (fun hHeld => ?_)
    clear hK K
    go_simp
    refine wpAnyH_ready (rs := [3]) (by kernel_rfl) (by simp) ?_
    refine AllReadyH.cons rfl (fun K hK => ?_) ?_
    rotate_left
    · exact AllReadyH.nil
    go_simp
    go_wp2_with (first | (go_at_call 34; (with_reducible refine (CL.out _).mono ?_); rintro e w2 ⟨rfl, b2⟩; have hW2 := hW2.trans (b2.mono hW2.size)) | (go_at_call 35; (with_reducible refine (CSP.out _).mono ?_); rintro e w3 ⟨rfl, b3⟩; have hW2 := hW2.trans (b3.mono hW2.size)))
    refine hK.out _ _ (MK.out _ hW2) (fun hHeld => ?_)
    clear hK K
    go_simp
    refine wpAnyH_take (i := 4) (v := ?_) rfl (by kernel_rfl) (by kernel_rfl) (by kernel_rfl) (fun _ _ _ h => h) (Or.inl ⟨by rfl, ?_⟩) hHeld ?_
    rotate_left
    · intro w hSw
      (try dsimp only at hSw)
      go_simp
      try with_reducible rfl
    go_simp
    refine wpAnyH_done (by kernel_rfl) ?_ _
    refine NoPanic.normal ?_
    have Q3 := Lib.hid (HX1.out.trans (hW2.mono HX1.out.size))
    clear hW2 hHeld MK
    go_wp2
    refine bodyPost_ret (v := .tuple #[.pointer none, .int .i64 0, .int .i64 1]) (by simp [results, Try.results18, go_sem]) rfl ⟨_, rfl, fun h => absurd h HG.out, fun _ => rfl, Q3.out⟩
set_option maxHeartbeats 8000000 in
set_option maxRecDepth 100000 in
theorem fBehind0 (w : World) : Calls Try.prog 44 #[.slice none 0 0, .int .i64 0] w fun e w' => e = .returned (.bool false) ∧ Below w.heap.size w w' := by
  go_enter Try.func44, Try.ntmps44
  go_wp2
  go_ret
  exact ⟨rfl, Below.refl _ _⟩
set_option maxHeartbeats 8000000 in
set_option maxRecDepth 100000 in
theorem fShift_nil (w : World) :
    Calls Try.prog 20 #[.pointer none, .slice none 0 0] w fun e w' => ∃ sb, e = .returned (.tuple #[.pointer (some ⟨sb, 0, none⟩), .int .i64 0]) ∧ Below w.heap.size w w' := by
  have CNM := Lib.hid fun (W : World) => pNormal_any none 0 0 [] W true (fun h => absurd h (by simp)) rfl (by omega) ⟨fun _ => trivial, fun _ => rfl⟩
  have CLN := Lib.hid fun (W : World) => fLen_nil W
  have CBH := Lib.hid fun (W : World) => fBehind0 W
  have CKE := Lib.hid fun (W : World) => fKept_nil W
  have hmm := @run_makeMap Try.prog
  have tf0 := fun (A : Option Addr) (m c : Nat) (w : World) => ffld1 0 A m c w
  have CDT := Lib.hid fun (W : World) => pDelta_any none 0 0 [] W (fun h => absurd h (by simp)) rfl (by omega) (fun c h => absurd h (by simp))
  go_enter Try.func20, Try.ntmps20
  go_wp2_with fail
  with_reducible refine (CNM.out _).mono ?_
  rintro e1 w1 ⟨rfl, b1⟩
  have Q1 := Lib.hid b1
  clear b1
  go_wp2_with fail
  with_reducible refine (CLN.out _).mono ?_
  rintro e2 w2 ⟨rfl, b2⟩
  have Q2 := Lib.hid (Q1.out.trans (b2.mono Q1.out.size))
  clear b2
  go_wp2_with fail
  with_reducible refine (CBH.out _).mono ?_
  rintro e3 w3 ⟨rfl, b3⟩
  have Q3 := Lib.hid (Q2.out.trans (b3.mono Q2.out.size))
  clear b3
  go_wp2_with fail
  with_reducible refine (CKE.out _).mono ?_
  rintro e4 w4 ⟨rfl, b4⟩
  have Q4 := Lib.hid ((Q3.out.alloc Q3.out.size (.map #[] 0)).trans (b4.mono (Q3.out.alloc Q3.out.size (.map #[] 0)).size))
  clear b4
  go_wp2_with fail
  go_loopg [7, 22] 0 (fun g v i wr => v = .slice none 0 0 ∧ i = .int .i64 0 ∧ wr = w4)
  case atStart => exact ⟨rfl, rfl, rfl⟩
  case round =>
    obtain ⟨rfl, rfl, hwr⟩ := hrel
    have CNW := Lib.hid fun (W : World) (hW : Below w4.heap.size w4 W) => fNew_any 0 none 0 0 [] W (fun h => absurd h (by simp)) ⟨Nat.le_refl _, fun _ => rfl⟩ rfl (fun a h => absurd h (by simp)) 0 (by rfl)
    have HWR := Lib.hid hwr
    clear hwr
    go_wp2_with fail
    with_reducible refine (CLN.out _).mono ?_
    rintro e5 w5 ⟨rfl, b5⟩
    have Q5 := Lib.hid (show Below w4.heap.size w4 w5 by rw [← HWR.out]; exact b5)
    clear b5
    go_wp2_with fail
    with_reducible refine (CDT.out _).mono ?_
    rintro e6 w6 ⟨rfl, b6⟩
    have Q6 := Lib.hid (Q5.out.trans (b6.mono Q5.out.size))
    clear b6
    have hd : dlt [] = 0 := rfl
    rw [hd]
    clear hd
    go_wp2_with fail
    with_reducible refine (CNW.out _ Q6.out).mono ?_
    rintro e7 w7 ⟨p7, rfl, _, hp7, b7⟩
    obtain ⟨s7, rfl, _⟩ := hp7 trivial
    have Q7 := Lib.hid (Q4.out.trans ((Q6.out.trans (b7.mono Q6.out.size)).mono Q4.out.size))
    clear hp7 b7
    go_wp2
    go_ret2
    exact ⟨s7, rfl, Q7.out⟩
end Go.Proofs.Ytnfjleobcfhpnaa
