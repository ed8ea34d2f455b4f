/- The walks of the laws BreaksTakes, BreaksMore, BreaksNone, BreaksAll. -/
import Derived.Test.YtnlhpbnonmdkdaaBrU
import Derived.Deep.RegionHeld3
namespace Go.Proofs.Ytnlhpbnonmdkdaa
open Go.RowKit
set_option linter.unusedVariables false
set_option maxHeartbeats 4000000 in
set_option maxRecDepth 100000 in
theorem breaksTakes_walk (A : Option Addr) (n c : Nat) (l : List Cl) (room : Int) (w : World) (hA : RowsAt encC 4 w A l) (hl : l.length = n) (hn : n ≤ maxLen) (hc : Caps A n c) (hO : ∀ s ∈ l, ClOk s) (wf : Lit.wf (.int .i64 room)) :
    Calls Try.prog 3 #[.slice A n c, .int .i64 room] w fun e w' => e = .returned (.bool true) ∧ Below w.heap.size w w' := by
  by_cases hr : n ≤ 200 ∧ W02 l
  · have CR := Lib.hid (right19_any A n c l w hA hl true (by simp [hr]))
    have C1 := Lib.hid fun (W : World) (hW : Below w.heap.size w W) => bTakes A n c l room W (hA.below hW) hl (by omega) hr.2
    have C2 := Lib.hid fun (W : World) (hW : Below w.heap.size w W) => r9Takes_any A n c l room W (hA.below hW) hl hc (by omega) hr.2
    have C3 := Lib.hid fun (W : World) (hW : Below w.heap.size w W) => bIndent A n c l W (hA.below hW) hl hc (by omega) hr.2
    have C4 := Lib.hid fun (W : World) (hW : Below w.heap.size w W) => r9Indent_any A n c l W (hA.below hW) hl hc (by omega) hr.2
    clear hA hl hn hc hO wf hr
    generalize tak l room = q at *
    generalize ind l = x at *
    go_enter Try.func3, Try.ntmps3
    go_wp2_with (first | (go_at_call 15; refine (CR.out).mono ?_; rintro e w1 ⟨rfl, hb1⟩; have HB1 := Lib.hid hb1; clear hb1) | (go_at_call 17; refine (C1.out _ HB1.out).mono ?_; rintro e w2 ⟨rfl, hb2⟩; have HB2 := Lib.hid (HB1.out.trans (hb2.mono HB1.out.size)); clear hb2) | (go_at_call 18; refine (C2.out _ HB2.out).mono ?_; rintro e w3 ⟨rfl, hb3⟩; have HB3 := Lib.hid (HB2.out.trans (hb3.mono HB2.out.size)); clear hb3) | (go_at_call 19; refine (C3.out _ HB3.out).mono ?_; rintro e w4 ⟨rfl, hb4⟩; have HB4 := Lib.hid (HB3.out.trans (hb4.mono HB3.out.size)); clear hb4) | (go_at_call 20; refine (C4.out _ HB4.out).mono ?_; rintro e w5 ⟨rfl, hb5⟩; have HB5 := Lib.hid (HB4.out.trans (hb5.mono HB4.out.size)); clear hb5) | (go_at_call 16; refine (two19_any _).mono ?_; rintro e w6 ⟨rfl, hb6⟩; have HB6 := Lib.hid (HB5.out.trans (hb6.mono HB5.out.size)); clear hb6))
    go_ret
    exact ⟨rfl, HB6.out⟩
  · have CR := Lib.hid (right19_any A n c l w hA hl false (by simp; intro h; exact fun g => hr ⟨h, g⟩))
    clear hA hl hn hc hO wf hr
    go_enter Try.func3, Try.ntmps3
    go_wp2_with (first | (go_at_call 15; refine (CR.out).mono ?_; rintro e w1 ⟨rfl, hb1⟩; have HB1 := Lib.hid hb1; clear hb1) | (go_at_call 16; refine (two19_any _).mono ?_; rintro e w6 ⟨rfl, hb6⟩; have HB6 := Lib.hid (HB1.out.trans (hb6.mono HB1.out.size)); clear hb6))
    go_ret
    exact ⟨rfl, HB6.out⟩
set_option maxHeartbeats 4000000 in
set_option maxRecDepth 100000 in
theorem breaksMore_walk (A : Option Addr) (n c : Nat) (l : List Cl) (room more : Int) (w : World) (hA : RowsAt encC 4 w A l) (hl : l.length = n) (hn : n ≤ maxLen) (hc : Caps A n c) (hO : ∀ s ∈ l, ClOk s) (wf : Lit.wf (.int .i64 room)) (wf2 : Lit.wf (.int .i64 more)) :
    Calls Try.prog 8 #[.slice A n c, .int .i64 room, .int .i64 more] w fun e w' => e = .returned (.bool true) ∧ Below w.heap.size w w' := by
  by_cases hr : n ≤ 200 ∧ W02 l
  · have CR := Lib.hid (right19_any A n c l w hA hl true (by simp [hr]))
    have C1 := Lib.hid fun (r : Int) (W : World) (hW : Below w.heap.size w W) => bTakes A n c l r W (hA.below hW) hl (by omega) hr.2
    clear hA hl hn hc hO wf hr wf2
    by_cases g1 : room < -10
    · have k1 : decide (room < -10) = true := decide_eq_true g1
      go_enter Try.func8, Try.ntmps8
      go_wp2_with (first | (go_at_call 15; refine (CR.out).mono ?_; rintro e w1 ⟨rfl, hb1⟩; have HB1 := Lib.hid hb1; clear hb1) | (go_at_call 16; refine (two19_any _).mono ?_; rintro e w6 ⟨rfl, hb6⟩; have HB6 := Lib.hid (HB1.out.trans (hb6.mono HB1.out.size)); clear hb6))
      go_ret
      exact ⟨rfl, HB6.out⟩
    have k1 : decide (room < -10) = false := decide_eq_false g1
    by_cases g2 : 1000 < room
    · have k2 : decide (1000 < room) = true := decide_eq_true g2
      go_enter Try.func8, Try.ntmps8
      go_wp2_with (first | (go_at_call 15; refine (CR.out).mono ?_; rintro e w1 ⟨rfl, hb1⟩; have HB1 := Lib.hid hb1; clear hb1) | (go_at_call 16; refine (two19_any _).mono ?_; rintro e w6 ⟨rfl, hb6⟩; have HB6 := Lib.hid (HB1.out.trans (hb6.mono HB1.out.size)); clear hb6))
      go_ret
      exact ⟨rfl, HB6.out⟩
    have k2 : decide (1000 < room) = false := decide_eq_false g2
    by_cases g3 : more < 0
    · have k3 : decide (more < 0) = true := decide_eq_true g3
      go_enter Try.func8, Try.ntmps8
      go_wp2_with (first | (go_at_call 15; refine (CR.out).mono ?_; rintro e w1 ⟨rfl, hb1⟩; have HB1 := Lib.hid hb1; clear hb1) | (go_at_call 16; refine (two19_any _).mono ?_; rintro e w6 ⟨rfl, hb6⟩; have HB6 := Lib.hid (HB1.out.trans (hb6.mono HB1.out.size)); clear hb6))
      go_ret
      exact ⟨rfl, HB6.out⟩
    have k3 : decide (more < 0) = false := decide_eq_false g3
    by_cases g4 : 1000 < more
    · have k4 : decide (1000 < more) = true := decide_eq_true g4
      go_enter Try.func8, Try.ntmps8
      go_wp2_with (first | (go_at_call 15; refine (CR.out).mono ?_; rintro e w1 ⟨rfl, hb1⟩; have HB1 := Lib.hid hb1; clear hb1) | (go_at_call 16; refine (two19_any _).mono ?_; rintro e w6 ⟨rfl, hb6⟩; have HB6 := Lib.hid (HB1.out.trans (hb6.mono HB1.out.size)); clear hb6))
      go_ret
      exact ⟨rfl, HB6.out⟩
    have k4 : decide (1000 < more) = false := decide_eq_false g4
    have hmono := tak_mono l (show room ≤ room + more by omega)
    have C1a := Lib.hid (C1.out room)
    have C1b := Lib.hid (C1.out (room + more))
    generalize tak l room = q at *
    generalize tak l (room + more) = q2 at *
    have k5 : decide ((q : Int) ≤ q2) = true := decide_eq_true (by omega)
    have g5 : -10 ≤ room := by omega
    have g6 : room ≤ 1000 := by omega
    have g7 : 0 ≤ more := by omega
    have g8 : more ≤ 1000 := by omega
    clear g1 g2 g3 g4 C1
    go_enter Try.func8, Try.ntmps8
    go_wp2_with (first | (go_at_call 15; refine (CR.out).mono ?_; rintro e w1 ⟨rfl, hb1⟩; have HB1 := Lib.hid hb1; clear hb1) | (go_at_call 17; with_reducible refine (C1a.out _ HB1.out).mono ?_; rintro e w2 ⟨rfl, hb2⟩; have HB2 := Lib.hid (HB1.out.trans (hb2.mono HB1.out.size)); clear hb2) | (go_at_call 17; refine (C1b.out _ HB2.out).mono ?_; rintro e w3 ⟨rfl, hb3⟩; have HB3 := Lib.hid (HB2.out.trans (hb3.mono HB2.out.size)); clear hb3) | (go_at_call 16; refine (two19_any _).mono ?_; rintro e w6 ⟨rfl, hb6⟩; have HB6 := Lib.hid (HB3.out.trans (hb6.mono HB3.out.size)); clear hb6))
    go_ret
    exact ⟨rfl, HB6.out⟩
  · have CR := Lib.hid (right19_any A n c l w hA hl false (by simp; intro h; exact fun g => hr ⟨h, g⟩))
    clear hA hl hn hc hO wf hr
    go_enter Try.func8, Try.ntmps8
    go_wp2_with (first | (go_at_call 15; refine (CR.out).mono ?_; rintro e w1 ⟨rfl, hb1⟩; have HB1 := Lib.hid hb1; clear hb1) | (go_at_call 16; refine (two19_any _).mono ?_; rintro e w6 ⟨rfl, hb6⟩; have HB6 := Lib.hid (HB1.out.trans (hb6.mono HB1.out.size)); clear hb6))
    go_ret
    exact ⟨rfl, HB6.out⟩
set_option maxHeartbeats 4000000 in
set_option maxRecDepth 100000 in
theorem breaksNone_walk (a b : Int) (w : World) :
    Calls Try.prog 9 #[.agg #[.int .i64 a, .int .i64 b]] w fun e w' => e = .returned (.bool true) ∧ Below w.heap.size w w' := by
  obtain ⟨w0, hw0⟩ : ∃ w0, w.alloc (.cells #[.int .i64 a, .int .i64 b] 28) = w0 := ⟨_, rfl⟩
  have x0 : Below w.heap.size w w0 := by rw [← hw0]; exact (Below.refl _ _).alloc (Nat.le_refl _) _
  have R0 : RawAt 28 w0 w.heap.size #[.int .i64 a, .int .i64 b] := by rw [← hw0]; exact heap_alloc_new w _
  have c0 := RawAt.cell R0 0
  simp at c0
  have HR0 := Lib.hid R0
  have HX0 := Lib.hid x0
  have hcap : Caps none 0 0 := ⟨Nat.le_refl _, fun _ => rfl⟩
  have hw2 : W02 [] := fun x h => by simp at h
  have C1 := Lib.hid fun (W : World) => bTakes none 0 0 [] a W (RowsAt.nil _ _) rfl (by omega) hw2
  rw [tak_nil] at C1
  have C2 := Lib.hid fun (W : World) => bIndent none 0 0 [] W (RowsAt.nil _ _) rfl hcap (by omega) hw2
  rw [show ind [] = 0 from by decide] at C2
  have C3 := Lib.hid fun (W : World) => bAll none 0 0 a b [] W (RowsAt.nil _ _) rfl hcap (by omega) hw2
  rw [allN_nil] at C3
  clear x0 R0 hw2 hcap
  go_enter Try.func9, Try.ntmps9
  go_wp2_with (first | (go_at_call 17; refine (C1.out _).mono ?_; rintro e w2 ⟨rfl, hb2⟩; have HB2 := Lib.hid hb2; clear hb2) | (go_at_call 19; refine (C2.out _).mono ?_; rintro e w3 ⟨rfl, hb3⟩; have HB3 := Lib.hid (HB2.out.trans (hb3.mono HB2.out.size)); clear hb3; have R3 := RawAt.below HR0.out HB3.out HR0.out.lt; have c2 := RawAt.cell R3 0; have c3 := RawAt.cell R3 1; clear R3; simp at c2 c3) | (go_at_call 22; refine (C3.out _).mono ?_; rintro e w4 ⟨v4, rfl, ho4, hb4⟩; have HB4 := Lib.hid (HB3.out.trans (hb4.mono HB3.out.size)); clear hb4; obtain ⟨A5, c5, rfl, hI, _, _⟩ := IntsAt.of_own (kd := .i64) (l := [0]) ho4; have HI := Lib.hid hI; clear ho4 hI; have HI2 : Hid (IntsAt .i64 (w4.alloc (.cells #[.int .i64 0] 3)) (some ⟨w4.heap.size, 0, none⟩) [0]) := Lib.hid (ints_of_rows (row_new (encN_len .i64) w4 [0] #[.int .i64 0] 3 rfl)); have HX3 : Hid (Below w4.heap.size w4 (w4.alloc (.cells #[.int .i64 0] 3))) := Lib.hid ((Below.refl _ _).alloc (Nat.le_refl _) _)) | (go_at_call 21; refine (pints_any A5 (some ⟨w4.heap.size, 0, none⟩) 1 c5 1 [0] _ (HI.out.below HX3.out) HI2.out rfl (by omega)).mono ?_; rintro e w5 ⟨rfl, hb5⟩; have HB5 := Lib.hid (HB4.out.trans (Below.mono (HX3.out.trans (hb5.mono HX3.out.size)) HB4.out.size)); clear hb5) | (go_at_call 16; refine (two19_any _).mono ?_; rintro e w6 ⟨rfl, hb6⟩; have HB6 := Lib.hid (HB5.out.trans (hb6.mono HB5.out.size)); clear hb6))
  go_ret
  exact ⟨rfl, HX0.out.trans (HB6.out.mono HX0.out.size)⟩
set_option maxHeartbeats 4000000 in
set_option maxRecDepth 100000 in
theorem breaksAll_walk (A : Option Addr) (n c : Nat) (l : List Cl) (a b : Int) (w : World) (hA : RowsAt encC 4 w A l) (hl : l.length = n) (hn : n ≤ maxLen) (hc : Caps A n c) (hO : ∀ s ∈ l, ClOk s) :
    Calls Try.prog 4 #[.slice A n c, .agg #[.int .i64 a, .int .i64 b]] w fun e w' => e = .returned (.bool true) ∧ Below w.heap.size w w' := by
  obtain ⟨w0, hw0⟩ : ∃ w0, w.alloc (.cells #[.int .i64 a, .int .i64 b] 28) = w0 := ⟨_, rfl⟩
  have x0 : Below w.heap.size w w0 := by rw [← hw0]; exact (Below.refl _ _).alloc (Nat.le_refl _) _
  have R0 : RawAt 28 w0 w.heap.size #[.int .i64 a, .int .i64 b] := by rw [← hw0]; exact heap_alloc_new w _
  have HR0 := Lib.hid R0
  have HX0 := Lib.hid x0
  have hA0 := hA.below x0
  by_cases hr : n ≤ 200 ∧ W02 l
  · have CR := Lib.hid (right19_any A n c l w0 hA0 hl true (by simp [hr]))
    have CA := Lib.hid fun (W : World) (hW : Below w0.heap.size w0 W) => bAll A n c a b l W (hA0.below hW) hl hc (by omega) hr.2
    have CB := Lib.hid fun (W : World) (hW : Below w0.heap.size w0 W) => r9All_any A n c l a b W (hA0.below hW) hl hc (by omega) hr.2
    have hlen := allN_len l a b
    rw [hl] at hlen
    have hlen2 : (ofN (allN l a b)).length = (allN l a b).length := by simp [ofN]
    have hlen3 : (allN l a b).length ≤ 201 := by omega
    clear hA hl hn hc hO hr x0 R0 hA0 hlen
    generalize allN l a b = L at *
    obtain ⟨m, hm⟩ : ∃ m, L.length = m := ⟨_, rfl⟩
    rw [hm] at hlen2 hlen3 CA CB
    have HL2 := Lib.hid hlen2
    clear hlen2 hm
    go_enter Try.func4, Try.ntmps4
    go_wp2_with (go_at_call 15; refine (CR.out).mono ?_; rintro e w1 ⟨rfl, hb1⟩; have HB1 := Lib.hid hb1; clear hb1)
    have hW2 : Below w1.heap.size w1 w1.drew := (Below.refl _ _).drew
    have MK : Hid (∀ W : World, Below w1.heap.size w1 W → W.cell? ⟨w.heap.size, 0, none⟩ = some (.int .i64 a) ∧ W.cell? ⟨w.heap.size, 1, none⟩ = some (.int .i64 b)) := Lib.hid fun W hW => by
      have q := RawAt.below HR0.out (HB1.out.trans (hW.mono HB1.out.size)) HR0.out.lt
      have e0 := RawAt.cell q 0
      have e1 := RawAt.cell q 1
      simp at e0 e1
      exact ⟨e0, e1⟩
    refine wp_region_noPanic ?_
    refine wp_region_held_drew (S := (fun W => W.cell? ⟨w.heap.size, 0, none⟩ = some (.int .i64 a) ∧ W.cell? ⟨w.heap.size, 1, none⟩ = some (.int .i64 b))) (by kernel_rfl) (MK.out _ hW2) (fun hHeld => ?_)
    refine wpAnyH_take (i := 0) (v := ?_) rfl (by kernel_rfl) (by kernel_rfl) (by kernel_rfl) (fun _ _ _ h => h) (Or.inl ⟨by rfl, ?_⟩) hHeld ?_
    rotate_left
    · intro w hSw
      (try dsimp only at hSw)
      go_simp
      try with_reducible rfl
    go_simp
    refine wpAnyH_take (i := 1) (v := ?_) rfl (by kernel_rfl) (by kernel_rfl) (by kernel_rfl) (fun _ _ _ h => h) (Or.inl ⟨by rfl, ?_⟩) hHeld ?_
    rotate_left
    · intro w hSw
      (try dsimp only at hSw)
      go_simp
      try with_reducible rfl
    go_simp
    refine wpAnyH_take (i := 2) (v := ?_) rfl (by kernel_rfl) (by kernel_rfl) (by kernel_rfl) (fun _ _ _ h => h) (Or.inl ⟨by rfl, ?_⟩) hHeld ?_
    rotate_left
    · intro w hSw
      (try dsimp only at hSw)
      go_simp
      try with_reducible rfl
    go_simp
    refine wpAnyH_take (i := 3) (v := ?_) rfl (by kernel_rfl) (by kernel_rfl) (by kernel_rfl) (fun _ _ _ h => h) (Or.inl ⟨by rfl, ?_⟩) hHeld ?_
    rotate_left
    · intro w hSw
      (try dsimp only at hSw)
      go_simp
      try with_reducible rfl
    go_simp
    refine wpAnyH_take (i := 4) (v := ?_) rfl (by kernel_rfl) (by kernel_rfl) (by kernel_rfl) (fun _ _ _ h => h) (Or.inl ⟨by rfl, ?_⟩) hHeld ?_
    rotate_left
    · intro w hSw
      (try dsimp only at hSw)
      go_simp
      try with_reducible rfl
    go_simp
    refine wpAnyH_take (i := 6) (v := ?_) rfl (by kernel_rfl) (by kernel_rfl) (by kernel_rfl) (fun _ _ _ h => h) (Or.inl ⟨by rfl, ?_⟩) hHeld ?_
    rotate_left
    · intro w hSw
      (try dsimp only at hSw)
      go_simp
      try with_reducible rfl
    go_simp
    refine wpAnyH_take (i := 7) (v := ?_) rfl (by kernel_rfl) (by kernel_rfl) (by kernel_rfl) (fun _ _ _ h => h) (Or.inl ⟨by rfl, ?_⟩) hHeld ?_
    rotate_left
    · intro w hSw
      (try dsimp only at hSw)
      go_simp
      try with_reducible rfl
    go_simp
    refine wpAnyH_ready (rs := [5]) (by kernel_rfl) (by simp) ?_
    refine AllReadyH.cons rfl (fun K hK => ?_) ?_
    rotate_left
    · exact AllReadyH.nil
    go_simp
    go_wp2_with (first | (go_at_call 22; ((with_reducible refine (CA.out _ (HB1.out.trans (hW2.mono HB1.out.size))).mono ?_); rintro e w3 ⟨v3, rfl, ho3, hb3⟩); have hW2 := hW2.trans (hb3.mono hW2.size); obtain ⟨A5, c5, rfl, hI5, _, _⟩ := IntsAt.of_own (kd := .i64) ho3; have HI5 := Lib.hid hI5; clear hI5 ho3) | (go_at_call 23; ((with_reducible refine (CB.out _ (HB1.out.trans (hW2.mono HB1.out.size))).mono ?_); rintro e w4 ⟨v4, rfl, ho4, hb4⟩); have hW2 := hW2.trans (hb4.mono hW2.size); obtain ⟨A6, c6, rfl, hI6, _, _⟩ := IntsAt.of_own (kd := .i64) ho4; have HI6 := Lib.hid hI6; have HI5b := Lib.hid (HI5.out.below hb4); clear hI6 ho4) | (go_at_call 21; ((with_reducible refine (pints_any A5 A6 m c5 c6 (ofN L) _ HI5b.out HI6.out HL2.out (by omega)).mono ?_); rintro e w5 ⟨rfl, hb5⟩); have hW2 := hW2.trans (hb5.mono hW2.size)) | (go_at_call 16; ((with_reducible refine (two19_any _).mono ?_); rintro e w6 ⟨rfl, hb6⟩); have hW2 := hW2.trans (hb6.mono hW2.size)))
    refine hK.out _ _ (MK.out _ hW2) (fun hHeld => ?_)
    clear hK K
    go_simp
    refine wpAnyH_ready (rs := [8]) (by kernel_rfl) (by simp) ?_
    refine AllReadyH.cons rfl (fun K hK => ?_) ?_
    rotate_left
    · exact AllReadyH.nil
    go_simp
    go_wp2_with (first | (go_at_call 22; ((with_reducible refine (CA.out _ (HB1.out.trans (hW2.mono HB1.out.size))).mono ?_); rintro e w3 ⟨v3, rfl, ho3, hb3⟩); have hW2 := hW2.trans (hb3.mono hW2.size); obtain ⟨A5, c5, rfl, hI5, _, _⟩ := IntsAt.of_own (kd := .i64) ho3; have HI5 := Lib.hid hI5; clear hI5 ho3) | (go_at_call 23; ((with_reducible refine (CB.out _ (HB1.out.trans (hW2.mono HB1.out.size))).mono ?_); rintro e w4 ⟨v4, rfl, ho4, hb4⟩); have hW2 := hW2.trans (hb4.mono hW2.size); obtain ⟨A6, c6, rfl, hI6, _, _⟩ := IntsAt.of_own (kd := .i64) ho4; have HI6 := Lib.hid hI6; have HI5b := Lib.hid (HI5.out.below hb4); clear hI6 ho4) | (go_at_call 21; ((with_reducible refine (pints_any A5 A6 m c5 c6 (ofN L) _ HI5b.out HI6.out HL2.out (by omega)).mono ?_); rintro e w5 ⟨rfl, hb5⟩); have hW2 := hW2.trans (hb5.mono hW2.size)) | (go_at_call 16; ((with_reducible refine (two19_any _).mono ?_); rintro e w6 ⟨rfl, hb6⟩); have hW2 := hW2.trans (hb6.mono hW2.size)))
    refine hK.out _ _ (MK.out _ hW2) (fun hHeld => ?_)
    clear hK K
    go_simp
    refine wpAnyH_ready (rs := [9]) (by kernel_rfl) (by simp) ?_
    refine AllReadyH.cons rfl (fun K hK => ?_) ?_
    rotate_left
    · exact AllReadyH.nil
    go_simp
    go_wp2_with (first | (go_at_call 22; ((with_reducible refine (CA.out _ (HB1.out.trans (hW2.mono HB1.out.size))).mono ?_); rintro e w3 ⟨v3, rfl, ho3, hb3⟩); have hW2 := hW2.trans (hb3.mono hW2.size); obtain ⟨A5, c5, rfl, hI5, _, _⟩ := IntsAt.of_own (kd := .i64) ho3; have HI5 := Lib.hid hI5; clear hI5 ho3) | (go_at_call 23; ((with_reducible refine (CB.out _ (HB1.out.trans (hW2.mono HB1.out.size))).mono ?_); rintro e w4 ⟨v4, rfl, ho4, hb4⟩); have hW2 := hW2.trans (hb4.mono hW2.size); obtain ⟨A6, c6, rfl, hI6, _, _⟩ := IntsAt.of_own (kd := .i64) ho4; have HI6 := Lib.hid hI6; have HI5b := Lib.hid (HI5.out.below hb4); clear hI6 ho4) | (go_at_call 21; ((with_reducible refine (pints_any A5 A6 m c5 c6 (ofN L) _ HI5b.out HI6.out HL2.out (by omega)).mono ?_); rintro e w5 ⟨rfl, hb5⟩); have hW2 := hW2.trans (hb5.mono hW2.size)) | (go_at_call 16; ((with_reducible refine (two19_any _).mono ?_); rintro e w6 ⟨rfl, hb6⟩); have hW2 := hW2.trans (hb6.mono hW2.size)))
    refine hK.out _ _ (MK.out _ hW2) (fun hHeld => ?_)
    clear hK K
    go_simp
    refine wpAnyH_take (i := 10) (v := ?_) rfl (by kernel_rfl) (by kernel_rfl) (by kernel_rfl) (fun _ _ _ h => h) (Or.inl ⟨by rfl, ?_⟩) hHeld ?_
    rotate_left
    · intro w hSw
      (try dsimp only at hSw)
      go_simp
      try with_reducible rfl
    go_simp
    refine wpAnyH_ready (rs := [11]) (by kernel_rfl) (by simp) ?_
    refine AllReadyH.cons rfl (fun K hK => ?_) ?_
    rotate_left
    · exact AllReadyH.nil
    go_simp
    go_wp2_with (first | (go_at_call 22; ((with_reducible refine (CA.out _ (HB1.out.trans (hW2.mono HB1.out.size))).mono ?_); rintro e w3 ⟨v3, rfl, ho3, hb3⟩); have hW2 := hW2.trans (hb3.mono hW2.size); obtain ⟨A5, c5, rfl, hI5, _, _⟩ := IntsAt.of_own (kd := .i64) ho3; have HI5 := Lib.hid hI5; clear hI5 ho3) | (go_at_call 23; ((with_reducible refine (CB.out _ (HB1.out.trans (hW2.mono HB1.out.size))).mono ?_); rintro e w4 ⟨v4, rfl, ho4, hb4⟩); have hW2 := hW2.trans (hb4.mono hW2.size); obtain ⟨A6, c6, rfl, hI6, _, _⟩ := IntsAt.of_own (kd := .i64) ho4; have HI6 := Lib.hid hI6; have HI5b := Lib.hid (HI5.out.below hb4); clear hI6 ho4) | (go_at_call 21; ((with_reducible refine (pints_any A5 A6 m c5 c6 (ofN L) _ HI5b.out HI6.out HL2.out (by omega)).mono ?_); rintro e w5 ⟨rfl, hb5⟩); have hW2 := hW2.trans (hb5.mono hW2.size)) | (go_at_call 16; ((with_reducible refine (two19_any _).mono ?_); rintro e w6 ⟨rfl, hb6⟩); have hW2 := hW2.trans (hb6.mono hW2.size)))
    refine hK.out _ _ (MK.out _ hW2) (fun hHeld => ?_)
    clear hK K
    go_simp
    refine wpAnyH_take (i := 12) (v := ?_) rfl (by kernel_rfl) (by kernel_rfl) (by kernel_rfl) (fun _ _ _ h => h) (Or.inl ⟨by rfl, ?_⟩) hHeld ?_
    rotate_left
    · intro w hSw
      (try dsimp only at hSw)
      go_simp
      try with_reducible rfl
    go_simp
    refine wpAnyH_take (i := 13) (v := ?_) rfl (by kernel_rfl) (by kernel_rfl) (by kernel_rfl) (fun _ _ _ h => h) (Or.inl ⟨by rfl, ?_⟩) hHeld ?_
    rotate_left
    · intro w hSw
      (try dsimp only at hSw)
      go_simp
      try with_reducible rfl
    go_simp
    refine wpAnyH_done (by kernel_rfl) ?_ _
    refine NoPanic.normal ?_
    have HB6 := Lib.hid (HX0.out.trans ((HB1.out.trans (hW2.mono HB1.out.size)).mono HX0.out.size))
    clear hW2 MK
    go_wp2
    go_ret
    exact ⟨rfl, HB6.out⟩
  · have CR := Lib.hid (right19_any A n c l w0 hA0 hl false (by simp; intro h; exact fun g => hr ⟨h, g⟩))
    clear hA hl hn hc hO hr hA0
    go_enter Try.func4, Try.ntmps4
    go_wp2_with (first | (go_at_call 15; refine (CR.out).mono ?_; rintro e w1 ⟨rfl, hb1⟩; have HB1 := Lib.hid hb1; clear hb1) | (go_at_call 16; refine (two19_any _).mono ?_; rintro e w6 ⟨rfl, hb6⟩; have HB6 := Lib.hid (HB1.out.trans (hb6.mono HB1.out.size)); clear hb6))
    go_ret
    exact ⟨rfl, HX0.out.trans (HB6.out.mono HX0.out.size)⟩
end Go.Proofs.Ytnlhpbnonmdkdaa
