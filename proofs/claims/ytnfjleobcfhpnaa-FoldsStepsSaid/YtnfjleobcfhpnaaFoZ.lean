/- Folds: Remove of any set. -/
import Derived.Test.YtnfjleobcfhpnaaFoY
import Derived.Test.YtnfjleobcfhpnaaFoN
namespace Go.Proofs.Ytnfjleobcfhpnaa
open Go.RowKit Go.Sort
set_option linter.unusedVariables false
set_option maxHeartbeats 4000000 in
set_option maxRecDepth 100000 in
theorem fDel_gen (x : Fo) (b0 : Nat) (v : Value) (n B : Nat) (o : List Fo) (w : World) (hown : w.ownsRow B 33 2 v n (kfl encF o)) (hn : n ≤ 100000) (hb : b0 < B) (hr : RawAt 33 w b0 #[.int .i64 x.f, .int .i64 x.t]) :
    Calls Try.prog 40 #[v, .func (.func 41) #[] #[.pointer (some ⟨b0, 0, none⟩)]] w fun e w' => ∃ A i c, e = .returned (.slice A i c) ∧ w'.ownsRow B 33 2 (.slice A i c) i (kfl encF (o.filter fun a => !fmeet x a)) ∧ Below B w w' := by
  have hl := own_len encF_len (by omega) hown
  rcases hown.2 with ⟨rfl, h2⟩ | ⟨g, cap, cur, rfl, hB, c, h3⟩
  · have e0 : n = 0 := by first | exact h2 | exact h2.1 | (cases h2; rfl) | omega
    subst e0
    have eo : o = [] := List.length_eq_zero_iff.1 hl
    subst eo
    refine (fDelete0 none 0 _ w).mono ?_
    rintro e w1 ⟨rfl, rfl⟩
    exact ⟨_, _, _, rfl, hown, Below.refl _ _⟩
  · refine (fDelF_any _ _ rfl (fun a => fmeet x a) g n cap B o w hown hn (fun a ha W hW => fMeet_any x a b0 W (hW.raw hr (by omega)) _ rfl)).mono ?_
    rintro e w1 ⟨i, rfl, ho, hon⟩
    exact ⟨_, _, _, rfl, ho, hon.below.mono hB⟩
set_option maxHeartbeats 16000000 in
set_option maxRecDepth 100000 in
theorem fRemove_any {sb : Nat} {n : Int} {o : List Fo} {w : World} (h : FSet w sb n o) (ho : o.length ≤ 100000) (x : Fo) : Calls Try.prog 18 #[.pointer (some ⟨sb, 0, none⟩), .agg #[.int .i64 x.f, .int .i64 x.t]] w fun e w' => ∃ p k, e = .returned (.tuple #[p, .int .i64 k, .int .i64 (if fsp x n then 0 else 1)]) ∧ (fsp x n → k = (o.length : Int) - ((o.filter fun a => !fmeet x a).length : Int) ∧ ∃ sb', p = .pointer (some ⟨sb', 0, none⟩) ∧ FSet w' sb' n (o.filter fun a => !fmeet x a)) ∧ (¬ fsp x n → p = .pointer none ∧ k = 0) ∧ Below w.heap.size w w' := by
  have CL := Lib.hid fun W (hW : Below w.heap.size w W) => fLen_any (h.below hW)
  have CSP := Lib.hid fun W => fSpans_any x n W
  have CA := Lib.hid fun W (hW : Below w.heap.size w W) => fAll_any (h.below hW) ho
  obtain ⟨v0, hv0, hw0⟩ := h
  obtain ⟨A0, c0, rfl⟩ := own_formF hw0
  have CK := Lib.hid fun W (hW : Below w.heap.size w W) => fKept_any (o := o) (hv0.below hW hv0.lt)
  have tf0 := ffld1 n
  have HO := Lib.hid ho
  clear hv0 hw0
  have x1 : Below w.heap.size w (w.alloc (.cells #[.int .i64 x.f, .int .i64 x.t] 33)) := (Below.refl _ _).alloc (Nat.le_refl _) _
  have R1 : RawAt 33 (w.alloc (.cells #[.int .i64 x.f, .int .i64 x.t] 33)) w.heap.size #[.int .i64 x.f, .int .i64 x.t] := heap_alloc_new w _
  obtain ⟨W1, hW1⟩ : ∃ W1, W1 = (w.alloc (.cells #[.int .i64 x.f, .int .i64 x.t] 33)) := ⟨_, rfl⟩
  obtain ⟨b0, hb0⟩ : ∃ b0, b0 = w.heap.size := ⟨_, rfl⟩
  rw [← hW1] at x1 R1
  rw [← hb0] at R1
  have HX1 := Lib.hid x1
  have HR1 := Lib.hid R1
  have HW1 := Lib.hid hW1
  have HB0 := Lib.hid hb0
  have MK : Hid (∀ W : World, Below W1.heap.size W1 W → (fun W => W.cell? ⟨b0, 0, none⟩ = some (.int .i64 x.f) ∧ W.cell? ⟨b0, 1, none⟩ = some (.int .i64 x.t)) W) := Lib.hid fun W hW => ⟨RawAt.cell (RawAt.below HR1.out hW HR1.out.lt) 0, RawAt.cell (RawAt.below HR1.out hW HR1.out.lt) 1⟩
  have hW2 : Below W1.heap.size W1 W1.drew := (Below.refl _ _).drew
  clear x1 R1 hW1 hb0
  by_cases g : fsp x n
  · have k1 : decide (fsp x n) = true := decide_eq_true g
    rw [k1] at CSP
    rw [if_pos g]
    have HG := Lib.hid g
    clear g k1
    go_enter Try.func18, Try.ntmps18
    go_wp2_with fail
    rw [← HW1.out, ← HB0.out]
    refine wp_region_noPanic ?_
    refine wp_region_held_drew (S := (fun W => W.cell? ⟨b0, 0, none⟩ = some (.int .i64 x.f) ∧ W.cell? ⟨b0, 1, none⟩ = some (.int .i64 x.t))) (by kernel_rfl) (MK.out _ hW2) (fun hHeld => ?_)
    refine wpAnyH_take (i := 0) (v := ?_) rfl (by kernel_rfl) (by kernel_rfl) (by kernel_rfl) (fun _ _ _ h => h) (Or.inl ⟨by rfl, ?_⟩) hHeld ?_
    rotate_left
    · intro w hSw
      (try dsimp only at hSw)
      go_simp
      try with_reducible rfl
    go_simp
    refine wpAnyH_take (i := 1) (v := ?_) rfl (by kernel_rfl) (by kernel_rfl) (by kernel_rfl) (fun _ _ _ h => h) (Or.inl ⟨by rfl, ?_⟩) hHeld ?_
    rotate_left
    · intro w hSw
      (try dsimp only at hSw)
      go_simp
      try with_reducible rfl
    go_simp
    refine wpAnyH_ready (rs := [2]) (by kernel_rfl) (by simp) ?_
    refine AllReadyH.cons rfl (fun K hK => ?_) ?_
    rotate_left
    · exact AllReadyH.nil
    go_simp
    go_wp2_with (first | (go_at_call 34; (with_reducible refine (CL.out _ (HX1.out.trans (hW2.mono HX1.out.size))).mono ?_); rintro e w2 ⟨rfl, b2⟩; have hW2 := hW2.trans (b2.mono hW2.size)) | (go_at_call 35; (with_reducible refine (CSP.out _).mono ?_); rintro e w3 ⟨rfl, b3⟩; have hW2 := hW2.trans (b3.mono hW2.size)))
    refine hK.out _ _ (MK.out _ hW2) (fun hHeld => ?_)
    clear hK K
    go_simp
    refine wpAnyH_ready (rs := [3]) (by kernel_rfl) (by simp) ?_
    refine AllReadyH.cons rfl (fun K hK => ?_) ?_
    rotate_left
    · exact AllReadyH.nil
    go_simp
    go_wp2_with (first | (go_at_call 34; (with_reducible refine (CL.out _ (HX1.out.trans (hW2.mono HX1.out.size))).mono ?_); rintro e w2 ⟨rfl, b2⟩; have hW2 := hW2.trans (b2.mono hW2.size)) | (go_at_call 35; (with_reducible refine (CSP.out _).mono ?_); rintro e w3 ⟨rfl, b3⟩; have hW2 := hW2.trans (b3.mono hW2.size)))
    refine hK.out _ _ (MK.out _ hW2) (fun hHeld => ?_)
    clear hK K
    go_simp
    refine wpAnyH_take (i := 4) (v := ?_) rfl (by kernel_rfl) (by kernel_rfl) (by kernel_rfl) (fun _ _ _ h => h) (Or.inl ⟨by rfl, ?_⟩) hHeld ?_
    rotate_left
    · intro w hSw
      (try dsimp only at hSw)
      go_simp
      try with_reducible rfl
    go_simp
    refine wpAnyH_done (by kernel_rfl) ?_ _
    refine NoPanic.normal ?_
    have Q3 := Lib.hid (HX1.out.trans (hW2.mono HX1.out.size))
    have R3 := Lib.hid (HR1.out.below hW2 HR1.out.lt)
    have L3 := Lib.hid (Nat.lt_of_lt_of_le HR1.out.lt hW2.size)
    clear hW2 hHeld MK
    go_wp2_with fail
    with_reducible refine (CA.out _ Q3.out).mono ?_
    rintro e4 w4 ⟨v4, rfl, o4, b4⟩
    have R4 := Lib.hid (R3.out.below b4 R3.out.lt)
    have Q4 := Lib.hid (Q3.out.trans (b4.mono Q3.out.size))
    have HD := Lib.hid (fDel_gen x b0 v4 o.length _ o w4 o4 HO.out L3.out R4.out)
    have SZ := Lib.hid (Nat.le_trans Q3.out.size (Nat.le_refl _))
    clear b4 o4
    have hmf : ∀ (fn : Fn) (first cap : Array Value) (w : World), (Instr.makeFunc fn first cap).run Try.prog w = .ok (.func fn first cap) w := fun _ _ _ _ => rfl
    go_wp2_with fail
    with_reducible refine (HD.out).mono ?_
    rintro e5 w5 ⟨A5, i5, c5, rfl, o5, b5⟩
    have Q5 := Lib.hid (Q4.out.trans (b5.mono SZ.out))
    have I5 : Hid (i5 = (o.filter fun a => !fmeet x a).length) := Lib.hid (own_len encF_len (by omega) o5).symm
    have O5 := Lib.hid (own_baseF o5 (Nat.zero_le _))
    clear b5 o5 HD
    go_wp2_with fail
    with_reducible refine (CL.out _ Q5.out).mono ?_
    rintro e6 w6 ⟨rfl, b6⟩
    have q6 := Q5.out.trans (b6.mono Q5.out.size)
    have o6 := own_below O5.out b6
    have x6 : Below w6.heap.size w6 (w6.alloc (.cells #[.int .i64 n, .slice A5 i5 c5] 87)) := (Below.refl _ _).alloc (Nat.le_refl _) _
    have R6 : RawAt 87 (w6.alloc (.cells #[.int .i64 n, .slice A5 i5 c5] 87)) w6.heap.size #[.int .i64 n, .slice A5 i5 c5] := heap_alloc_new w6 _
    have S6 : Hid (FSet (w6.alloc (.cells #[.int .i64 n, .slice A5 i5 c5] 87)) w6.heap.size n (o.filter fun a => !fmeet x a)) := Lib.hid ⟨_, R6, by rw [← I5.out]; exact own_below o6 x6⟩
    have Q6 := Lib.hid (q6.alloc q6.size (.cells #[.int .i64 n, .slice A5 i5 c5] 87))
    clear b6 q6 o6 x6 R6
    go_wp2_with fail
    with_reducible refine (CK.out _ Q6.out).mono ?_
    rintro e7 w7 ⟨rfl, b7⟩
    have Q7 := Lib.hid (Q6.out.trans (b7.mono Q6.out.size))
    have S7 := Lib.hid (S6.out.below b7)
    clear b7
    have hwr : IntKind.i64.wrap ((o.length : Int) - (i5 : Int)) = (o.length : Int) - (i5 : Int) := by have := HO.out; have := I5.out; have := List.length_filter_le (fun a => !fmeet x a) o; exact IntWalk.i64_in _ (by omega)
    go_wp2
    refine bodyPost_ret (v := .tuple #[.pointer (some ⟨w6.heap.size, 0, none⟩), .int .i64 ((o.length : Int) - (i5 : Int)), .int .i64 0]) (by simp [results, Try.results18, go_sem]) rfl ⟨_, _, rfl, fun _ => ⟨by rw [I5.out], _, rfl, S7.out⟩, fun h => absurd HG.out h, Q7.out⟩
  · have k1 : decide (fsp x n) = false := decide_eq_false g
    rw [k1] at CSP
    rw [if_neg g]
    have HG := Lib.hid g
    clear g k1
    go_enter Try.func18, Try.ntmps18
    go_wp2_with fail
    rw [← HW1.out, ← HB0.out]
    refine wp_region_noPanic ?_
    refine wp_region_held_drew (S := (fun W => W.cell? ⟨b0, 0, none⟩ = some (.int .i64 x.f) ∧ W.cell? ⟨b0, 1, none⟩ = some (.int .i64 x.t))) (by kernel_rfl) (MK.out _ hW2) (fun hHeld => ?_)
    refine wpAnyH_take (i := 0) (v := ?_) rfl (by kernel_rfl) (by kernel_rfl) (by kernel_rfl) (fun _ _ _ h => h) (Or.inl ⟨by rfl, ?_⟩) hHeld ?_
    rotate_left
    · intro w hSw
      (try dsimp only at hSw)
      go_simp
      try with_reducible rfl
    go_simp
    refine wpAnyH_take (i := 1) (v := ?_) rfl (by kernel_rfl) (by kernel_rfl) (by kernel_rfl) (fun _ _ _ h => h) (Or.inl ⟨by rfl, ?_⟩) hHeld ?_
    rotate_left
    · intro w hSw
      (try dsimp only at hSw)
      go_simp
      try with_reducible rfl
    go_simp
    refine wpAnyH_ready (rs := [2]) (by kernel_rfl) (by simp) ?_
    refine AllReadyH.cons rfl (fun K hK => ?_) ?_
    rotate_left
    · exact AllReadyH.nil
    go_simp
    go_wp2_with (first | (go_at_call 34; (with_reducible refine (CL.out _ (HX1.out.trans (hW2.mono HX1.out.size))).mono ?_); rintro e w2 ⟨rfl, b2⟩; have hW2 := hW2.trans (b2.mono hW2.size)) | (go_at_call 35; (with_reducible refine (CSP.out _).mono ?_); rintro e w3 ⟨rfl, b3⟩; have hW2 := hW2.trans (b3.mono hW2.size)))
    refine hK.out _ _ (MK.out _ hW2) (fun hHeld => ?_)
    clear hK K
    go_simp
    refine wpAnyH_ready (rs := [3]) (by kernel_rfl) (by simp) ?_
    refine AllReadyH.cons rfl (fun K hK => ?_) ?_
    rotate_left
    · exact AllReadyH.nil
    go_simp
    go_wp2_with (first | (go_at_call 34; (with_reducible refine (CL.out _ (HX1.out.trans (hW2.mono HX1.out.size))).mono ?_); rintro e w2 ⟨rfl, b2⟩; have hW2 := hW2.trans (b2.mono hW2.size)) | (go_at_call 35; (with_reducible refine (CSP.out _).mono ?_); rintro e w3 ⟨rfl, b3⟩; have hW2 := hW2.trans (b3.mono hW2.size)))
    refine hK.out _ _ (MK.out _ hW2) (fun hHeld => ?_)
    clear hK K
    go_simp
    refine wpAnyH_take (i := 4) (v := ?_) rfl (by kernel_rfl) (by kernel_rfl) (by kernel_rfl) (fun _ _ _ h => h) (Or.inl ⟨by rfl, ?_⟩) hHeld ?_
    rotate_left
    · intro w hSw
      (try dsimp only at hSw)
      go_simp
      try with_reducible rfl
    go_simp
    refine wpAnyH_done (by kernel_rfl) ?_ _
    refine NoPanic.normal ?_
    have Q3 := Lib.hid (HX1.out.trans (hW2.mono HX1.out.size))
    clear hW2 hHeld MK
    go_wp2
    refine bodyPost_ret (v := .tuple #[.pointer none, .int .i64 0, .int .i64 1]) (by simp [results, Try.results18, go_sem]) rfl ⟨_, _, rfl, fun h => absurd h HG.out, fun _ => ⟨rfl, rfl⟩, Q3.out⟩
end Go.Proofs.Ytnfjleobcfhpnaa
