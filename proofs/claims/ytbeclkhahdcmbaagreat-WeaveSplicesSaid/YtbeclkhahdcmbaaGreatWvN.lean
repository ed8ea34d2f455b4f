/- Weaves: Update of any sets; of a span that does not fit; the document's Fits. -/
import Derived.Test.YtbeclkhahdcmbaaGreatWvV
namespace Go.Proofs.YtbeclkhahdcmbaaGreat
open Go.RowKit Go.Sort
set_option linter.unusedVariables false
theorem wvUpd_fit {p ps : Option Addr} {o o' : List In} {n n' f t t' : Int} {h : Nat} {w : World} (ht : WvAt w p (wvP 0 o n) h) (ho : wOSet n o) (ho' : wOSet n' o')
    (hLen : ∀ W, Below w.heap.size w W → Calls Tryz.prog 29 #[.pointer ps] W fun e w' => e = .returned (.int .i64 n') ∧ Below W.heap.size W w')
    (hIn : ∀ W, Below w.heap.size w W → Calls Tryz.prog 39 #[.pointer ps, .int .i64 f, .int .i64 t'] W fun e w' => ∃ v, e = .returned v ∧ w'.ownsRow W.heap.size 48 5 v (iwithin f t' o').length (kfl encI (iwithin f t' o')) ∧ Below W.heap.size W w')
    (h0 : 0 ≤ f) (hft : f ≤ t) (htn : t ≤ n) (hft' : f ≤ t') (htn' : t' ≤ n') (hd : n - t = n' - t') :
    Calls Tryz.prog 11 #[.pointer p, .agg #[.int .i64 f, .int .i64 t], .agg #[.int .i64 f, .int .i64 t'], .pointer ps] w fun e w' => ∃ a h' L, e = .returned (.tuple #[.pointer (some a), .int .i64 0]) ∧ WvAt w' (some a) L h' ∧ (WvTurn o o' f t t' → L = wvP 0 o' n') ∧ Below w.heap.size w w' := by
  obtain ⟨A, hA⟩ : ∃ A, A = o.filter fun a => decide (a.pl < f) := ⟨_, rfl⟩
  obtain ⟨B, hB⟩ : ∃ B, B = iwithin f t o := ⟨_, rfl⟩
  obtain ⟨C, hC⟩ : ∃ C, C = o.filter fun a => decide (t < a.pl) := ⟨_, rfl⟩
  obtain ⟨B', hB'⟩ : ∃ B', B' = iwithin f t' o' := ⟨_, rfl⟩
  have e1 : o = A ++ B ++ C := by rw [hA, hB, hC]; exact wpls_part ho.pls f t hft
  have e2 : WvTurn o o' f t t' → o' = A ++ B' ++ wsh (t' - t) C := fun hturn => by rw [hA, hB', hC, hturn.lo, hturn.hi]; exact wpls_part ho'.pls f t' hft'
  have mA : ∀ a ∈ A, 0 ≤ a.pl ∧ a.pl < f := fun a ha => by
    rw [hA] at ha
    obtain ⟨h1, h2⟩ := List.mem_filter.1 ha
    exact ⟨(wiwr_ok (ho.each a h1).1).2.1, of_decide_eq_true h2⟩
  have mB : ∀ a ∈ B, f ≤ a.pl ∧ a.pl ≤ t := fun a ha => by
    rw [hB] at ha
    exact of_decide_eq_true (List.mem_filter.1 ha).2
  have mC : ∀ a ∈ C, t < a.pl ∧ a.pl ≤ n := fun a ha => by
    rw [hC] at ha
    obtain ⟨h1, h2⟩ := List.mem_filter.1 ha
    exact ⟨of_decide_eq_true h2, (wiwr_ok (ho.each a h1).1).2.2.1⟩
  have sAB : wPlS (A ++ B) := by
    have := ho.pls
    rw [e1] at this
    exact (List.pairwise_append.1 this).1
  have sA : wPlS A := (List.pairwise_append.1 sAB).1
  have mB' : ∀ a ∈ B', a ∈ o' := fun a ha => by rw [hB'] at ha; exact (List.mem_filter.1 ha).1
  have hX : ∀ a ∈ A ++ B, 0 ≤ a.pl ∧ a.pl ≤ t := fun a ha => by
    rcases List.mem_append.1 ha with ha | ha
    · have := mA a ha; omega
    · have := mB a ha; omega
  have hmain := wv_update (B' := B') (d := t' - t) mA sA mB sAB mC h0 hft htn
  obtain ⟨g1, g2, g3⟩ := wfnd_left (A := A) (Y := B ++ C) (n := n) (p := f) mA sA (fun a ha => by
    rcases List.mem_append.1 ha with ha | ha
    · exact (mB a ha).1
    · have := (mC a ha).1; omega) h0 (by omega)
  rw [← List.append_assoc] at g1 g2 g3
  obtain ⟨r1, r2⟩ := wfnd_right (X := A ++ B) (C := C) (n := n) (t := t) hX sAB mC (by omega) htn
  have hge := wfnd_right_ge (X := A ++ B) (C := C) (n := n) hX sAB
  have hlq : (wvQ 0 A).length ≤ (wvQ 0 (A ++ B)).length := by rw [wvQ_append, List.length_append]; omega
  have hlL := wlast_ge A 0 (fun a ha => (mA a ha).1) sA
  have hlU := wlast_le A 0 f h0 (fun a ha => by have := mA a ha; omega)
  have hwf : t ≤ wfst C n ∧ wfst C n ≤ n := by
    cases C with
    | nil => exact ⟨htn, Int.le_refl _⟩
    | cons c C => have := mC c (by simp); exact ⟨by show t ≤ c.pl; omega, this.2⟩
  obtain ⟨s1, s2, s3⟩ := wsp_len o 0 n ho.wv
  have hn1 := ho.n1
  have hn1' := ho'.n1
  have hol := ho.len
  have hol' := ho'.len
  have hBl : B'.length ≤ 60 := by rw [hB']; exact Nat.le_trans (iwithin_len _ _ _) hol'
  have hpl := wvP_len 0 o n
  have hle1 := wfnd_le 0 (wvP 0 o n) f 0
  rw [e1] at ht hpl hle1
  rw [show n + (t' - t) = n' from by omega] at hmain
  have e3 : t + (t' - t) = t' := by omega
  rw [e3] at hmain
  have := wvUpd_yes (B := B') ht f t t' n' hLen (by rw [hB']; exact hIn) h0 hft (by rw [← e1, s3]; omega) hft' htn' (by rw [← e1, s3]; omega) hn1' (by rw [← e1, s3]; omega) (by omega)
    (fun a ha => by
      have hm := mB' a ha
      have q := wiwr_ok (ho'.each a hm).1
      exact ⟨by omega, Nat.le_trans (ho'.each a hm).2 (by omega)⟩) (by rw [← e1] at hpl ⊢; omega)
    (by rw [g1] at hle1 ⊢; omega)
    (by
      rw [g1, g2, r1]
      refine wvP_ok (fun a ha => ?_) hlL (by omega) (by omega)
      have hm := mB' a ha
      have q := wiwr_ok (ho'.each a hm).1
      exact ⟨by omega, by omega, Nat.le_trans (dec_len a.tx) (Nat.le_trans (ho'.each a hm).2 (by omega))⟩)
    (by rw [g1, g2]; omega) (by rw [r1]; omega)
  refine this.mono ?_
  rintro e w' ⟨a, h', he, hw, hb⟩
  refine ⟨a, h', _, he, hw, fun hturn => ?_, hb⟩
  rw [hmain, ← e2 hturn]
set_option maxHeartbeats 8000000 in
set_option maxRecDepth 100000 in
/-- Update, asked with a span that does not fit. -/
theorem wvUpd_no {p : Option Addr} {l : List I7} {h : Nat} {w : World} (ht : WvAt w p l h) (f t : Int) (sp : Value) (hno : ¬ (0 ≤ f ∧ f ≤ t ∧ t ≤ wdsum 0 l)) :
    Calls Tryz.prog 11 #[.pointer p, .agg #[.int .i64 f, .int .i64 t], .agg #[.int .i64 f, .int .i64 t], sp] w fun e w' => e = .returned (.tuple #[.pointer none, .int .i64 1]) ∧ Below w.heap.size w w' := by
  have CZ := Lib.hid fun (W : World) (hW : Below w.heap.size w W) => wvSizes (ht.below hW)
  have CSP := Lib.hid fun (W : World) => wvSpans_any f t (wdsum 0 l) W false ⟨fun h => absurd h (by simp), fun h => absurd h hno⟩
  clear hno ht
  generalize wdsum 0 l = n at *
  generalize wdsum 1 l = n1 at *
  obtain ⟨W1, hW1⟩ : ∃ W1, W1 = (w.alloc (.cells #[.int .i64 f, .int .i64 t] 38)).alloc (.cells #[.int .i64 f, .int .i64 t] 38) := ⟨_, rfl⟩
  have x1 : Below w.heap.size w W1 := by rw [hW1]; exact ((Below.refl _ _).alloc (Nat.le_refl _) _).alloc (by simp) _
  obtain ⟨r5, r6, _, _⟩ := new2 w 38 38 #[.int .i64 f, .int .i64 t] #[.int .i64 f, .int .i64 t]
  rw [← hW1] at r5 r6
  have HW1 := Lib.hid hW1
  have X1 := Lib.hid x1
  have HR5 := Lib.hid r5
  have HR6 := Lib.hid r6
  clear hW1 x1 r5 r6
  go_enter Tryz.func11, Tryz.ntmps11
  go_wp2_with fail
  rw [← HW1.out]
  with_reducible refine (CZ.out _ X1.out).mono ?_
  rintro e w2 ⟨rfl, b2⟩
  have HB2 := Lib.hid (X1.out.trans (b2.mono X1.out.size))
  have Ro := RawAt.below HR5.out b2 HR5.out.lt
  have Rn := RawAt.below HR6.out b2 HR6.out.lt
  clear b2 HR5 HR6 X1 HW1 CZ
  go_upto_region 2 with fail
  have hW2 : Below w2.heap.size w2 w2.drew := (Below.refl _ _).drew
  have MK : Hid (∀ V : World, Below w2.heap.size w2 V → (fun V => V.cell? ⟨w.heap.size, 0, none⟩ = some (.int .i64 f) ∧ V.cell? ⟨w.heap.size, 1, none⟩ = some (.int .i64 t)) V) := Lib.hid fun V hV => by
    have a1 := RawAt.below Ro hV Ro.lt
    exact ⟨RawAt.cell a1 0, RawAt.cell a1 1⟩
  refine wp_region_noPanic ?_
  refine wp_region_held_drew (S := (fun V => V.cell? ⟨w.heap.size, 0, none⟩ = some (.int .i64 f) ∧ V.cell? ⟨w.heap.size, 1, none⟩ = some (.int .i64 t))) (by kernel_rfl) (MK.out _ hW2) (fun hHeld => ?_)
  refine wpAnyH_take (i := 0) (v := ?_) rfl (by kernel_rfl) (by kernel_rfl) (by kernel_rfl) (fun _ _ _ h => h) (Or.inl ⟨by rfl, ?_⟩) hHeld ?_
  rotate_left
  · intro w hSw
    (try dsimp only at hSw)
    go_simp
    try with_reducible rfl
  go_simp
  refine wpAnyH_take (i := 1) (v := ?_) rfl (by kernel_rfl) (by kernel_rfl) (by kernel_rfl) (fun _ _ _ h => h) (Or.inl ⟨by rfl, ?_⟩) hHeld ?_
  rotate_left
  · intro w hSw
    (try dsimp only at hSw)
    go_simp
    try with_reducible rfl
  go_simp
  refine wpAnyH_ready (rs := [2]) (by kernel_rfl) (by simp) ?_
  refine AllReadyH.cons rfl (fun K hK => ?_) ?_
  rotate_left
  · exact AllReadyH.nil
  go_simp
  go_wp2_with (first | (go_at_call 35; ((with_reducible refine (CSP.out _).mono ?_); rintro e wa ⟨rfl, ba⟩; have hW2 := hW2.trans (ba.mono hW2.size))))
  refine hK.out _ _ (by with_reducible exact MK.out _ hW2) (fun hHeld => ?_)
  clear hK K
  go_simp
  refine wpAnyH_take (i := 3) (v := ?_) rfl (by kernel_rfl) (by kernel_rfl) (by kernel_rfl) (fun _ _ _ h => h) (Or.inl ⟨by rfl, ?_⟩) hHeld ?_
  rotate_left
  · intro w hSw
    (try dsimp only at hSw)
    go_simp
    try with_reducible rfl
  go_simp
  refine wpAnyH_take (i := 4) (v := ?_) rfl (by kernel_rfl) (by kernel_rfl) (by kernel_rfl) (fun _ _ _ h => h) (Or.inl ⟨by rfl, ?_⟩) hHeld ?_
  rotate_left
  · intro w hSw
    (try dsimp only at hSw)
    go_simp
    try with_reducible rfl
  go_simp
  refine wpAnyH_take (i := 5) (v := undef) rfl (by kernel_rfl) (by kernel_rfl) (by kernel_rfl) (fun _ _ _ h => h) (Or.inr ⟨by rfl, rfl⟩) hHeld ?_
  go_simp
  refine wpAnyH_take (i := 6) (v := undef) rfl (by kernel_rfl) (by kernel_rfl) (by kernel_rfl) (fun _ _ _ h => h) (Or.inr ⟨by rfl, rfl⟩) hHeld ?_
  go_simp
  refine wpAnyH_take (i := 7) (v := undef) rfl (by kernel_rfl) (by kernel_rfl) (by kernel_rfl) (fun _ _ _ h => h) (Or.inr ⟨by rfl, rfl⟩) hHeld ?_
  go_simp
  refine wpAnyH_take (i := 8) (v := undef) rfl (by kernel_rfl) (by kernel_rfl) (by kernel_rfl) (fun _ _ _ h => h) (Or.inr ⟨by rfl, rfl⟩) hHeld ?_
  go_simp
  refine wpAnyH_take (i := 9) (v := undef) rfl (by kernel_rfl) (by kernel_rfl) (by kernel_rfl) (fun _ _ _ h => h) (Or.inr ⟨by rfl, rfl⟩) hHeld ?_
  go_simp
  refine wpAnyH_take (i := 10) (v := ?_) rfl (by kernel_rfl) (by kernel_rfl) (by kernel_rfl) (fun _ _ _ h => h) (Or.inl ⟨by rfl, ?_⟩) hHeld ?_
  rotate_left
  · intro w hSw
    (try dsimp only at hSw)
    go_simp
    try with_reducible rfl
  go_simp
  refine wpAnyH_take (i := 11) (v := ?_) rfl (by kernel_rfl) (by kernel_rfl) (by kernel_rfl) (fun _ _ _ h => h) (Or.inl ⟨by rfl, ?_⟩) hHeld ?_
  rotate_left
  · intro w hSw
    (try dsimp only at hSw)
    go_simp
    try with_reducible rfl
  go_simp
  refine wpAnyH_take (i := 12) (v := undef) rfl (by kernel_rfl) (by kernel_rfl) (by kernel_rfl) (fun _ _ _ h => h) (Or.inr ⟨by rfl, rfl⟩) hHeld ?_
  go_simp
  refine wpAnyH_take (i := 13) (v := undef) rfl (by kernel_rfl) (by kernel_rfl) (by kernel_rfl) (fun _ _ _ h => h) (Or.inr ⟨by rfl, rfl⟩) hHeld ?_
  go_simp
  refine wpAnyH_take (i := 14) (v := undef) rfl (by kernel_rfl) (by kernel_rfl) (by kernel_rfl) (fun _ _ _ h => h) (Or.inr ⟨by rfl, rfl⟩) hHeld ?_
  go_simp
  refine wpAnyH_take (i := 15) (v := undef) rfl (by kernel_rfl) (by kernel_rfl) (by kernel_rfl) (fun _ _ _ h => h) (Or.inr ⟨by rfl, rfl⟩) hHeld ?_
  go_simp
  refine wpAnyH_take (i := 16) (v := undef) rfl (by kernel_rfl) (by kernel_rfl) (by kernel_rfl) (fun _ _ _ h => h) (Or.inr ⟨by rfl, rfl⟩) hHeld ?_
  go_simp
  refine wpAnyH_take (i := 17) (v := ?_) rfl (by kernel_rfl) (by kernel_rfl) (by kernel_rfl) (fun _ _ _ h => h) (Or.inl ⟨by rfl, ?_⟩) hHeld ?_
  rotate_left
  · intro w hSw
    (try dsimp only at hSw)
    go_simp
    try with_reducible rfl
  go_simp
  refine wpAnyH_take (i := 18) (v := ?_) rfl (by kernel_rfl) (by kernel_rfl) (by kernel_rfl) (fun _ _ _ h => h) (Or.inl ⟨by rfl, ?_⟩) hHeld ?_
  rotate_left
  · intro w hSw
    (try dsimp only at hSw)
    go_simp
    try with_reducible rfl
  go_simp
  refine wpAnyH_take (i := 19) (v := undef) rfl (by kernel_rfl) (by kernel_rfl) (by kernel_rfl) (fun _ _ _ h => h) (Or.inr ⟨by rfl, rfl⟩) hHeld ?_
  go_simp
  refine wpAnyH_take (i := 20) (v := undef) rfl (by kernel_rfl) (by kernel_rfl) (by kernel_rfl) (fun _ _ _ h => h) (Or.inr ⟨by rfl, rfl⟩) hHeld ?_
  go_simp
  refine wpAnyH_take (i := 21) (v := undef) rfl (by kernel_rfl) (by kernel_rfl) (by kernel_rfl) (fun _ _ _ h => h) (Or.inr ⟨by rfl, rfl⟩) hHeld ?_
  go_simp
  refine wpAnyH_take (i := 22) (v := undef) rfl (by kernel_rfl) (by kernel_rfl) (by kernel_rfl) (fun _ _ _ h => h) (Or.inr ⟨by rfl, rfl⟩) hHeld ?_
  go_simp
  refine wpAnyH_take (i := 23) (v := undef) rfl (by kernel_rfl) (by kernel_rfl) (by kernel_rfl) (fun _ _ _ h => h) (Or.inr ⟨by rfl, rfl⟩) hHeld ?_
  go_simp
  refine wpAnyH_take (i := 24) (v := undef) rfl (by kernel_rfl) (by kernel_rfl) (by kernel_rfl) (fun _ _ _ h => h) (Or.inr ⟨by rfl, rfl⟩) hHeld ?_
  go_simp
  refine wpAnyH_take (i := 25) (v := undef) rfl (by kernel_rfl) (by kernel_rfl) (by kernel_rfl) (fun _ _ _ h => h) (Or.inr ⟨by rfl, rfl⟩) hHeld ?_
  go_simp
  refine wpAnyH_take (i := 26) (v := undef) rfl (by kernel_rfl) (by kernel_rfl) (by kernel_rfl) (fun _ _ _ h => h) (Or.inr ⟨by rfl, rfl⟩) hHeld ?_
  go_simp
  refine wpAnyH_take (i := 27) (v := undef) rfl (by kernel_rfl) (by kernel_rfl) (by kernel_rfl) (fun _ _ _ h => h) (Or.inr ⟨by rfl, rfl⟩) hHeld ?_
  go_simp
  refine wpAnyH_take (i := 28) (v := undef) rfl (by kernel_rfl) (by kernel_rfl) (by kernel_rfl) (fun _ _ _ h => h) (Or.inr ⟨by rfl, rfl⟩) hHeld ?_
  go_simp
  refine wpAnyH_take (i := 29) (v := ?_) rfl (by kernel_rfl) (by kernel_rfl) (by kernel_rfl) (fun _ _ _ h => h) (Or.inl ⟨by rfl, ?_⟩) hHeld ?_
  rotate_left
  · intro w hSw
    (try dsimp only at hSw)
    go_simp
    try with_reducible rfl
  go_simp
  refine wpAnyH_done (by kernel_rfl) ?_ _
  refine NoPanic.normal ?_
  go_wp2
  refine bodyPost_ret (v := .tuple #[.pointer none, .int .i64 1]) (by simp [results, Tryz.results11, go_sem]) rfl ⟨rfl, HB2.out.trans (hW2.mono HB2.out.size)⟩
set_option maxHeartbeats 8000000 in
set_option maxRecDepth 100000 in
/-- The document's: whether a span fits twice. -/
theorem fits14_any (n f t : Int) (w : World) (hn : 0 ≤ n ∧ n ≤ 1000) (r : Bool) (hr : r = true ↔ 0 ≤ f ∧ f ≤ t ∧ t ≤ n) : Calls Tryz.prog 12 #[.int .i64 n, .int .i64 n, .agg #[.int .i64 f, .int .i64 t, .int .i64 f, .int .i64 t]] w fun e w' => e = .returned (.bool r) ∧ Below w.heap.size w w' := by
  have HF := Lib.hid hr; clear hr
  have hT : (0 ≤ f ∧ f ≤ t ∧ t ≤ n) → r = true := fun h => HF.out.2 h
  have hN : ¬ (0 ≤ f ∧ f ≤ t ∧ t ≤ n) → r = false := fun h => by cases r; rfl; exact absurd (HF.out.1 rfl) h
  clear HF
  obtain ⟨hn0, hn1⟩ := hn
  by_cases g1 : 0 ≤ f
  · have k1 : decide (0 ≤ f) = true := decide_eq_true g1
    by_cases g2 : f ≤ t
    · have k2 : decide (f ≤ t) = true := decide_eq_true g2
      by_cases g3 : t ≤ n
      · have k3 : decide (t ≤ n) = true := decide_eq_true g3
        obtain rfl := hT ⟨g1, g2, g3⟩
        have w1 : IntKind.i64.wrap (n - t) = n - t := IntWalk.i64_in _ (by omega)
        clear hT hN
        go_enter Tryz.func12, Tryz.ntmps12
        go_wp2
        go_ret
        exact ⟨by simp, ((((Below.refl _ _).alloc (Nat.le_refl _) _).alloc (by simp) _).alloc (by simp; omega) _)⟩
      · have k3 : decide (t ≤ n) = false := decide_eq_false g3
        obtain rfl := hN (fun h => g3 h.2.2)
        clear hT hN
        go_enter Tryz.func12, Tryz.ntmps12
        go_wp2
        go_ret
        exact ⟨by simp, ((((Below.refl _ _).alloc (Nat.le_refl _) _).alloc (by simp) _).alloc (by simp; omega) _)⟩
    · have k2 : decide (f ≤ t) = false := decide_eq_false g2
      obtain rfl := hN (fun h => g2 h.2.1)
      clear hT hN
      go_enter Tryz.func12, Tryz.ntmps12
      go_wp2
      go_ret
      exact ⟨by simp, ((((Below.refl _ _).alloc (Nat.le_refl _) _).alloc (by simp) _).alloc (by simp; omega) _)⟩
  · have k1 : decide (0 ≤ f) = false := decide_eq_false g1
    obtain rfl := hN (fun h => g1 h.1)
    clear hT hN
    go_enter Tryz.func12, Tryz.ntmps12
    go_wp2
    go_ret
    exact ⟨by simp, ((((Below.refl _ _).alloc (Nat.le_refl _) _).alloc (by simp) _).alloc (by simp; omega) _)⟩
end Go.Proofs.YtbeclkhahdcmbaaGreat
