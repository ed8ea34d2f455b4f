/- Inlays: the law InlaysNew, walked. -/
import Derived.Test.YtbmfedldnjnlcaaInQ
import Derived.Test.YtbmfedldnjnlcaaInO
import Derived.Test.YtbmfedldnjnlcaaInE
namespace Go.Proofs.Ytbmfedldnjnlcaa
open Go.RowKit Go.Sort
set_option linter.unusedVariables false
set_option maxHeartbeats 16000000 in
set_option maxRecDepth 100000 in
theorem inlaysNew_walk (n : Int) (A : Option Addr) (m c : Nat) (l : List In) (st : SpV) (w : World) (_wf : (Lit.int .i64 n).wf = true) (hI : RowsAt encI 5 w A l) (hl : l.length = m) (hn : m ≤ maxLen) (hc : Caps A m c) (hO : ∀ s ∈ l, InOk s) (_hS : SpOk st) :
    Calls Try.prog 3 #[.int .i64 n, .slice A m c, .agg #[.int .i64 st.f, .int .i64 st.t]] w fun e w' => e = .returned (.bool true) ∧ Below w.heap.size w w' := by
  have C3 := Lib.hid fun W => iThree_any W
  have x1 : Below w.heap.size w (w.alloc (.cells #[.int .i64 st.f, .int .i64 st.t] 24)) := (Below.refl _ _).alloc (Nat.le_refl _) _
  have r1 : RawAt 24 (w.alloc (.cells #[.int .i64 st.f, .int .i64 st.t] 24)) w.heap.size #[.int .i64 st.f, .int .i64 st.t] := heap_alloc_new w _
  obtain ⟨W1, hW1⟩ : ∃ W1, W1 = w.alloc (.cells #[.int .i64 st.f, .int .i64 st.t] 24) := ⟨_, rfl⟩
  rw [← hW1] at x1 r1
  have HW1 := Lib.hid hW1
  have X1 := Lib.hid x1
  have HR1 := Lib.hid r1
  have HI := Lib.hid hI
  have HL := Lib.hid hl
  have CLO := Lib.hid fun (b : Bool) (hb : b = true ↔ ¬ ShortI l) => long13_any A m c l b W1 (hI.below x1) hl hn (fun x hx => (hO x hx).2.2.2.2) hb
  clear hW1 x1 r1
  by_cases g : ShortI l
  · have CLF := Lib.hid (CLO.out false ⟨fun h => absurd h (by simp), fun h => absurd g h⟩)
    have hm : m ≤ 100 := by rw [← hl]; exact g.1
    have ht : ∀ x ∈ l, x.tx.size ≤ 100000000 := fun x hx => Nat.le_trans (g.2 x hx) (by omega)
    obtain ⟨r, hr⟩ : ∃ r, r = iwrong n l := ⟨_, rfl⟩
    have CN := Lib.hid fun (W : World) (hW : Below w.heap.size w W) => iNew_any n A m c l W (hI.below hW) hc hl (fun a ha => (hO a ha).1) ht r hr.symm
    have CR := Lib.hid fun (W : World) (hW : Below w.heap.size w W) => rNew13_any n A m c l W (hI.below hW) hc hl ht r hr.symm
    have hol : (ord ilt (l.map icl)).length = m := by rw [(ord_perm ilt ilt_swo _).length_eq, List.length_map]; exact hl
    have HOL := Lib.hid hol
    clear CLO hr hI hl hol ht hO hc
    generalize ho : ord ilt (l.map icl) = o at *
    have HO := Lib.hid ho
    clear ho
    by_cases hz : r = 0
    · subst hz
      go_enter Try.func3, Try.ntmps3
      go_wp2_with fail
      rw [← HW1.out]
      with_reducible refine (CLF.out).mono ?_
      rintro e w2 ⟨rfl, b2⟩
      have HB2 := Lib.hid b2
      have HQ2 := Lib.hid (X1.out.trans (b2.mono X1.out.size))
      clear b2
      go_wp2_with fail
      with_reducible refine (CN.out _ HQ2.out).mono ?_
      rintro e w3 ⟨p, rfl, hp1, hp2, b3⟩
      obtain ⟨sb, rfl, hs⟩ := hp2 (by first | exact trivial | rfl)
      have HB3 := Lib.hid b3
      have HS := Lib.hid hs
      have HQ3 := Lib.hid (HQ2.out.trans (b3.mono HQ2.out.size))
      clear b3 hp1 hp2 hs
      go_wp2_with fail
      with_reducible refine (CR.out _ HQ3.out).mono ?_
      rintro e w4 ⟨nn, A2, m2, c2, rfl, hres, b4⟩
      obtain ⟨h1, h2, hR⟩ := hres (by first | exact trivial | rfl)
      rw [HL.out] at h2
      rw [HO.out] at hR
      have h1 := h1.symm
      subst h1
      have h2 := h2.symm
      subst h2
      have HQ4 := Lib.hid (HQ3.out.trans (b4.mono HQ3.out.size))
      have x5 : Below w4.heap.size w4 (w4.alloc (.cells #[.int .i64 n, .slice A2 m c2, .int .i64 0] 32)) := (Below.refl _ _).alloc (Nat.le_refl _) _
      have r5 : RawAt 32 (w4.alloc (.cells #[.int .i64 n, .slice A2 m c2, .int .i64 0] 32)) w4.heap.size #[.int .i64 n, .slice A2 m c2, .int .i64 0] := heap_alloc_new w4 _
      have HQ5 := Lib.hid (HQ4.out.trans (x5.mono HQ4.out.size))
      have HRS := Lib.hid (hR.below x5)
      have HS5 := Lib.hid ((HS.out.below b4).below x5)
      have HB5 := Lib.hid ((((HB2.out.trans (HB3.out.mono HB2.out.size)).trans (b4.mono (Nat.le_trans HB2.out.size HB3.out.size)))).trans (x5.mono (Nat.le_trans (Nat.le_trans HB2.out.size HB3.out.size) b4.size)))
      obtain ⟨W5, hW5⟩ : ∃ W5, W5 = w4.alloc (.cells #[.int .i64 n, .slice A2 m c2, .int .i64 0] 32) := ⟨_, rfl⟩
      rw [← hW5] at HQ5 HRS HS5 HB5 r5
      have HW5 := Lib.hid hW5
      have HZ5 := Lib.hid r5
      clear b4 hR x5 hW5 r5 hres HS HB2 HB3
      go_wp2_with fail
      rw [← HW5.out]
      with_reducible refine (is13_set HS5.out (by rw [HOL.out]; omega) A2 m c2 HRS.out HOL.out).mono ?_
      rintro e w6 ⟨rfl, b6⟩
      have HQ6 := Lib.hid (HQ5.out.trans (b6.mono HQ5.out.size))
      have HS6 := HS5.out.below b6
      have HR6 := HRS.out.below b6
      have HP6 := Lib.hid (RawAt.below HR1.out (HB5.out.trans (b6.mono HB5.out.size)) HR1.out.lt)
      have HZ6 := Lib.hid (RawAt.below HZ5.out b6 HZ5.out.lt)
      obtain ⟨L, hLL⟩ : ∃ L, L = iwithin st.f st.t o := ⟨_, rfl⟩
      obtain ⟨lw, hlw⟩ : ∃ k, L.length = k := ⟨_, rfl⟩
      have HLW := Lib.hid hlw
      have hlw2 : lw ≤ 100 := by rw [← hlw, hLL]; exact Nat.le_trans (iwithin_len _ _ _) (by rw [HOL.out]; exact hm)
      have CWI := Lib.hid fun (W : World) (hW : Below w6.heap.size w6 W) => iWithin_any (HS6.below hW) (by rw [HOL.out]; omega) st.f st.t
      have CRW := Lib.hid fun (W : World) (hW : Below w6.heap.size w6 W) => rWithin13_any st.f st.t A2 m c2 n 0 (HR6.below hW) HOL.out.symm (by rw [HOL.out]; omega)
      rw [← hLL, hlw] at CWI CRW
      generalize hbz : w4.heap.size = bZ at *
      have MK : Hid (∀ W : World, Below w6.heap.size w6 W → W.cell? ⟨w.heap.size, 0, none⟩ = some (.int .i64 st.f) ∧ W.cell? ⟨w.heap.size, 1, none⟩ = some (.int .i64 st.t) ∧ W.cell? ⟨bZ, 0, none⟩ = some (.int .i64 n) ∧ W.cell? ⟨bZ, 1, none⟩ = some (.slice A2 m c2) ∧ W.cell? ⟨bZ, 2, none⟩ = some (.int .i64 0)) := Lib.hid fun W hW => by
        have q := RawAt.below HP6.out hW HP6.out.lt
        have p := RawAt.below HZ6.out hW HZ6.out.lt
        have e0 := RawAt.cell q 0
        have e1 := RawAt.cell q 1
        have g0 := RawAt.cell p 0
        have g1 := RawAt.cell p 1
        have g2 := RawAt.cell p 2
        simp at e0 e1 g0 g1 g2
        exact ⟨e0, e1, g0, g1, g2⟩
      have hW2 : Below w6.heap.size w6 w6.drew := (Below.refl _ _).drew
      clear b6 HS6 HR6 HS5 HRS HW5 HQ5 HB5 HZ5 hlw hLL hbz
      go_wp2_with fail
      refine wp_region_noPanic ?_
      refine wp_region_held_drew (S := (fun W => W.cell? ⟨w.heap.size, 0, none⟩ = some (.int .i64 st.f) ∧ W.cell? ⟨w.heap.size, 1, none⟩ = some (.int .i64 st.t) ∧ W.cell? ⟨bZ, 0, none⟩ = some (.int .i64 n) ∧ W.cell? ⟨bZ, 1, none⟩ = some (.slice A2 m c2) ∧ W.cell? ⟨bZ, 2, none⟩ = some (.int .i64 0))) (by kernel_rfl) (MK.out _ hW2) (fun hHeld => ?_)
      refine wpAnyH_take (i := 0) (v := ?_) rfl (by kernel_rfl) (by kernel_rfl) (by kernel_rfl) (fun _ _ _ h => h) (Or.inl ⟨by rfl, ?_⟩) hHeld ?_
      rotate_left
      · intro w hSw
        (try dsimp only at hSw)
        go_simp
        try with_reducible rfl
      go_simp
      refine wpAnyH_take (i := 1) (v := ?_) rfl (by kernel_rfl) (by kernel_rfl) (by kernel_rfl) (fun _ _ _ h => h) (Or.inl ⟨by rfl, ?_⟩) hHeld ?_
      rotate_left
      · intro w hSw
        (try dsimp only at hSw)
        go_simp
        try with_reducible rfl
      go_simp
      refine wpAnyH_take (i := 2) (v := ?_) rfl (by kernel_rfl) (by kernel_rfl) (by kernel_rfl) (fun _ _ _ h => h) (Or.inl ⟨by rfl, ?_⟩) hHeld ?_
      rotate_left
      · intro w hSw
        (try dsimp only at hSw)
        go_simp
        try with_reducible rfl
      go_simp
      refine wpAnyH_take (i := 3) (v := ?_) rfl (by kernel_rfl) (by kernel_rfl) (by kernel_rfl) (fun _ _ _ h => h) (Or.inl ⟨by rfl, ?_⟩) hHeld ?_
      rotate_left
      · intro w hSw
        (try dsimp only at hSw)
        go_simp
        try with_reducible rfl
      go_simp
      refine wpAnyH_take (i := 4) (v := ?_) rfl (by kernel_rfl) (by kernel_rfl) (by kernel_rfl) (fun _ _ _ h => h) (Or.inl ⟨by rfl, ?_⟩) hHeld ?_
      rotate_left
      · intro w hSw
        (try dsimp only at hSw)
        go_simp
        try with_reducible rfl
      go_simp
      refine wpAnyH_take (i := 5) (v := ?_) rfl (by kernel_rfl) (by kernel_rfl) (by kernel_rfl) (fun _ _ _ h => h) (Or.inl ⟨by rfl, ?_⟩) hHeld ?_
      rotate_left
      · intro w hSw
        (try dsimp only at hSw)
        go_simp
        try with_reducible rfl
      go_simp
      refine wpAnyH_take (i := 6) (v := ?_) rfl (by kernel_rfl) (by kernel_rfl) (by kernel_rfl) (fun _ _ _ h => h) (Or.inl ⟨by rfl, ?_⟩) hHeld ?_
      rotate_left
      · intro w hSw
        (try dsimp only at hSw)
        go_simp
        try with_reducible rfl
      go_simp
      refine wpAnyH_take (i := 7) (v := ?_) rfl (by kernel_rfl) (by kernel_rfl) (by kernel_rfl) (fun _ _ _ h => h) (Or.inl ⟨by rfl, ?_⟩) hHeld ?_
      rotate_left
      · intro w hSw
        (try dsimp only at hSw)
        go_simp
        try with_reducible rfl
      go_simp
      refine wpAnyH_take (i := 9) (v := ?_) rfl (by kernel_rfl) (by kernel_rfl) (by kernel_rfl) (fun _ _ _ h => h) (Or.inl ⟨by rfl, ?_⟩) hHeld ?_
      rotate_left
      · intro w hSw
        (try dsimp only at hSw)
        go_simp
        try with_reducible rfl
      go_simp
      refine wpAnyH_take (i := 10) (v := ?_) rfl (by kernel_rfl) (by kernel_rfl) (by kernel_rfl) (fun _ _ _ h => h) (Or.inl ⟨by rfl, ?_⟩) hHeld ?_
      rotate_left
      · intro w hSw
        (try dsimp only at hSw)
        go_simp
        try with_reducible rfl
      go_simp
      refine wpAnyH_take (i := 11) (v := ?_) rfl (by kernel_rfl) (by kernel_rfl) (by kernel_rfl) (fun _ _ _ h => h) (Or.inl ⟨by rfl, ?_⟩) hHeld ?_
      rotate_left
      · intro w hSw
        (try dsimp only at hSw)
        go_simp
        try with_reducible rfl
      go_simp
      refine wpAnyH_take (i := 12) (v := ?_) rfl (by kernel_rfl) (by kernel_rfl) (by kernel_rfl) (fun _ _ _ h => h) (Or.inl ⟨by rfl, ?_⟩) hHeld ?_
      rotate_left
      · intro w hSw
        (try dsimp only at hSw)
        go_simp
        try with_reducible rfl
      go_simp
      refine wpAnyH_take (i := 13) (v := ?_) rfl (by kernel_rfl) (by kernel_rfl) (by kernel_rfl) (fun _ _ _ h => h) (Or.inl ⟨by rfl, ?_⟩) hHeld ?_
      rotate_left
      · intro w hSw
        (try dsimp only at hSw)
        go_simp
        try with_reducible rfl
      go_simp
      refine wpAnyH_ready (rs := [8]) (by kernel_rfl) (by simp) ?_
      refine AllReadyH.cons rfl (fun K hK => ?_) ?_
      rotate_left
      · exact AllReadyH.nil
      go_simp
      go_wp2_with (first | (go_at_call 18; ((with_reducible refine (CWI.out _ hW2).mono ?_); rintro e w7 ⟨v7, rfl, o7, b7⟩); have hW2 := hW2.trans (b7.mono hW2.size); obtain ⟨A7, c7, rfl, hR7, _, _⟩ := rows_of_own encI_len (by omega) o7; have HR7 := Lib.hid hR7; (try have HR8 := Lib.hid (HR8.out.below b7))) | (go_at_call 19; ((with_reducible refine (CRW.out _ hW2).mono ?_); rintro e w8 ⟨v8, rfl, o8, b8⟩); have hW2 := hW2.trans (b8.mono hW2.size); obtain ⟨A8, c8, rfl, hR8, _, _⟩ := rows_of_own encI_len (by omega) o8; have HR8 := Lib.hid hR8; (try have HR7 := Lib.hid (HR7.out.below b8))) | (go_at_call 17; ((with_reducible refine (plinl_any A7 A8 lw c7 c8 L _ HR7.out HR8.out HLW.out (by omega)).mono ?_); rintro e w9 ⟨rfl, b9⟩); have hW2 := hW2.trans (b9.mono hW2.size)) | (go_at_call 13; ((with_reducible refine (C3.out _).mono ?_); rintro e w10 ⟨rfl, b10⟩); have hW2 := hW2.trans (b10.mono hW2.size)))
      refine hK.out _ _ (MK.out _ hW2) (fun hHeld => ?_)
      clear hK K
      go_simp
      refine wpAnyH_ready (rs := [14]) (by kernel_rfl) (by simp) ?_
      refine AllReadyH.cons rfl (fun K hK => ?_) ?_
      rotate_left
      · exact AllReadyH.nil
      go_simp
      go_wp2_with (first | (go_at_call 18; ((with_reducible refine (CWI.out _ hW2).mono ?_); rintro e w7 ⟨v7, rfl, o7, b7⟩); have hW2 := hW2.trans (b7.mono hW2.size); obtain ⟨A7, c7, rfl, hR7, _, _⟩ := rows_of_own encI_len (by omega) o7; have HR7 := Lib.hid hR7; (try have HR8 := Lib.hid (HR8.out.below b7))) | (go_at_call 19; ((with_reducible refine (CRW.out _ hW2).mono ?_); rintro e w8 ⟨v8, rfl, o8, b8⟩); have hW2 := hW2.trans (b8.mono hW2.size); obtain ⟨A8, c8, rfl, hR8, _, _⟩ := rows_of_own encI_len (by omega) o8; have HR8 := Lib.hid hR8; (try have HR7 := Lib.hid (HR7.out.below b8))) | (go_at_call 17; ((with_reducible refine (plinl_any A7 A8 lw c7 c8 L _ HR7.out HR8.out HLW.out (by omega)).mono ?_); rintro e w9 ⟨rfl, b9⟩); have hW2 := hW2.trans (b9.mono hW2.size)) | (go_at_call 13; ((with_reducible refine (C3.out _).mono ?_); rintro e w10 ⟨rfl, b10⟩); have hW2 := hW2.trans (b10.mono hW2.size)))
      refine hK.out _ _ (MK.out _ hW2) (fun hHeld => ?_)
      clear hK K
      go_simp
      refine wpAnyH_ready (rs := [15]) (by kernel_rfl) (by simp) ?_
      refine AllReadyH.cons rfl (fun K hK => ?_) ?_
      rotate_left
      · exact AllReadyH.nil
      go_simp
      go_wp2_with (first | (go_at_call 18; ((with_reducible refine (CWI.out _ hW2).mono ?_); rintro e w7 ⟨v7, rfl, o7, b7⟩); have hW2 := hW2.trans (b7.mono hW2.size); obtain ⟨A7, c7, rfl, hR7, _, _⟩ := rows_of_own encI_len (by omega) o7; have HR7 := Lib.hid hR7; (try have HR8 := Lib.hid (HR8.out.below b7))) | (go_at_call 19; ((with_reducible refine (CRW.out _ hW2).mono ?_); rintro e w8 ⟨v8, rfl, o8, b8⟩); have hW2 := hW2.trans (b8.mono hW2.size); obtain ⟨A8, c8, rfl, hR8, _, _⟩ := rows_of_own encI_len (by omega) o8; have HR8 := Lib.hid hR8; (try have HR7 := Lib.hid (HR7.out.below b8))) | (go_at_call 17; ((with_reducible refine (plinl_any A7 A8 lw c7 c8 L _ HR7.out HR8.out HLW.out (by omega)).mono ?_); rintro e w9 ⟨rfl, b9⟩); have hW2 := hW2.trans (b9.mono hW2.size)) | (go_at_call 13; ((with_reducible refine (C3.out _).mono ?_); rintro e w10 ⟨rfl, b10⟩); have hW2 := hW2.trans (b10.mono hW2.size)))
      refine hK.out _ _ (MK.out _ hW2) (fun hHeld => ?_)
      clear hK K
      go_simp
      refine wpAnyH_take (i := 16) (v := ?_) rfl (by kernel_rfl) (by kernel_rfl) (by kernel_rfl) (fun _ _ _ h => h) (Or.inl ⟨by rfl, ?_⟩) hHeld ?_
      rotate_left
      · intro w hSw
        (try dsimp only at hSw)
        go_simp
        try with_reducible rfl
      go_simp
      refine wpAnyH_take (i := 17) (v := ?_) rfl (by kernel_rfl) (by kernel_rfl) (by kernel_rfl) (fun _ _ _ h => h) (Or.inl ⟨by rfl, ?_⟩) hHeld ?_
      rotate_left
      · intro w hSw
        (try dsimp only at hSw)
        go_simp
        try with_reducible rfl
      go_simp
      refine wpAnyH_ready (rs := [18]) (by kernel_rfl) (by simp) ?_
      refine AllReadyH.cons rfl (fun K hK => ?_) ?_
      rotate_left
      · exact AllReadyH.nil
      go_simp
      go_wp2_with (first | (go_at_call 18; ((with_reducible refine (CWI.out _ hW2).mono ?_); rintro e w7 ⟨v7, rfl, o7, b7⟩); have hW2 := hW2.trans (b7.mono hW2.size); obtain ⟨A7, c7, rfl, hR7, _, _⟩ := rows_of_own encI_len (by omega) o7; have HR7 := Lib.hid hR7; (try have HR8 := Lib.hid (HR8.out.below b7))) | (go_at_call 19; ((with_reducible refine (CRW.out _ hW2).mono ?_); rintro e w8 ⟨v8, rfl, o8, b8⟩); have hW2 := hW2.trans (b8.mono hW2.size); obtain ⟨A8, c8, rfl, hR8, _, _⟩ := rows_of_own encI_len (by omega) o8; have HR8 := Lib.hid hR8; (try have HR7 := Lib.hid (HR7.out.below b8))) | (go_at_call 17; ((with_reducible refine (plinl_any A7 A8 lw c7 c8 L _ HR7.out HR8.out HLW.out (by omega)).mono ?_); rintro e w9 ⟨rfl, b9⟩); have hW2 := hW2.trans (b9.mono hW2.size)) | (go_at_call 13; ((with_reducible refine (C3.out _).mono ?_); rintro e w10 ⟨rfl, b10⟩); have hW2 := hW2.trans (b10.mono hW2.size)))
      refine hK.out _ _ (MK.out _ hW2) (fun hHeld => ?_)
      clear hK K
      go_simp
      refine wpAnyH_take (i := 19) (v := ?_) rfl (by kernel_rfl) (by kernel_rfl) (by kernel_rfl) (fun _ _ _ h => h) (Or.inl ⟨by rfl, ?_⟩) hHeld ?_
      rotate_left
      · intro w hSw
        (try dsimp only at hSw)
        go_simp
        try with_reducible rfl
      go_simp
      refine wpAnyH_take (i := 20) (v := ?_) rfl (by kernel_rfl) (by kernel_rfl) (by kernel_rfl) (fun _ _ _ h => h) (Or.inl ⟨by rfl, ?_⟩) hHeld ?_
      rotate_left
      · intro w hSw
        (try dsimp only at hSw)
        go_simp
        try with_reducible rfl
      go_simp
      refine wpAnyH_done (by kernel_rfl) ?_ _
      refine NoPanic.normal ?_
      have HBZ := Lib.hid (HQ6.out.trans (hW2.mono HQ6.out.size))
      clear hW2 hHeld
      go_wp2
      go_ret
      exact ⟨rfl, HBZ.out⟩
    · have HZ := Lib.hid hz
      have k5 : (r != 0) = true := by simp [hz]
      have k6 : (r == 0) = false := by simp [hz]
      clear hz
      go_enter Try.func3, Try.ntmps3
      go_wp2_with fail
      rw [← HW1.out]
      with_reducible refine (CLF.out).mono ?_
      rintro e w2 ⟨rfl, b2⟩
      have HB2 := Lib.hid b2
      have HQ2 := Lib.hid (X1.out.trans (b2.mono X1.out.size))
      clear b2
      go_wp2_with fail
      with_reducible refine (CN.out _ HQ2.out).mono ?_
      rintro e w3 ⟨p, rfl, hp1, hp2, b3⟩
      have hp := hp1 HZ.out
      subst hp
      have HQ3 := Lib.hid (HQ2.out.trans (b3.mono HQ2.out.size))
      clear b3 hp1 hp2
      go_wp2_with fail
      with_reducible refine (CR.out _ HQ3.out).mono ?_
      rintro e w4 ⟨nn, A2, m2, c2, rfl, _, b4⟩
      have HQ4 := Lib.hid (HQ3.out.trans (b4.mono HQ3.out.size))
      have HX4 := Lib.hid (HQ4.out.trans (((Below.refl w4.heap.size w4).alloc (Nat.le_refl _) (.cells #[.int .i64 nn, .slice A2 m2 c2, .int .i64 r] 32)).mono HQ4.out.size))
      have CIS := Lib.hid fun W => is13_nil r HZ.out nn A2 m2 c2 W
      clear b4
      go_wp2_with fail
      with_reducible refine (CIS.out _).mono ?_
      rintro e w5 ⟨rfl, b5⟩
      have HQ5 := Lib.hid (HX4.out.trans (b5.mono HX4.out.size))
      have hW2 : Below w5.heap.size w5 w5.drew := (Below.refl _ _).drew
      clear b5
      go_wp2_with fail
      refine wp_region_noPanic ?_
      refine wp_region_held_drew (S := (fun W => True)) (by kernel_rfl) (trivial) (fun hHeld => ?_)
      refine wpAnyH_take (i := 0) (v := ?_) rfl (by kernel_rfl) (by kernel_rfl) (by kernel_rfl) (fun _ _ _ h => h) (Or.inl ⟨by rfl, ?_⟩) hHeld ?_
      rotate_left
      · intro w hSw
        (try dsimp only at hSw)
        go_simp
        try with_reducible rfl
      go_simp
      refine wpAnyH_take (i := 1) (v := ?_) rfl (by kernel_rfl) (by kernel_rfl) (by kernel_rfl) (fun _ _ _ h => h) (Or.inl ⟨by rfl, ?_⟩) hHeld ?_
      rotate_left
      · intro w hSw
        (try dsimp only at hSw)
        go_simp
        try with_reducible rfl
      go_simp
      refine wpAnyH_take (i := 2) (v := ?_) rfl (by kernel_rfl) (by kernel_rfl) (by kernel_rfl) (fun _ _ _ h => h) (Or.inl ⟨by rfl, ?_⟩) hHeld ?_
      rotate_left
      · intro w hSw
        (try dsimp only at hSw)
        go_simp
        try with_reducible rfl
      go_simp
      refine wpAnyH_take (i := 3) (v := undef) rfl (by kernel_rfl) (by kernel_rfl) (by kernel_rfl) (fun _ _ _ h => h) (Or.inr ⟨by rfl, rfl⟩) hHeld ?_
      go_simp
      refine wpAnyH_take (i := 4) (v := undef) rfl (by kernel_rfl) (by kernel_rfl) (by kernel_rfl) (fun _ _ _ h => h) (Or.inr ⟨by rfl, rfl⟩) hHeld ?_
      go_simp
      refine wpAnyH_take (i := 5) (v := undef) rfl (by kernel_rfl) (by kernel_rfl) (by kernel_rfl) (fun _ _ _ h => h) (Or.inr ⟨by rfl, rfl⟩) hHeld ?_
      go_simp
      refine wpAnyH_take (i := 6) (v := undef) rfl (by kernel_rfl) (by kernel_rfl) (by kernel_rfl) (fun _ _ _ h => h) (Or.inr ⟨by rfl, rfl⟩) hHeld ?_
      go_simp
      refine wpAnyH_take (i := 7) (v := undef) rfl (by kernel_rfl) (by kernel_rfl) (by kernel_rfl) (fun _ _ _ h => h) (Or.inr ⟨by rfl, rfl⟩) hHeld ?_
      go_simp
      refine wpAnyH_take (i := 8) (v := undef) rfl (by kernel_rfl) (by kernel_rfl) (by kernel_rfl) (fun _ _ _ h => h) (Or.inr ⟨by rfl, rfl⟩) hHeld ?_
      go_simp
      refine wpAnyH_take (i := 9) (v := undef) rfl (by kernel_rfl) (by kernel_rfl) (by kernel_rfl) (fun _ _ _ h => h) (Or.inr ⟨by rfl, rfl⟩) hHeld ?_
      go_simp
      refine wpAnyH_take (i := 10) (v := undef) rfl (by kernel_rfl) (by kernel_rfl) (by kernel_rfl) (fun _ _ _ h => h) (Or.inr ⟨by rfl, rfl⟩) hHeld ?_
      go_simp
      refine wpAnyH_take (i := 11) (v := undef) rfl (by kernel_rfl) (by kernel_rfl) (by kernel_rfl) (fun _ _ _ h => h) (Or.inr ⟨by rfl, rfl⟩) hHeld ?_
      go_simp
      refine wpAnyH_take (i := 12) (v := undef) rfl (by kernel_rfl) (by kernel_rfl) (by kernel_rfl) (fun _ _ _ h => h) (Or.inr ⟨by rfl, rfl⟩) hHeld ?_
      go_simp
      refine wpAnyH_take (i := 13) (v := undef) rfl (by kernel_rfl) (by kernel_rfl) (by kernel_rfl) (fun _ _ _ h => h) (Or.inr ⟨by rfl, rfl⟩) hHeld ?_
      go_simp
      refine wpAnyH_take (i := 14) (v := undef) rfl (by kernel_rfl) (by kernel_rfl) (by kernel_rfl) (fun _ _ _ h => h) (Or.inr ⟨by rfl, rfl⟩) hHeld ?_
      go_simp
      refine wpAnyH_take (i := 15) (v := undef) rfl (by kernel_rfl) (by kernel_rfl) (by kernel_rfl) (fun _ _ _ h => h) (Or.inr ⟨by rfl, rfl⟩) hHeld ?_
      go_simp
      refine wpAnyH_take (i := 16) (v := ?_) rfl (by kernel_rfl) (by kernel_rfl) (by kernel_rfl) (fun _ _ _ h => h) (Or.inl ⟨by rfl, ?_⟩) hHeld ?_
      rotate_left
      · intro w hSw
        (try dsimp only at hSw)
        go_simp
        try with_reducible rfl
      go_simp
      refine wpAnyH_take (i := 17) (v := ?_) rfl (by kernel_rfl) (by kernel_rfl) (by kernel_rfl) (fun _ _ _ h => h) (Or.inl ⟨by rfl, ?_⟩) hHeld ?_
      rotate_left
      · intro w hSw
        (try dsimp only at hSw)
        go_simp
        try with_reducible rfl
      go_simp
      refine wpAnyH_ready (rs := [18]) (by kernel_rfl) (by simp) ?_
      refine AllReadyH.cons rfl (fun K hK => ?_) ?_
      rotate_left
      · exact AllReadyH.nil
      go_simp
      go_wp2_with (first | (go_at_call 13; ((with_reducible refine (C3.out _).mono ?_); rintro e w6 ⟨rfl, b6⟩); have hW2 := hW2.trans (b6.mono hW2.size)))
      refine hK.out _ _ (trivial) (fun hHeld => ?_)
      clear hK K
      go_simp
      refine wpAnyH_take (i := 19) (v := ?_) rfl (by kernel_rfl) (by kernel_rfl) (by kernel_rfl) (fun _ _ _ h => h) (Or.inl ⟨by rfl, ?_⟩) hHeld ?_
      rotate_left
      · intro w hSw
        (try dsimp only at hSw)
        go_simp
        try with_reducible rfl
      go_simp
      refine wpAnyH_take (i := 20) (v := ?_) rfl (by kernel_rfl) (by kernel_rfl) (by kernel_rfl) (fun _ _ _ h => h) (Or.inl ⟨by rfl, ?_⟩) hHeld ?_
      rotate_left
      · intro w hSw
        (try dsimp only at hSw)
        go_simp
        try with_reducible rfl
      go_simp
      refine wpAnyH_done (by kernel_rfl) ?_ _
      refine NoPanic.normal ?_
      have HBZ := Lib.hid (HQ5.out.trans (hW2.mono HQ5.out.size))
      clear hW2 hHeld
      go_wp2
      go_ret
      exact ⟨rfl, HBZ.out⟩
  · have CLT := Lib.hid (CLO.out true ⟨fun _ => g, fun _ => rfl⟩)
    clear CLO
    go_enter Try.func3, Try.ntmps3
    go_wp2_with fail
    rw [← HW1.out]
    with_reducible refine (CLT.out).mono ?_
    rintro e w2 ⟨rfl, b2⟩
    have HQ2 := Lib.hid (X1.out.trans (b2.mono X1.out.size))
    clear b2
    go_wp2_with fail
    with_reducible refine (C3.out _).mono ?_
    rintro e w3 ⟨rfl, b3⟩
    have HQ3 := Lib.hid (HQ2.out.trans (b3.mono HQ2.out.size))
    clear b3
    go_wp2
    go_ret
    exact ⟨rfl, HQ3.out⟩
end Go.Proofs.Ytbmfedldnjnlcaa
