/- Weaves: the law WeavePlaces, walked. -/
import Derived.Test.YtjkkngldiimkjaaGreatWvL
import Derived.Test.YtjkkngldiimkjaaGreatInO
namespace Go.Proofs.YtjkkngldiimkjaaGreat
open Go.RowKit Go.Sort
set_option linter.unusedVariables false
theorem wsp_ids : ∀ (l : List In) (f t : Int), (∀ a ∈ l, 0 ≤ a.id) → ∀ s ∈ wsp f l t, 0 ≤ s.2
  | [], f, t, _, s, hs => by rw [wpls_ids _ _ s hs]; omega
  | a :: l, f, t, h, s, hs => by
    have hs2 : s ∈ wpls f (a.pl - f).toNat ++ (List.replicate (wcnt a) (a.pl, a.id) ++ wsp a.pl l t) := hs
    rcases List.mem_append.1 hs2 with h1 | h1
    · rw [wpls_ids _ _ s h1]; omega
    · rcases List.mem_append.1 h1 with h1 | h1
      · rw [(List.mem_replicate.1 h1).2]
        exact h a (by simp)
      · exact wsp_ids l a.pl t (fun x hx => h x (List.mem_cons_of_mem _ hx)) s h1
set_option maxHeartbeats 32000000 in
set_option maxRecDepth 100000 in
theorem weavePlaces_walk (n : Int) (A : Option Addr) (m c : Nat) (l : List In) (st : SpV) (w : World) (_wf : (Lit.int .i64 n).wf = true) (hI : RowsAt encI 5 w A l) (hl : l.length = m) (hn : m ≤ maxLen) (hc : Caps A m c) (hO : ∀ s ∈ l, InOk s) (_hS : SpOk st) :
    Calls Tryz.prog 4 #[.int .i64 n, .slice A m c, .agg #[.int .i64 st.f, .int .i64 st.t]] w fun e w' => e = .returned (.bool true) ∧ Below w.heap.size w w' := by
  have C4 := Lib.hid fun W => four_any W
  obtain ⟨W1, hW1⟩ : ∃ W1, W1 = w.alloc (.cells #[.int .i64 st.f, .int .i64 st.t] 36) := ⟨_, rfl⟩
  have x1 : Below w.heap.size w W1 := by rw [hW1]; exact (Below.refl _ _).alloc (Nat.le_refl _) _
  have r1 : RawAt 36 W1 w.heap.size #[.int .i64 st.f, .int .i64 st.t] := by rw [hW1]; exact heap_alloc_new w _
  have HW1 := Lib.hid hW1
  have X1 := Lib.hid x1
  have HP := Lib.hid r1
  have CLO := Lib.hid fun (b : Bool) (hb : b = true ↔ ¬ Short14 n l) => long14_any n A m c l b W1 (hI.below x1) hl hn (fun x hx => (hO x hx).2.2.2.2) hb
  clear hW1 x1 r1
  by_cases g : Short14 n l
  · have CLF := Lib.hid (CLO.out false ⟨fun h => absurd h (by simp), fun h => absurd g h⟩)
    obtain ⟨g0, g1, g2, g3⟩ := g
    have hm : m ≤ 60 := by rw [← hl]; exact g2
    have ht : ∀ x ∈ l, x.tx.size ≤ 100000000 := fun x hx => Nat.le_trans (g3 x hx) (by omega)
    obtain ⟨r, hr⟩ : ∃ r, r = iwrong n l := ⟨_, rfl⟩
    have CN := Lib.hid fun (W : World) (hW : Below w.heap.size w W) => iNew_any n A m c l W (hI.below hW) hc hl (fun a ha => (hO a ha).1) ht r hr.symm
    have CR := Lib.hid fun (W : World) (hW : Below w.heap.size w W) => rNew13_any n A m c l W (hI.below hW) hc hl ht r hr.symm
    have hol : (ord ilt (l.map icl)).length = m := by rw [(ord_perm ilt ilt_swo _).length_eq, List.length_map]; exact hl
    have HOL := Lib.hid hol
    have HOS : Hid (r = 0 → wOSet n (ord ilt (l.map icl))) := Lib.hid fun h => woset_new (hr.symm.trans h) g3
    have HL := Lib.hid hl
    clear CLO hr hI hl hol ht hO hc g3 g2
    obtain ⟨N, rfl⟩ : ∃ N : Nat, n = N := ⟨n.toNat, by omega⟩
    generalize ho : ord ilt (l.map icl) = o at *
    have HO := Lib.hid ho
    clear ho
    by_cases hz : r = 0
    · subst hz
      have HS := Lib.hid (HOS.out (by first | exact trivial | rfl))
      clear HOS
      go_enter Tryz.func4, Tryz.ntmps4
      go_wp2_with fail
      rw [← HW1.out]
      with_reducible refine (CLF.out).mono ?_
      rintro e w2 ⟨rfl, b2⟩
      have HQ := Lib.hid (X1.out.trans (b2.mono X1.out.size))
      have HP := Lib.hid (RawAt.below HP.out b2 HP.out.lt)
      clear b2 X1 HW1
      go_wp2_with fail
      with_reducible refine (CN.out _ HQ.out).mono ?_
      rintro e w3 ⟨p, rfl, hp1, hp2, b3⟩
      obtain ⟨sb, rfl, hs⟩ := hp2 (by first | exact trivial | rfl)
      have HI3 := Lib.hid hs
      have HQ := Lib.hid (HQ.out.trans (b3.mono HQ.out.size))
      have HP := Lib.hid (RawAt.below HP.out b3 HP.out.lt)
      clear b3 hp1 hp2 hs
      go_wp2_with fail
      with_reducible refine (CR.out _ HQ.out).mono ?_
      rintro e w4 ⟨nn, A2, m2, c2, rfl, hres, b4⟩
      obtain ⟨h1, h2, hR⟩ := hres (by first | exact trivial | rfl)
      rw [HL.out] at h2
      rw [HO.out] at hR
      have h1 := h1.symm
      subst h1
      have h2 := h2.symm
      subst h2
      have HQ := Lib.hid (HQ.out.trans (b4.mono HQ.out.size))
      obtain ⟨W5, hW5⟩ : ∃ W5, W5 = w4.alloc (.cells #[.int .i64 N, .slice A2 m c2, .int .i64 0] 30) := ⟨_, rfl⟩
      have x5 : Below w4.heap.size w4 W5 := by rw [hW5]; exact (Below.refl _ _).alloc (Nat.le_refl _) _
      have r5 : RawAt 30 W5 w4.heap.size #[.int .i64 N, .slice A2 m c2, .int .i64 0] := by rw [hW5]; exact heap_alloc_new w4 _
      have HQ := Lib.hid (HQ.out.trans (x5.mono HQ.out.size))
      have HA := Lib.hid (hR.below x5)
      have HS5 := Lib.hid ((HI3.out.below b4).below x5)
      have HP := Lib.hid (RawAt.below (RawAt.below HP.out b4 HP.out.lt) x5 (Nat.lt_of_lt_of_le HP.out.lt b4.size))
      have HW5 := Lib.hid hW5
      have HZ := Lib.hid r5
      have CW := Lib.hid (wvNew_set HS5.out HS.out)
      clear b4 hR x5 hW5 r5 hres HI3
      go_wp2_with fail
      rw [← HW5.out]
      generalize w4.heap.size = bZ at *
      with_reducible refine (CW.out).mono ?_
      rintro e w6 ⟨a6, h6, rfl, hT6, b6⟩
      clear HW5 HS5 CW
      have HP := Lib.hid (RawAt.below HP.out b6 HP.out.lt)
      have HZ := Lib.hid (RawAt.below HZ.out b6 HZ.out.lt)
      have HA := Lib.hid (HA.out.below b6)
      have HQ := Lib.hid (HQ.out.trans (b6.mono HQ.out.size))
      have p0 : w6.cell? ⟨w.heap.size, 0, none⟩ = some (.int .i64 st.f) := RawAt.cell HP.out 0
      have p1 : w6.cell? ⟨w.heap.size, 1, none⟩ = some (.int .i64 st.t) := RawAt.cell HP.out 1
      have z0 : w6.cell? ⟨bZ, 0, none⟩ = some (.int .i64 N) := RawAt.cell HZ.out 0
      have z1 : w6.cell? ⟨bZ, 1, none⟩ = some (.slice A2 m c2) := RawAt.cell HZ.out 1
      have z2 : w6.cell? ⟨bZ, 2, none⟩ = some (.int .i64 0) := RawAt.cell HZ.out 2
      clear b6
      have HT := Lib.hid hT6
      have HQ6 := Lib.hid HQ.out
      clear hT6
      have hwv := HS.out.wv
      have htx := fun a ha => (HS.out.each a ha).2
      obtain ⟨d1, d2, d3, d4, d5⟩ := wv_doc hwv
      have hob := (wosum_bd N 1 1000 o (fun a ha => Nat.le_trans (dec_len a.tx) (htx a ha))).1
      have COY := Lib.hid fun (W : World) (hW : Below w6.heap.size w6 W) (hf : 0 ≤ st.f ∧ st.f ≤ N) (hb : st.t = 0 ∨ st.t = 1) => wvOut_yes (HT.out.below hW) st.f st.t ⟨hf.1, by rw [d4]; exact hf.2⟩ hb
      have CON := Lib.hid fun (W : World) (hW : Below w6.heap.size w6 W) (hf : ¬ ((0 ≤ st.f ∧ st.f ≤ N) ∧ (st.t = 0 ∨ st.t = 1))) => wvOut_no (HT.out.below hW) st.f st.t (fun hh => hf ⟨⟨hh.1.1, by have := hh.1.2; rw [d4] at this; exact this⟩, hh.2⟩)
      have HEQ : Hid ((0 ≤ st.f ∧ st.f ≤ N) → (st.t = 0 ∨ st.t = 1) → woutP (wvP 0 o N) st.f st.t = st.f + wosum st.f st.t o) := Lib.hid fun hf hb => by
        have := woutP_is o 0 N st.f st.t hwv hf.1 hf.2 hb
        rwa [show st.f - 0 = st.f from by omega] at this
      have CRO := Lib.hid fun (W : World) (hA : RowsAt encI 5 W A2 o) (hf : 0 ≤ st.f ∧ st.f ≤ N) => rOut_any N 0 A2 m c2 o st.f st.t W hA HOL.out (by omega) (by omega) (by omega) htx
      have CIY := Lib.hid fun (W : World) (hW : Below w6.heap.size w6 W) (hf : 0 ≤ st.f ∧ st.f ≤ wdsum 1 (wvP 0 o N)) => wvIn_yes (HT.out.below hW) st.f hf
      have CIN := Lib.hid fun (W : World) (hW : Below w6.heap.size w6 W) (hf : ¬ (0 ≤ st.f ∧ st.f ≤ wdsum 1 (wvP 0 o N))) => wvIn_no (HT.out.below hW) st.f hf
      have CSP := Lib.hid fun (W : World) (hA : RowsAt encI 5 W A2 o) => rSpots_any N 0 A2 m c2 o W hA HOL.out (by omega) (by omega) htx
      have hids : ∀ s ∈ wdS o N (N + 1) 0, 0 ≤ s.2 := by
        rw [d1]
        exact wsp_ids o 0 N (fun a ha => by have := hwv.ids a ha; omega)
      have CRI := Lib.hid fun (W : World) (hA : RowsAt encI 5 W A2 o) (v : Nat) (hv : v ≤ (wdS o N (N + 1) 0).length) => rIn_any N 0 A2 m c2 o v W hA HOL.out (by omega) (by omega) htx hv hids
      have HIE : Hid (∀ v : Nat, v ≤ (wdS o N (N + 1) 0).length → winP (wvP 0 o N) v = wdIn N (-1) (wdS o N (N + 1) 0) v) := Lib.hid fun v hv => by
        have := winP_is o 0 N (-1) v hwv (fun a ha => by have := hwv.ids a ha; omega) (by rw [← d1]; exact hv)
        rw [d1, ← this]
        exact Prod.ext (by show _ = _ + (0 : Int); omega) rfl
      have hT0 : (N : Int) ≤ wdsum 1 (wvP 0 o N) := by omega
      have D3 := Lib.hid d3
      clear d1 d2 d4 d5 hids hob htx hwv
      generalize wdS o N (N + 1) 0 = S at *
      generalize wdsum 1 (wvP 0 o N) = T at *
      generalize wvP 0 o N = PP at *
      generalize hK : S.length = K at *
      have d3 := D3.out
      by_cases q1 : st.f < 0
      · have k1 : decide (st.f < 0) = true := decide_eq_true q1
        go_wp2_with fail
        with_reducible refine (CON.out _ (Below.refl _ _) (by omega)).mono ?_
        rintro e w7 ⟨rfl, b7⟩
        have HB6 := Lib.hid b7
        have HP := Lib.hid (RawAt.below HP.out b7 HP.out.lt)
        have HZ := Lib.hid (RawAt.below HZ.out b7 HZ.out.lt)
        have HA := Lib.hid (HA.out.below b7)
        have HQ := Lib.hid (HQ.out.trans (b7.mono HQ.out.size))
        clear p0 p1 z0 z1 z2
        have p0 : w7.cell? ⟨w.heap.size, 0, none⟩ = some (.int .i64 st.f) := RawAt.cell HP.out 0
        have p1 : w7.cell? ⟨w.heap.size, 1, none⟩ = some (.int .i64 st.t) := RawAt.cell HP.out 1
        have z0 : w7.cell? ⟨bZ, 0, none⟩ = some (.int .i64 N) := RawAt.cell HZ.out 0
        have z1 : w7.cell? ⟨bZ, 1, none⟩ = some (.slice A2 m c2) := RawAt.cell HZ.out 1
        have z2 : w7.cell? ⟨bZ, 2, none⟩ = some (.int .i64 0) := RawAt.cell HZ.out 2
        clear b7
        go_wp2_with fail
        with_reducible refine (CIN.out _ HB6.out (by omega)).mono ?_
        rintro e w9 ⟨rfl, b9⟩
        have HP := Lib.hid (RawAt.below HP.out b9 HP.out.lt)
        have HZ := Lib.hid (RawAt.below HZ.out b9 HZ.out.lt)
        have HA := Lib.hid (HA.out.below b9)
        have HQ := Lib.hid (HQ.out.trans (b9.mono HQ.out.size))
        clear p0 p1 z0 z1 z2
        have p0 : w9.cell? ⟨w.heap.size, 0, none⟩ = some (.int .i64 st.f) := RawAt.cell HP.out 0
        have p1 : w9.cell? ⟨w.heap.size, 1, none⟩ = some (.int .i64 st.t) := RawAt.cell HP.out 1
        have z0 : w9.cell? ⟨bZ, 0, none⟩ = some (.int .i64 N) := RawAt.cell HZ.out 0
        have z1 : w9.cell? ⟨bZ, 1, none⟩ = some (.slice A2 m c2) := RawAt.cell HZ.out 1
        have z2 : w9.cell? ⟨bZ, 2, none⟩ = some (.int .i64 0) := RawAt.cell HZ.out 2
        clear b9
        have hW2 : Below w9.heap.size w9 w9.drew := (Below.refl _ _).drew
        have MK : Hid (∀ V : World, Below w9.heap.size w9 V → (fun V => V.cell? ⟨w.heap.size, 0, none⟩ = some (.int .i64 st.f) ∧ V.cell? ⟨bZ, 0, none⟩ = some (.int .i64 N) ∧ V.cell? ⟨bZ, 1, none⟩ = some (.slice A2 m c2) ∧ V.cell? ⟨bZ, 2, none⟩ = some (.int .i64 0)) V) := Lib.hid fun V hV => by
          have a1 := RawAt.below HP.out hV HP.out.lt
          have a2 := RawAt.below HZ.out hV HZ.out.lt
          exact ⟨RawAt.cell a1 0, RawAt.cell a2 0, RawAt.cell a2 1, RawAt.cell a2 2⟩
        clear p0 p1 z0 z1 z2
        go_wp2_with fail
        refine wp_region_noPanic ?_
        refine wp_region_held_drew (S := (fun V => V.cell? ⟨w.heap.size, 0, none⟩ = some (.int .i64 st.f) ∧ V.cell? ⟨bZ, 0, none⟩ = some (.int .i64 N) ∧ V.cell? ⟨bZ, 1, none⟩ = some (.slice A2 m c2) ∧ V.cell? ⟨bZ, 2, none⟩ = some (.int .i64 0))) (by kernel_rfl) (MK.out _ hW2) (fun hHeld => ?_)
        refine wpAnyH_take (i := 0) (v := ?_) rfl (by kernel_rfl) (by kernel_rfl) (by kernel_rfl) (fun _ _ _ h => h) (Or.inl ⟨by rfl, ?_⟩) hHeld ?_
        rotate_left
        · intro w hSw
          (try dsimp only at hSw)
          go_simp
          try with_reducible rfl
        go_simp
        refine wpAnyH_take (i := 1) (v := ?_) rfl (by kernel_rfl) (by kernel_rfl) (by kernel_rfl) (fun _ _ _ h => h) (Or.inl ⟨by rfl, ?_⟩) hHeld ?_
        rotate_left
        · intro w hSw
          (try dsimp only at hSw)
          go_simp
          try with_reducible rfl
        go_simp
        refine wpAnyH_take (i := 2) (v := ?_) rfl (by kernel_rfl) (by kernel_rfl) (by kernel_rfl) (fun _ _ _ h => h) (Or.inl ⟨by rfl, ?_⟩) hHeld ?_
        rotate_left
        · intro w hSw
          (try dsimp only at hSw)
          go_simp
          try with_reducible rfl
        go_simp
        refine wpAnyH_take (i := 3) (v := ?_) rfl (by kernel_rfl) (by kernel_rfl) (by kernel_rfl) (fun _ _ _ h => h) (Or.inl ⟨by rfl, ?_⟩) hHeld ?_
        rotate_left
        · intro w hSw
          (try dsimp only at hSw)
          go_simp
          try with_reducible rfl
        go_simp
        refine wpAnyH_take (i := 4) (v := undef) rfl (by kernel_rfl) (by kernel_rfl) (by kernel_rfl) (fun _ _ _ h => h) (Or.inr ⟨by rfl, rfl⟩) hHeld ?_
        go_simp
        refine wpAnyH_take (i := 5) (v := undef) rfl (by kernel_rfl) (by kernel_rfl) (by kernel_rfl) (fun _ _ _ h => h) (Or.inr ⟨by rfl, rfl⟩) hHeld ?_
        go_simp
        refine wpAnyH_take (i := 6) (v := undef) rfl (by kernel_rfl) (by kernel_rfl) (by kernel_rfl) (fun _ _ _ h => h) (Or.inr ⟨by rfl, rfl⟩) hHeld ?_
        go_simp
        refine wpAnyH_take (i := 7) (v := undef) rfl (by kernel_rfl) (by kernel_rfl) (by kernel_rfl) (fun _ _ _ h => h) (Or.inr ⟨by rfl, rfl⟩) hHeld ?_
        go_simp
        refine wpAnyH_take (i := 8) (v := undef) rfl (by kernel_rfl) (by kernel_rfl) (by kernel_rfl) (fun _ _ _ h => h) (Or.inr ⟨by rfl, rfl⟩) hHeld ?_
        go_simp
        refine wpAnyH_take (i := 9) (v := undef) rfl (by kernel_rfl) (by kernel_rfl) (by kernel_rfl) (fun _ _ _ h => h) (Or.inr ⟨by rfl, rfl⟩) hHeld ?_
        go_simp
        refine wpAnyH_take (i := 10) (v := ?_) rfl (by kernel_rfl) (by kernel_rfl) (by kernel_rfl) (fun _ _ _ h => h) (Or.inl ⟨by rfl, ?_⟩) hHeld ?_
        rotate_left
        · intro w hSw
          (try dsimp only at hSw)
          go_simp
          try with_reducible rfl
        go_simp
        refine wpAnyH_done (by kernel_rfl) ?_ _
        refine NoPanic.normal ?_
        have HQ := Lib.hid (HQ.out.trans (hW2.mono HQ.out.size))
        clear hW2 MK
        go_wp2_with fail
        with_reducible refine (C4.out _).mono ?_
        rintro e wF ⟨rfl, bF⟩
        have HQF := Lib.hid (HQ.out.trans (bF.mono HQ.out.size))
        clear bF
        go_wp2
        go_ret
        exact ⟨rfl, HQF.out⟩
      · have k1 : decide (st.f < 0) = false := decide_eq_false q1
        by_cases q2 : (N : Int) < st.f
        · have k2 : decide ((N : Int) < st.f) = true := decide_eq_true q2
          by_cases q3 : T < st.f
          · skip
            go_wp2_with fail
            with_reducible refine (CON.out _ (Below.refl _ _) (by omega)).mono ?_
            rintro e w7 ⟨rfl, b7⟩
            have HB6 := Lib.hid b7
            have HP := Lib.hid (RawAt.below HP.out b7 HP.out.lt)
            have HZ := Lib.hid (RawAt.below HZ.out b7 HZ.out.lt)
            have HA := Lib.hid (HA.out.below b7)
            have HQ := Lib.hid (HQ.out.trans (b7.mono HQ.out.size))
            clear p0 p1 z0 z1 z2
            have p0 : w7.cell? ⟨w.heap.size, 0, none⟩ = some (.int .i64 st.f) := RawAt.cell HP.out 0
            have p1 : w7.cell? ⟨w.heap.size, 1, none⟩ = some (.int .i64 st.t) := RawAt.cell HP.out 1
            have z0 : w7.cell? ⟨bZ, 0, none⟩ = some (.int .i64 N) := RawAt.cell HZ.out 0
            have z1 : w7.cell? ⟨bZ, 1, none⟩ = some (.slice A2 m c2) := RawAt.cell HZ.out 1
            have z2 : w7.cell? ⟨bZ, 2, none⟩ = some (.int .i64 0) := RawAt.cell HZ.out 2
            clear b7
            go_wp2_with fail
            with_reducible refine (CIN.out _ HB6.out (by omega)).mono ?_
            rintro e w9 ⟨rfl, b9⟩
            have HP := Lib.hid (RawAt.below HP.out b9 HP.out.lt)
            have HZ := Lib.hid (RawAt.below HZ.out b9 HZ.out.lt)
            have HA := Lib.hid (HA.out.below b9)
            have HQ := Lib.hid (HQ.out.trans (b9.mono HQ.out.size))
            clear p0 p1 z0 z1 z2
            have p0 : w9.cell? ⟨w.heap.size, 0, none⟩ = some (.int .i64 st.f) := RawAt.cell HP.out 0
            have p1 : w9.cell? ⟨w.heap.size, 1, none⟩ = some (.int .i64 st.t) := RawAt.cell HP.out 1
            have z0 : w9.cell? ⟨bZ, 0, none⟩ = some (.int .i64 N) := RawAt.cell HZ.out 0
            have z1 : w9.cell? ⟨bZ, 1, none⟩ = some (.slice A2 m c2) := RawAt.cell HZ.out 1
            have z2 : w9.cell? ⟨bZ, 2, none⟩ = some (.int .i64 0) := RawAt.cell HZ.out 2
            clear b9
            have hW2 : Below w9.heap.size w9 w9.drew := (Below.refl _ _).drew
            have MK : Hid (∀ V : World, Below w9.heap.size w9 V → (fun V => V.cell? ⟨w.heap.size, 0, none⟩ = some (.int .i64 st.f) ∧ V.cell? ⟨bZ, 0, none⟩ = some (.int .i64 N) ∧ V.cell? ⟨bZ, 1, none⟩ = some (.slice A2 m c2) ∧ V.cell? ⟨bZ, 2, none⟩ = some (.int .i64 0)) V) := Lib.hid fun V hV => by
              have a1 := RawAt.below HP.out hV HP.out.lt
              have a2 := RawAt.below HZ.out hV HZ.out.lt
              exact ⟨RawAt.cell a1 0, RawAt.cell a2 0, RawAt.cell a2 1, RawAt.cell a2 2⟩
            have kK : decide ((K : Int) < st.f) = true := decide_eq_true (by omega)
            skip
            clear p0 p1 z0 z1 z2
            go_wp2_with fail
            refine wp_region_noPanic ?_
            refine wp_region_held_drew (S := (fun V => V.cell? ⟨w.heap.size, 0, none⟩ = some (.int .i64 st.f) ∧ V.cell? ⟨bZ, 0, none⟩ = some (.int .i64 N) ∧ V.cell? ⟨bZ, 1, none⟩ = some (.slice A2 m c2) ∧ V.cell? ⟨bZ, 2, none⟩ = some (.int .i64 0))) (by kernel_rfl) (MK.out _ hW2) (fun hHeld => ?_)
            refine wpAnyH_take (i := 0) (v := ?_) rfl (by kernel_rfl) (by kernel_rfl) (by kernel_rfl) (fun _ _ _ h => h) (Or.inl ⟨by rfl, ?_⟩) hHeld ?_
            rotate_left
            · intro w hSw
              (try dsimp only at hSw)
              go_simp
              try with_reducible rfl
            go_simp
            refine wpAnyH_take (i := 1) (v := ?_) rfl (by kernel_rfl) (by kernel_rfl) (by kernel_rfl) (fun _ _ _ h => h) (Or.inl ⟨by rfl, ?_⟩) hHeld ?_
            rotate_left
            · intro w hSw
              (try dsimp only at hSw)
              go_simp
              try with_reducible rfl
            go_simp
            refine wpAnyH_take (i := 2) (v := ?_) rfl (by kernel_rfl) (by kernel_rfl) (by kernel_rfl) (fun _ _ _ h => h) (Or.inl ⟨by rfl, ?_⟩) hHeld ?_
            rotate_left
            · intro w hSw
              (try dsimp only at hSw)
              go_simp
              try with_reducible rfl
            go_simp
            refine wpAnyH_take (i := 3) (v := ?_) rfl (by kernel_rfl) (by kernel_rfl) (by kernel_rfl) (fun _ _ _ h => h) (Or.inl ⟨by rfl, ?_⟩) hHeld ?_
            rotate_left
            · intro w hSw
              (try dsimp only at hSw)
              go_simp
              try with_reducible rfl
            go_simp
            refine wpAnyH_take (i := 4) (v := ?_) rfl (by kernel_rfl) (by kernel_rfl) (by kernel_rfl) (fun _ _ _ h => h) (Or.inl ⟨by rfl, ?_⟩) hHeld ?_
            rotate_left
            · intro w hSw
              (try dsimp only at hSw)
              go_simp
              try with_reducible rfl
            go_simp
            refine wpAnyH_take (i := 5) (v := ?_) rfl (by kernel_rfl) (by kernel_rfl) (by kernel_rfl) (fun _ _ _ h => h) (Or.inl ⟨by rfl, ?_⟩) hHeld ?_
            rotate_left
            · intro w hSw
              (try dsimp only at hSw)
              go_simp
              try with_reducible rfl
            go_simp
            refine wpAnyH_take (i := 6) (v := ?_) rfl (by kernel_rfl) (by kernel_rfl) (by kernel_rfl) (fun _ _ _ h => h) (Or.inl ⟨by rfl, ?_⟩) hHeld ?_
            rotate_left
            · intro w hSw
              (try dsimp only at hSw)
              go_simp
              try with_reducible rfl
            go_simp
            refine wpAnyH_ready (rs := [7]) (by kernel_rfl) (by simp) ?_
            refine AllReadyH.cons rfl (fun K hK => ?_) ?_
            rotate_left
            · exact AllReadyH.nil
            go_simp
            go_wp2_with (first | (go_at_call 24; ((with_reducible refine (CSP.out _ (HA.out.below hW2)).mono ?_); rintro e wS ⟨vS, rfl, oS, bS⟩); obtain ⟨AS, cS, rfl⟩ := own_formI oS; have hW2 := hW2.trans (bS.mono hW2.size); clear oS))
            refine hK.out _ _ (by with_reducible exact MK.out _ hW2) (fun hHeld => ?_)
            clear hK K
            go_simp
            refine wpAnyH_take (i := 8) (v := ?_) rfl (by kernel_rfl) (by kernel_rfl) (by kernel_rfl) (fun _ _ _ h => h) (Or.inl ⟨by rfl, ?_⟩) hHeld ?_
            rotate_left
            · intro w hSw
              (try dsimp only at hSw)
              go_simp
              try with_reducible rfl
            go_simp
            refine wpAnyH_take (i := 9) (v := ?_) rfl (by kernel_rfl) (by kernel_rfl) (by kernel_rfl) (fun _ _ _ h => h) (Or.inl ⟨by rfl, ?_⟩) hHeld ?_
            rotate_left
            · intro w hSw
              (try dsimp only at hSw)
              go_simp
              try with_reducible rfl
            go_simp
            refine wpAnyH_take (i := 10) (v := ?_) rfl (by kernel_rfl) (by kernel_rfl) (by kernel_rfl) (fun _ _ _ h => h) (Or.inl ⟨by rfl, ?_⟩) hHeld ?_
            rotate_left
            · intro w hSw
              (try dsimp only at hSw)
              go_simp
              try with_reducible rfl
            go_simp
            refine wpAnyH_done (by kernel_rfl) ?_ _
            refine NoPanic.normal ?_
            have HQ := Lib.hid (HQ.out.trans (hW2.mono HQ.out.size))
            clear hW2 MK
            go_wp2_with fail
            with_reducible refine (C4.out _).mono ?_
            rintro e wF ⟨rfl, bF⟩
            have HQF := Lib.hid (HQ.out.trans (bF.mono HQ.out.size))
            clear bF
            go_wp2
            go_ret
            exact ⟨rfl, HQF.out⟩
          · skip
            go_wp2_with fail
            with_reducible refine (CON.out _ (Below.refl _ _) (by omega)).mono ?_
            rintro e w7 ⟨rfl, b7⟩
            have HB6 := Lib.hid b7
            have HP := Lib.hid (RawAt.below HP.out b7 HP.out.lt)
            have HZ := Lib.hid (RawAt.below HZ.out b7 HZ.out.lt)
            have HA := Lib.hid (HA.out.below b7)
            have HQ := Lib.hid (HQ.out.trans (b7.mono HQ.out.size))
            clear p0 p1 z0 z1 z2
            have p0 : w7.cell? ⟨w.heap.size, 0, none⟩ = some (.int .i64 st.f) := RawAt.cell HP.out 0
            have p1 : w7.cell? ⟨w.heap.size, 1, none⟩ = some (.int .i64 st.t) := RawAt.cell HP.out 1
            have z0 : w7.cell? ⟨bZ, 0, none⟩ = some (.int .i64 N) := RawAt.cell HZ.out 0
            have z1 : w7.cell? ⟨bZ, 1, none⟩ = some (.slice A2 m c2) := RawAt.cell HZ.out 1
            have z2 : w7.cell? ⟨bZ, 2, none⟩ = some (.int .i64 0) := RawAt.cell HZ.out 2
            clear b7
            obtain ⟨fn, hfn⟩ : ∃ fn : Nat, st.f = fn := ⟨st.f.toNat, by omega⟩
            have hfK : fn ≤ K := by omega
            have HIE2 := Lib.hid (HIE.out fn hfK)
            have HFN := Lib.hid hfn
            have hfb : 0 ≤ st.f ∧ st.f ≤ T := ⟨by omega, by omega⟩
            clear hfn
            go_wp2_with fail
            with_reducible refine (CIY.out _ HB6.out hfb).mono ?_
            rintro e w9 ⟨rfl, b9⟩
            have HP := Lib.hid (RawAt.below HP.out b9 HP.out.lt)
            have HZ := Lib.hid (RawAt.below HZ.out b9 HZ.out.lt)
            have HA := Lib.hid (HA.out.below b9)
            have HQ := Lib.hid (HQ.out.trans (b9.mono HQ.out.size))
            clear p0 p1 z0 z1 z2
            have p0 : w9.cell? ⟨w.heap.size, 0, none⟩ = some (.int .i64 st.f) := RawAt.cell HP.out 0
            have p1 : w9.cell? ⟨w.heap.size, 1, none⟩ = some (.int .i64 st.t) := RawAt.cell HP.out 1
            have z0 : w9.cell? ⟨bZ, 0, none⟩ = some (.int .i64 N) := RawAt.cell HZ.out 0
            have z1 : w9.cell? ⟨bZ, 1, none⟩ = some (.slice A2 m c2) := RawAt.cell HZ.out 1
            have z2 : w9.cell? ⟨bZ, 2, none⟩ = some (.int .i64 0) := RawAt.cell HZ.out 2
            clear b9
            have hW2 : Below w9.heap.size w9 w9.drew := (Below.refl _ _).drew
            have MK : Hid (∀ V : World, Below w9.heap.size w9 V → (fun V => V.cell? ⟨w.heap.size, 0, none⟩ = some (.int .i64 st.f) ∧ V.cell? ⟨bZ, 0, none⟩ = some (.int .i64 N) ∧ V.cell? ⟨bZ, 1, none⟩ = some (.slice A2 m c2) ∧ V.cell? ⟨bZ, 2, none⟩ = some (.int .i64 0)) V) := Lib.hid fun V hV => by
              have a1 := RawAt.below HP.out hV HP.out.lt
              have a2 := RawAt.below HZ.out hV HZ.out.lt
              exact ⟨RawAt.cell a1 0, RawAt.cell a2 0, RawAt.cell a2 1, RawAt.cell a2 2⟩
            have kK : decide ((K : Int) < st.f) = false := decide_eq_false (by omega)
            clear p0 p1 z0 z1 z2
            have HIW : Hid (winP PP st.f = wdIn N (-1) S fn) := Lib.hid (by rw [HFN.out]; exact HIE2.out)
            rw [HIW.out]
            go_wp2_with fail
            refine wp_region_noPanic ?_
            refine wp_region_held_drew (S := (fun V => V.cell? ⟨w.heap.size, 0, none⟩ = some (.int .i64 st.f) ∧ V.cell? ⟨bZ, 0, none⟩ = some (.int .i64 N) ∧ V.cell? ⟨bZ, 1, none⟩ = some (.slice A2 m c2) ∧ V.cell? ⟨bZ, 2, none⟩ = some (.int .i64 0))) (by kernel_rfl) (MK.out _ hW2) (fun hHeld => ?_)
            refine wpAnyH_take (i := 0) (v := ?_) rfl (by kernel_rfl) (by kernel_rfl) (by kernel_rfl) (fun _ _ _ h => h) (Or.inl ⟨by rfl, ?_⟩) hHeld ?_
            rotate_left
            · intro w hSw
              (try dsimp only at hSw)
              go_simp
              try with_reducible rfl
            go_simp
            refine wpAnyH_take (i := 1) (v := ?_) rfl (by kernel_rfl) (by kernel_rfl) (by kernel_rfl) (fun _ _ _ h => h) (Or.inl ⟨by rfl, ?_⟩) hHeld ?_
            rotate_left
            · intro w hSw
              (try dsimp only at hSw)
              go_simp
              try with_reducible rfl
            go_simp
            refine wpAnyH_take (i := 2) (v := ?_) rfl (by kernel_rfl) (by kernel_rfl) (by kernel_rfl) (fun _ _ _ h => h) (Or.inl ⟨by rfl, ?_⟩) hHeld ?_
            rotate_left
            · intro w hSw
              (try dsimp only at hSw)
              go_simp
              try with_reducible rfl
            go_simp
            refine wpAnyH_take (i := 3) (v := ?_) rfl (by kernel_rfl) (by kernel_rfl) (by kernel_rfl) (fun _ _ _ h => h) (Or.inl ⟨by rfl, ?_⟩) hHeld ?_
            rotate_left
            · intro w hSw
              (try dsimp only at hSw)
              go_simp
              try with_reducible rfl
            go_simp
            refine wpAnyH_take (i := 4) (v := ?_) rfl (by kernel_rfl) (by kernel_rfl) (by kernel_rfl) (fun _ _ _ h => h) (Or.inl ⟨by rfl, ?_⟩) hHeld ?_
            rotate_left
            · intro w hSw
              (try dsimp only at hSw)
              go_simp
              try with_reducible rfl
            go_simp
            refine wpAnyH_take (i := 5) (v := ?_) rfl (by kernel_rfl) (by kernel_rfl) (by kernel_rfl) (fun _ _ _ h => h) (Or.inl ⟨by rfl, ?_⟩) hHeld ?_
            rotate_left
            · intro w hSw
              (try dsimp only at hSw)
              go_simp
              try with_reducible rfl
            go_simp
            refine wpAnyH_take (i := 6) (v := ?_) rfl (by kernel_rfl) (by kernel_rfl) (by kernel_rfl) (fun _ _ _ h => h) (Or.inl ⟨by rfl, ?_⟩) hHeld ?_
            rotate_left
            · intro w hSw
              (try dsimp only at hSw)
              go_simp
              try with_reducible rfl
            go_simp
            refine wpAnyH_ready (rs := [7]) (by kernel_rfl) (by simp) ?_
            refine AllReadyH.cons rfl (fun K hK => ?_) ?_
            rotate_left
            · exact AllReadyH.nil
            go_simp
            go_wp2_with (first | (go_at_call 24; ((with_reducible refine (CSP.out _ (HA.out.below hW2)).mono ?_); rintro e wS ⟨vS, rfl, oS, bS⟩); obtain ⟨AS, cS, rfl⟩ := own_formI oS; have hW2 := hW2.trans (bS.mono hW2.size); clear oS))
            refine hK.out _ _ (by with_reducible exact MK.out _ hW2) (fun hHeld => ?_)
            clear hK K
            go_simp
            refine wpAnyH_take (i := 8) (v := ?_) rfl (by kernel_rfl) (by kernel_rfl) (by kernel_rfl) (fun _ _ _ h => h) (Or.inl ⟨by rfl, ?_⟩) hHeld ?_
            rotate_left
            · intro w hSw
              (try dsimp only at hSw)
              go_simp
              try with_reducible rfl
            go_simp
            refine wpAnyH_take (i := 9) (v := ?_) rfl (by kernel_rfl) (by kernel_rfl) (by kernel_rfl) (fun _ _ _ h => h) (Or.inl ⟨by rfl, ?_⟩) hHeld ?_
            rotate_left
            · intro w hSw
              (try dsimp only at hSw)
              go_simp
              try with_reducible rfl
            go_simp
            refine wpAnyH_take (i := 10) (v := ?_) rfl (by kernel_rfl) (by kernel_rfl) (by kernel_rfl) (fun _ _ _ h => h) (Or.inl ⟨by rfl, ?_⟩) hHeld ?_
            rotate_left
            · intro w hSw
              (try dsimp only at hSw)
              go_simp
              try with_reducible rfl
            go_simp
            refine wpAnyH_done (by kernel_rfl) ?_ _
            refine NoPanic.normal ?_
            have HQ := Lib.hid (HQ.out.trans (hW2.mono HQ.out.size))
            have HP := Lib.hid (RawAt.below HP.out hW2 HP.out.lt)
            have HZ := Lib.hid (RawAt.below HZ.out hW2 HZ.out.lt)
            have HA := Lib.hid (HA.out.below hW2)
            have p0 : wS.cell? ⟨w.heap.size, 0, none⟩ = some (.int .i64 st.f) := RawAt.cell HP.out 0
            have p1 : wS.cell? ⟨w.heap.size, 1, none⟩ = some (.int .i64 st.t) := RawAt.cell HP.out 1
            have z0 : wS.cell? ⟨bZ, 0, none⟩ = some (.int .i64 N) := RawAt.cell HZ.out 0
            have z1 : wS.cell? ⟨bZ, 1, none⟩ = some (.slice A2 m c2) := RawAt.cell HZ.out 1
            have z2 : wS.cell? ⟨bZ, 2, none⟩ = some (.int .i64 0) := RawAt.cell HZ.out 2
            clear hW2 MK
            have CRI2 := Lib.hid (CRI.out _ HA.out fn hfK)
            rw [← HFN.out] at CRI2
            generalize wdIn N (-1) S fn = R at *
            go_wp2_with fail
            with_reducible refine (CRI2.out).mono ?_
            rintro e w10 ⟨rfl, b10⟩
            have HQ := Lib.hid ((HQ.out.trans (b10.mono HQ.out.size)).alloc (by have := HQ.out.size; have := b10.size; omega) (.cells #[.int .i64 R.1, .int .i64 R.2] 45))
            have e0 : (w10.alloc (.cells #[.int .i64 R.1, .int .i64 R.2] 45)).cell? ⟨w10.heap.size, 0, none⟩ = some (.int .i64 R.1) := RawAt.cell (heap_alloc_new w10 _) 0
            have e1 : (w10.alloc (.cells #[.int .i64 R.1, .int .i64 R.2] 45)).cell? ⟨w10.heap.size, 1, none⟩ = some (.int .i64 R.2) := RawAt.cell (heap_alloc_new w10 _) 1
            clear b10 p0 p1 z0 z1 z2
            go_wp2_with fail
            with_reducible refine (C4.out _).mono ?_
            rintro e wF ⟨rfl, bF⟩
            have HQF := Lib.hid (HQ.out.trans (bF.mono HQ.out.size))
            clear bF
            go_wp2
            go_ret
            exact ⟨rfl, HQF.out⟩
        · have k2 : decide ((N : Int) < st.f) = false := decide_eq_false q2
          by_cases q3 : st.t = 0 ∨ st.t = 1
          · by_cases q4 : st.t = 0
            · have t1 : (st.t == 0) = true := by simpa using q4
              have t2 : (st.t != 0) = false := by simpa using q4
              clear q4
              have HEQ2 := Lib.hid (HEQ.out ⟨by omega, by omega⟩ q3)
              go_wp2_with fail
              with_reducible refine (COY.out _ (Below.refl _ _) ⟨by omega, by omega⟩ q3).mono ?_
              rintro e w7 ⟨rfl, b7⟩
              have HB7 := Lib.hid b7
              have HP := Lib.hid (RawAt.below HP.out b7 HP.out.lt)
              have HZ := Lib.hid (RawAt.below HZ.out b7 HZ.out.lt)
              have HA := Lib.hid (HA.out.below b7)
              have HQ := Lib.hid (HQ.out.trans (b7.mono HQ.out.size))
              clear p0 p1 z0 z1 z2
              have p0 : w7.cell? ⟨w.heap.size, 0, none⟩ = some (.int .i64 st.f) := RawAt.cell HP.out 0
              have p1 : w7.cell? ⟨w.heap.size, 1, none⟩ = some (.int .i64 st.t) := RawAt.cell HP.out 1
              have z0 : w7.cell? ⟨bZ, 0, none⟩ = some (.int .i64 N) := RawAt.cell HZ.out 0
              have z1 : w7.cell? ⟨bZ, 1, none⟩ = some (.slice A2 m c2) := RawAt.cell HZ.out 1
              have z2 : w7.cell? ⟨bZ, 2, none⟩ = some (.int .i64 0) := RawAt.cell HZ.out 2
              clear b7
              rw [HEQ2.out]
              generalize st.f + wosum st.f st.t o = OO at *
              skip
              go_wp2_with fail
              with_reducible refine (CRO.out _ HA.out ⟨by omega, by omega⟩).mono ?_
              rintro e w8 ⟨rfl, b8⟩
              have HB6 := Lib.hid (HB7.out.trans (b8.mono HB7.out.size))
              have HP := Lib.hid (RawAt.below HP.out b8 HP.out.lt)
              have HZ := Lib.hid (RawAt.below HZ.out b8 HZ.out.lt)
              have HA := Lib.hid (HA.out.below b8)
              have HQ := Lib.hid (HQ.out.trans (b8.mono HQ.out.size))
              clear p0 p1 z0 z1 z2
              have p0 : w8.cell? ⟨w.heap.size, 0, none⟩ = some (.int .i64 st.f) := RawAt.cell HP.out 0
              have p1 : w8.cell? ⟨w.heap.size, 1, none⟩ = some (.int .i64 st.t) := RawAt.cell HP.out 1
              have z0 : w8.cell? ⟨bZ, 0, none⟩ = some (.int .i64 N) := RawAt.cell HZ.out 0
              have z1 : w8.cell? ⟨bZ, 1, none⟩ = some (.slice A2 m c2) := RawAt.cell HZ.out 1
              have z2 : w8.cell? ⟨bZ, 2, none⟩ = some (.int .i64 0) := RawAt.cell HZ.out 2
              clear b8
              obtain ⟨fn, hfn⟩ : ∃ fn : Nat, st.f = fn := ⟨st.f.toNat, by omega⟩
              have hfK : fn ≤ K := by omega
              have HIE2 := Lib.hid (HIE.out fn hfK)
              have HFN := Lib.hid hfn
              have hfb : 0 ≤ st.f ∧ st.f ≤ T := ⟨by omega, by omega⟩
              clear hfn
              go_wp2_with fail
              with_reducible refine (CIY.out _ HB6.out hfb).mono ?_
              rintro e w9 ⟨rfl, b9⟩
              have HP := Lib.hid (RawAt.below HP.out b9 HP.out.lt)
              have HZ := Lib.hid (RawAt.below HZ.out b9 HZ.out.lt)
              have HA := Lib.hid (HA.out.below b9)
              have HQ := Lib.hid (HQ.out.trans (b9.mono HQ.out.size))
              clear p0 p1 z0 z1 z2
              have p0 : w9.cell? ⟨w.heap.size, 0, none⟩ = some (.int .i64 st.f) := RawAt.cell HP.out 0
              have p1 : w9.cell? ⟨w.heap.size, 1, none⟩ = some (.int .i64 st.t) := RawAt.cell HP.out 1
              have z0 : w9.cell? ⟨bZ, 0, none⟩ = some (.int .i64 N) := RawAt.cell HZ.out 0
              have z1 : w9.cell? ⟨bZ, 1, none⟩ = some (.slice A2 m c2) := RawAt.cell HZ.out 1
              have z2 : w9.cell? ⟨bZ, 2, none⟩ = some (.int .i64 0) := RawAt.cell HZ.out 2
              clear b9
              have hW2 : Below w9.heap.size w9 w9.drew := (Below.refl _ _).drew
              have MK : Hid (∀ V : World, Below w9.heap.size w9 V → (fun V => V.cell? ⟨w.heap.size, 0, none⟩ = some (.int .i64 st.f) ∧ V.cell? ⟨bZ, 0, none⟩ = some (.int .i64 N) ∧ V.cell? ⟨bZ, 1, none⟩ = some (.slice A2 m c2) ∧ V.cell? ⟨bZ, 2, none⟩ = some (.int .i64 0)) V) := Lib.hid fun V hV => by
                have a1 := RawAt.below HP.out hV HP.out.lt
                have a2 := RawAt.below HZ.out hV HZ.out.lt
                exact ⟨RawAt.cell a1 0, RawAt.cell a2 0, RawAt.cell a2 1, RawAt.cell a2 2⟩
              have kK : decide ((K : Int) < st.f) = false := decide_eq_false (by omega)
              clear p0 p1 z0 z1 z2
              have HIW : Hid (winP PP st.f = wdIn N (-1) S fn) := Lib.hid (by rw [HFN.out]; exact HIE2.out)
              rw [HIW.out]
              go_wp2_with fail
              refine wp_region_noPanic ?_
              refine wp_region_held_drew (S := (fun V => V.cell? ⟨w.heap.size, 0, none⟩ = some (.int .i64 st.f) ∧ V.cell? ⟨bZ, 0, none⟩ = some (.int .i64 N) ∧ V.cell? ⟨bZ, 1, none⟩ = some (.slice A2 m c2) ∧ V.cell? ⟨bZ, 2, none⟩ = some (.int .i64 0))) (by kernel_rfl) (MK.out _ hW2) (fun hHeld => ?_)
              refine wpAnyH_take (i := 0) (v := ?_) rfl (by kernel_rfl) (by kernel_rfl) (by kernel_rfl) (fun _ _ _ h => h) (Or.inl ⟨by rfl, ?_⟩) hHeld ?_
              rotate_left
              · intro w hSw
                (try dsimp only at hSw)
                go_simp
                try with_reducible rfl
              go_simp
              refine wpAnyH_take (i := 1) (v := ?_) rfl (by kernel_rfl) (by kernel_rfl) (by kernel_rfl) (fun _ _ _ h => h) (Or.inl ⟨by rfl, ?_⟩) hHeld ?_
              rotate_left
              · intro w hSw
                (try dsimp only at hSw)
                go_simp
                try with_reducible rfl
              go_simp
              refine wpAnyH_take (i := 2) (v := ?_) rfl (by kernel_rfl) (by kernel_rfl) (by kernel_rfl) (fun _ _ _ h => h) (Or.inl ⟨by rfl, ?_⟩) hHeld ?_
              rotate_left
              · intro w hSw
                (try dsimp only at hSw)
                go_simp
                try with_reducible rfl
              go_simp
              refine wpAnyH_take (i := 3) (v := ?_) rfl (by kernel_rfl) (by kernel_rfl) (by kernel_rfl) (fun _ _ _ h => h) (Or.inl ⟨by rfl, ?_⟩) hHeld ?_
              rotate_left
              · intro w hSw
                (try dsimp only at hSw)
                go_simp
                try with_reducible rfl
              go_simp
              refine wpAnyH_take (i := 4) (v := ?_) rfl (by kernel_rfl) (by kernel_rfl) (by kernel_rfl) (fun _ _ _ h => h) (Or.inl ⟨by rfl, ?_⟩) hHeld ?_
              rotate_left
              · intro w hSw
                (try dsimp only at hSw)
                go_simp
                try with_reducible rfl
              go_simp
              refine wpAnyH_take (i := 5) (v := ?_) rfl (by kernel_rfl) (by kernel_rfl) (by kernel_rfl) (fun _ _ _ h => h) (Or.inl ⟨by rfl, ?_⟩) hHeld ?_
              rotate_left
              · intro w hSw
                (try dsimp only at hSw)
                go_simp
                try with_reducible rfl
              go_simp
              refine wpAnyH_take (i := 6) (v := ?_) rfl (by kernel_rfl) (by kernel_rfl) (by kernel_rfl) (fun _ _ _ h => h) (Or.inl ⟨by rfl, ?_⟩) hHeld ?_
              rotate_left
              · intro w hSw
                (try dsimp only at hSw)
                go_simp
                try with_reducible rfl
              go_simp
              refine wpAnyH_ready (rs := [7]) (by kernel_rfl) (by simp) ?_
              refine AllReadyH.cons rfl (fun K hK => ?_) ?_
              rotate_left
              · exact AllReadyH.nil
              go_simp
              go_wp2_with (first | (go_at_call 24; ((with_reducible refine (CSP.out _ (HA.out.below hW2)).mono ?_); rintro e wS ⟨vS, rfl, oS, bS⟩); obtain ⟨AS, cS, rfl⟩ := own_formI oS; have hW2 := hW2.trans (bS.mono hW2.size); clear oS))
              refine hK.out _ _ (by with_reducible exact MK.out _ hW2) (fun hHeld => ?_)
              clear hK K
              go_simp
              refine wpAnyH_take (i := 8) (v := ?_) rfl (by kernel_rfl) (by kernel_rfl) (by kernel_rfl) (fun _ _ _ h => h) (Or.inl ⟨by rfl, ?_⟩) hHeld ?_
              rotate_left
              · intro w hSw
                (try dsimp only at hSw)
                go_simp
                try with_reducible rfl
              go_simp
              refine wpAnyH_take (i := 9) (v := ?_) rfl (by kernel_rfl) (by kernel_rfl) (by kernel_rfl) (fun _ _ _ h => h) (Or.inl ⟨by rfl, ?_⟩) hHeld ?_
              rotate_left
              · intro w hSw
                (try dsimp only at hSw)
                go_simp
                try with_reducible rfl
              go_simp
              refine wpAnyH_take (i := 10) (v := ?_) rfl (by kernel_rfl) (by kernel_rfl) (by kernel_rfl) (fun _ _ _ h => h) (Or.inl ⟨by rfl, ?_⟩) hHeld ?_
              rotate_left
              · intro w hSw
                (try dsimp only at hSw)
                go_simp
                try with_reducible rfl
              go_simp
              refine wpAnyH_done (by kernel_rfl) ?_ _
              refine NoPanic.normal ?_
              have HQ := Lib.hid (HQ.out.trans (hW2.mono HQ.out.size))
              have HP := Lib.hid (RawAt.below HP.out hW2 HP.out.lt)
              have HZ := Lib.hid (RawAt.below HZ.out hW2 HZ.out.lt)
              have HA := Lib.hid (HA.out.below hW2)
              have p0 : wS.cell? ⟨w.heap.size, 0, none⟩ = some (.int .i64 st.f) := RawAt.cell HP.out 0
              have p1 : wS.cell? ⟨w.heap.size, 1, none⟩ = some (.int .i64 st.t) := RawAt.cell HP.out 1
              have z0 : wS.cell? ⟨bZ, 0, none⟩ = some (.int .i64 N) := RawAt.cell HZ.out 0
              have z1 : wS.cell? ⟨bZ, 1, none⟩ = some (.slice A2 m c2) := RawAt.cell HZ.out 1
              have z2 : wS.cell? ⟨bZ, 2, none⟩ = some (.int .i64 0) := RawAt.cell HZ.out 2
              clear hW2 MK
              have CRI2 := Lib.hid (CRI.out _ HA.out fn hfK)
              rw [← HFN.out] at CRI2
              generalize wdIn N (-1) S fn = R at *
              go_wp2_with fail
              with_reducible refine (CRI2.out).mono ?_
              rintro e w10 ⟨rfl, b10⟩
              have HQ := Lib.hid ((HQ.out.trans (b10.mono HQ.out.size)).alloc (by have := HQ.out.size; have := b10.size; omega) (.cells #[.int .i64 R.1, .int .i64 R.2] 45))
              have e0 : (w10.alloc (.cells #[.int .i64 R.1, .int .i64 R.2] 45)).cell? ⟨w10.heap.size, 0, none⟩ = some (.int .i64 R.1) := RawAt.cell (heap_alloc_new w10 _) 0
              have e1 : (w10.alloc (.cells #[.int .i64 R.1, .int .i64 R.2] 45)).cell? ⟨w10.heap.size, 1, none⟩ = some (.int .i64 R.2) := RawAt.cell (heap_alloc_new w10 _) 1
              clear b10 p0 p1 z0 z1 z2
              go_wp2_with fail
              with_reducible refine (C4.out _).mono ?_
              rintro e wF ⟨rfl, bF⟩
              have HQF := Lib.hid (HQ.out.trans (bF.mono HQ.out.size))
              clear bF
              go_wp2
              go_ret
              exact ⟨rfl, HQF.out⟩
            · have t0 : st.t = 1 := by omega
              have t1 : (st.t == 0) = false := by simpa using q4
              have t2 : (st.t != 0) = true := by simpa using q4
              have t3 : (st.t != 1) = false := by simpa using t0
              have t4 : (st.t == 1) = true := by simpa using t0
              clear t0 q4
              have HEQ2 := Lib.hid (HEQ.out ⟨by omega, by omega⟩ q3)
              go_wp2_with fail
              with_reducible refine (COY.out _ (Below.refl _ _) ⟨by omega, by omega⟩ q3).mono ?_
              rintro e w7 ⟨rfl, b7⟩
              have HB7 := Lib.hid b7
              have HP := Lib.hid (RawAt.below HP.out b7 HP.out.lt)
              have HZ := Lib.hid (RawAt.below HZ.out b7 HZ.out.lt)
              have HA := Lib.hid (HA.out.below b7)
              have HQ := Lib.hid (HQ.out.trans (b7.mono HQ.out.size))
              clear p0 p1 z0 z1 z2
              have p0 : w7.cell? ⟨w.heap.size, 0, none⟩ = some (.int .i64 st.f) := RawAt.cell HP.out 0
              have p1 : w7.cell? ⟨w.heap.size, 1, none⟩ = some (.int .i64 st.t) := RawAt.cell HP.out 1
              have z0 : w7.cell? ⟨bZ, 0, none⟩ = some (.int .i64 N) := RawAt.cell HZ.out 0
              have z1 : w7.cell? ⟨bZ, 1, none⟩ = some (.slice A2 m c2) := RawAt.cell HZ.out 1
              have z2 : w7.cell? ⟨bZ, 2, none⟩ = some (.int .i64 0) := RawAt.cell HZ.out 2
              clear b7
              rw [HEQ2.out]
              generalize st.f + wosum st.f st.t o = OO at *
              skip
              go_wp2_with fail
              with_reducible refine (CRO.out _ HA.out ⟨by omega, by omega⟩).mono ?_
              rintro e w8 ⟨rfl, b8⟩
              have HB6 := Lib.hid (HB7.out.trans (b8.mono HB7.out.size))
              have HP := Lib.hid (RawAt.below HP.out b8 HP.out.lt)
              have HZ := Lib.hid (RawAt.below HZ.out b8 HZ.out.lt)
              have HA := Lib.hid (HA.out.below b8)
              have HQ := Lib.hid (HQ.out.trans (b8.mono HQ.out.size))
              clear p0 p1 z0 z1 z2
              have p0 : w8.cell? ⟨w.heap.size, 0, none⟩ = some (.int .i64 st.f) := RawAt.cell HP.out 0
              have p1 : w8.cell? ⟨w.heap.size, 1, none⟩ = some (.int .i64 st.t) := RawAt.cell HP.out 1
              have z0 : w8.cell? ⟨bZ, 0, none⟩ = some (.int .i64 N) := RawAt.cell HZ.out 0
              have z1 : w8.cell? ⟨bZ, 1, none⟩ = some (.slice A2 m c2) := RawAt.cell HZ.out 1
              have z2 : w8.cell? ⟨bZ, 2, none⟩ = some (.int .i64 0) := RawAt.cell HZ.out 2
              clear b8
              obtain ⟨fn, hfn⟩ : ∃ fn : Nat, st.f = fn := ⟨st.f.toNat, by omega⟩
              have hfK : fn ≤ K := by omega
              have HIE2 := Lib.hid (HIE.out fn hfK)
              have HFN := Lib.hid hfn
              have hfb : 0 ≤ st.f ∧ st.f ≤ T := ⟨by omega, by omega⟩
              clear hfn
              go_wp2_with fail
              with_reducible refine (CIY.out _ HB6.out hfb).mono ?_
              rintro e w9 ⟨rfl, b9⟩
              have HP := Lib.hid (RawAt.below HP.out b9 HP.out.lt)
              have HZ := Lib.hid (RawAt.below HZ.out b9 HZ.out.lt)
              have HA := Lib.hid (HA.out.below b9)
              have HQ := Lib.hid (HQ.out.trans (b9.mono HQ.out.size))
              clear p0 p1 z0 z1 z2
              have p0 : w9.cell? ⟨w.heap.size, 0, none⟩ = some (.int .i64 st.f) := RawAt.cell HP.out 0
              have p1 : w9.cell? ⟨w.heap.size, 1, none⟩ = some (.int .i64 st.t) := RawAt.cell HP.out 1
              have z0 : w9.cell? ⟨bZ, 0, none⟩ = some (.int .i64 N) := RawAt.cell HZ.out 0
              have z1 : w9.cell? ⟨bZ, 1, none⟩ = some (.slice A2 m c2) := RawAt.cell HZ.out 1
              have z2 : w9.cell? ⟨bZ, 2, none⟩ = some (.int .i64 0) := RawAt.cell HZ.out 2
              clear b9
              have hW2 : Below w9.heap.size w9 w9.drew := (Below.refl _ _).drew
              have MK : Hid (∀ V : World, Below w9.heap.size w9 V → (fun V => V.cell? ⟨w.heap.size, 0, none⟩ = some (.int .i64 st.f) ∧ V.cell? ⟨bZ, 0, none⟩ = some (.int .i64 N) ∧ V.cell? ⟨bZ, 1, none⟩ = some (.slice A2 m c2) ∧ V.cell? ⟨bZ, 2, none⟩ = some (.int .i64 0)) V) := Lib.hid fun V hV => by
                have a1 := RawAt.below HP.out hV HP.out.lt
                have a2 := RawAt.below HZ.out hV HZ.out.lt
                exact ⟨RawAt.cell a1 0, RawAt.cell a2 0, RawAt.cell a2 1, RawAt.cell a2 2⟩
              have kK : decide ((K : Int) < st.f) = false := decide_eq_false (by omega)
              clear p0 p1 z0 z1 z2
              have HIW : Hid (winP PP st.f = wdIn N (-1) S fn) := Lib.hid (by rw [HFN.out]; exact HIE2.out)
              rw [HIW.out]
              go_wp2_with fail
              refine wp_region_noPanic ?_
              refine wp_region_held_drew (S := (fun V => V.cell? ⟨w.heap.size, 0, none⟩ = some (.int .i64 st.f) ∧ V.cell? ⟨bZ, 0, none⟩ = some (.int .i64 N) ∧ V.cell? ⟨bZ, 1, none⟩ = some (.slice A2 m c2) ∧ V.cell? ⟨bZ, 2, none⟩ = some (.int .i64 0))) (by kernel_rfl) (MK.out _ hW2) (fun hHeld => ?_)
              refine wpAnyH_take (i := 0) (v := ?_) rfl (by kernel_rfl) (by kernel_rfl) (by kernel_rfl) (fun _ _ _ h => h) (Or.inl ⟨by rfl, ?_⟩) hHeld ?_
              rotate_left
              · intro w hSw
                (try dsimp only at hSw)
                go_simp
                try with_reducible rfl
              go_simp
              refine wpAnyH_take (i := 1) (v := ?_) rfl (by kernel_rfl) (by kernel_rfl) (by kernel_rfl) (fun _ _ _ h => h) (Or.inl ⟨by rfl, ?_⟩) hHeld ?_
              rotate_left
              · intro w hSw
                (try dsimp only at hSw)
                go_simp
                try with_reducible rfl
              go_simp
              refine wpAnyH_take (i := 2) (v := ?_) rfl (by kernel_rfl) (by kernel_rfl) (by kernel_rfl) (fun _ _ _ h => h) (Or.inl ⟨by rfl, ?_⟩) hHeld ?_
              rotate_left
              · intro w hSw
                (try dsimp only at hSw)
                go_simp
                try with_reducible rfl
              go_simp
              refine wpAnyH_take (i := 3) (v := ?_) rfl (by kernel_rfl) (by kernel_rfl) (by kernel_rfl) (fun _ _ _ h => h) (Or.inl ⟨by rfl, ?_⟩) hHeld ?_
              rotate_left
              · intro w hSw
                (try dsimp only at hSw)
                go_simp
                try with_reducible rfl
              go_simp
              refine wpAnyH_take (i := 4) (v := ?_) rfl (by kernel_rfl) (by kernel_rfl) (by kernel_rfl) (fun _ _ _ h => h) (Or.inl ⟨by rfl, ?_⟩) hHeld ?_
              rotate_left
              · intro w hSw
                (try dsimp only at hSw)
                go_simp
                try with_reducible rfl
              go_simp
              refine wpAnyH_take (i := 5) (v := ?_) rfl (by kernel_rfl) (by kernel_rfl) (by kernel_rfl) (fun _ _ _ h => h) (Or.inl ⟨by rfl, ?_⟩) hHeld ?_
              rotate_left
              · intro w hSw
                (try dsimp only at hSw)
                go_simp
                try with_reducible rfl
              go_simp
              refine wpAnyH_take (i := 6) (v := ?_) rfl (by kernel_rfl) (by kernel_rfl) (by kernel_rfl) (fun _ _ _ h => h) (Or.inl ⟨by rfl, ?_⟩) hHeld ?_
              rotate_left
              · intro w hSw
                (try dsimp only at hSw)
                go_simp
                try with_reducible rfl
              go_simp
              refine wpAnyH_ready (rs := [7]) (by kernel_rfl) (by simp) ?_
              refine AllReadyH.cons rfl (fun K hK => ?_) ?_
              rotate_left
              · exact AllReadyH.nil
              go_simp
              go_wp2_with (first | (go_at_call 24; ((with_reducible refine (CSP.out _ (HA.out.below hW2)).mono ?_); rintro e wS ⟨vS, rfl, oS, bS⟩); obtain ⟨AS, cS, rfl⟩ := own_formI oS; have hW2 := hW2.trans (bS.mono hW2.size); clear oS))
              refine hK.out _ _ (by with_reducible exact MK.out _ hW2) (fun hHeld => ?_)
              clear hK K
              go_simp
              refine wpAnyH_take (i := 8) (v := ?_) rfl (by kernel_rfl) (by kernel_rfl) (by kernel_rfl) (fun _ _ _ h => h) (Or.inl ⟨by rfl, ?_⟩) hHeld ?_
              rotate_left
              · intro w hSw
                (try dsimp only at hSw)
                go_simp
                try with_reducible rfl
              go_simp
              refine wpAnyH_take (i := 9) (v := ?_) rfl (by kernel_rfl) (by kernel_rfl) (by kernel_rfl) (fun _ _ _ h => h) (Or.inl ⟨by rfl, ?_⟩) hHeld ?_
              rotate_left
              · intro w hSw
                (try dsimp only at hSw)
                go_simp
                try with_reducible rfl
              go_simp
              refine wpAnyH_take (i := 10) (v := ?_) rfl (by kernel_rfl) (by kernel_rfl) (by kernel_rfl) (fun _ _ _ h => h) (Or.inl ⟨by rfl, ?_⟩) hHeld ?_
              rotate_left
              · intro w hSw
                (try dsimp only at hSw)
                go_simp
                try with_reducible rfl
              go_simp
              refine wpAnyH_done (by kernel_rfl) ?_ _
              refine NoPanic.normal ?_
              have HQ := Lib.hid (HQ.out.trans (hW2.mono HQ.out.size))
              have HP := Lib.hid (RawAt.below HP.out hW2 HP.out.lt)
              have HZ := Lib.hid (RawAt.below HZ.out hW2 HZ.out.lt)
              have HA := Lib.hid (HA.out.below hW2)
              have p0 : wS.cell? ⟨w.heap.size, 0, none⟩ = some (.int .i64 st.f) := RawAt.cell HP.out 0
              have p1 : wS.cell? ⟨w.heap.size, 1, none⟩ = some (.int .i64 st.t) := RawAt.cell HP.out 1
              have z0 : wS.cell? ⟨bZ, 0, none⟩ = some (.int .i64 N) := RawAt.cell HZ.out 0
              have z1 : wS.cell? ⟨bZ, 1, none⟩ = some (.slice A2 m c2) := RawAt.cell HZ.out 1
              have z2 : wS.cell? ⟨bZ, 2, none⟩ = some (.int .i64 0) := RawAt.cell HZ.out 2
              clear hW2 MK
              have CRI2 := Lib.hid (CRI.out _ HA.out fn hfK)
              rw [← HFN.out] at CRI2
              generalize wdIn N (-1) S fn = R at *
              go_wp2_with fail
              with_reducible refine (CRI2.out).mono ?_
              rintro e w10 ⟨rfl, b10⟩
              have HQ := Lib.hid ((HQ.out.trans (b10.mono HQ.out.size)).alloc (by have := HQ.out.size; have := b10.size; omega) (.cells #[.int .i64 R.1, .int .i64 R.2] 45))
              have e0 : (w10.alloc (.cells #[.int .i64 R.1, .int .i64 R.2] 45)).cell? ⟨w10.heap.size, 0, none⟩ = some (.int .i64 R.1) := RawAt.cell (heap_alloc_new w10 _) 0
              have e1 : (w10.alloc (.cells #[.int .i64 R.1, .int .i64 R.2] 45)).cell? ⟨w10.heap.size, 1, none⟩ = some (.int .i64 R.2) := RawAt.cell (heap_alloc_new w10 _) 1
              clear b10 p0 p1 z0 z1 z2
              go_wp2_with fail
              with_reducible refine (C4.out _).mono ?_
              rintro e wF ⟨rfl, bF⟩
              have HQF := Lib.hid (HQ.out.trans (bF.mono HQ.out.size))
              clear bF
              go_wp2
              go_ret
              exact ⟨rfl, HQF.out⟩
          · have t1 : (st.t == 0) = false := by simp; omega
            have t2 : (st.t != 0) = true := by simp; omega
            have t3 : (st.t != 1) = true := by simp; omega
            have t4 : (st.t == 1) = false := by simp; omega
            go_wp2_with fail
            with_reducible refine (CON.out _ (Below.refl _ _) (by omega)).mono ?_
            rintro e w7 ⟨rfl, b7⟩
            have HB6 := Lib.hid b7
            have HP := Lib.hid (RawAt.below HP.out b7 HP.out.lt)
            have HZ := Lib.hid (RawAt.below HZ.out b7 HZ.out.lt)
            have HA := Lib.hid (HA.out.below b7)
            have HQ := Lib.hid (HQ.out.trans (b7.mono HQ.out.size))
            clear p0 p1 z0 z1 z2
            have p0 : w7.cell? ⟨w.heap.size, 0, none⟩ = some (.int .i64 st.f) := RawAt.cell HP.out 0
            have p1 : w7.cell? ⟨w.heap.size, 1, none⟩ = some (.int .i64 st.t) := RawAt.cell HP.out 1
            have z0 : w7.cell? ⟨bZ, 0, none⟩ = some (.int .i64 N) := RawAt.cell HZ.out 0
            have z1 : w7.cell? ⟨bZ, 1, none⟩ = some (.slice A2 m c2) := RawAt.cell HZ.out 1
            have z2 : w7.cell? ⟨bZ, 2, none⟩ = some (.int .i64 0) := RawAt.cell HZ.out 2
            clear b7
            obtain ⟨fn, hfn⟩ : ∃ fn : Nat, st.f = fn := ⟨st.f.toNat, by omega⟩
            have hfK : fn ≤ K := by omega
            have HIE2 := Lib.hid (HIE.out fn hfK)
            have HFN := Lib.hid hfn
            have hfb : 0 ≤ st.f ∧ st.f ≤ T := ⟨by omega, by omega⟩
            clear hfn
            go_wp2_with fail
            with_reducible refine (CIY.out _ HB6.out hfb).mono ?_
            rintro e w9 ⟨rfl, b9⟩
            have HP := Lib.hid (RawAt.below HP.out b9 HP.out.lt)
            have HZ := Lib.hid (RawAt.below HZ.out b9 HZ.out.lt)
            have HA := Lib.hid (HA.out.below b9)
            have HQ := Lib.hid (HQ.out.trans (b9.mono HQ.out.size))
            clear p0 p1 z0 z1 z2
            have p0 : w9.cell? ⟨w.heap.size, 0, none⟩ = some (.int .i64 st.f) := RawAt.cell HP.out 0
            have p1 : w9.cell? ⟨w.heap.size, 1, none⟩ = some (.int .i64 st.t) := RawAt.cell HP.out 1
            have z0 : w9.cell? ⟨bZ, 0, none⟩ = some (.int .i64 N) := RawAt.cell HZ.out 0
            have z1 : w9.cell? ⟨bZ, 1, none⟩ = some (.slice A2 m c2) := RawAt.cell HZ.out 1
            have z2 : w9.cell? ⟨bZ, 2, none⟩ = some (.int .i64 0) := RawAt.cell HZ.out 2
            clear b9
            have hW2 : Below w9.heap.size w9 w9.drew := (Below.refl _ _).drew
            have MK : Hid (∀ V : World, Below w9.heap.size w9 V → (fun V => V.cell? ⟨w.heap.size, 0, none⟩ = some (.int .i64 st.f) ∧ V.cell? ⟨bZ, 0, none⟩ = some (.int .i64 N) ∧ V.cell? ⟨bZ, 1, none⟩ = some (.slice A2 m c2) ∧ V.cell? ⟨bZ, 2, none⟩ = some (.int .i64 0)) V) := Lib.hid fun V hV => by
              have a1 := RawAt.below HP.out hV HP.out.lt
              have a2 := RawAt.below HZ.out hV HZ.out.lt
              exact ⟨RawAt.cell a1 0, RawAt.cell a2 0, RawAt.cell a2 1, RawAt.cell a2 2⟩
            have kK : decide ((K : Int) < st.f) = false := decide_eq_false (by omega)
            clear p0 p1 z0 z1 z2
            have HIW : Hid (winP PP st.f = wdIn N (-1) S fn) := Lib.hid (by rw [HFN.out]; exact HIE2.out)
            rw [HIW.out]
            go_wp2_with fail
            refine wp_region_noPanic ?_
            refine wp_region_held_drew (S := (fun V => V.cell? ⟨w.heap.size, 0, none⟩ = some (.int .i64 st.f) ∧ V.cell? ⟨bZ, 0, none⟩ = some (.int .i64 N) ∧ V.cell? ⟨bZ, 1, none⟩ = some (.slice A2 m c2) ∧ V.cell? ⟨bZ, 2, none⟩ = some (.int .i64 0))) (by kernel_rfl) (MK.out _ hW2) (fun hHeld => ?_)
            refine wpAnyH_take (i := 0) (v := ?_) rfl (by kernel_rfl) (by kernel_rfl) (by kernel_rfl) (fun _ _ _ h => h) (Or.inl ⟨by rfl, ?_⟩) hHeld ?_
            rotate_left
            · intro w hSw
              (try dsimp only at hSw)
              go_simp
              try with_reducible rfl
            go_simp
            refine wpAnyH_take (i := 1) (v := ?_) rfl (by kernel_rfl) (by kernel_rfl) (by kernel_rfl) (fun _ _ _ h => h) (Or.inl ⟨by rfl, ?_⟩) hHeld ?_
            rotate_left
            · intro w hSw
              (try dsimp only at hSw)
              go_simp
              try with_reducible rfl
            go_simp
            refine wpAnyH_take (i := 2) (v := ?_) rfl (by kernel_rfl) (by kernel_rfl) (by kernel_rfl) (fun _ _ _ h => h) (Or.inl ⟨by rfl, ?_⟩) hHeld ?_
            rotate_left
            · intro w hSw
              (try dsimp only at hSw)
              go_simp
              try with_reducible rfl
            go_simp
            refine wpAnyH_take (i := 3) (v := ?_) rfl (by kernel_rfl) (by kernel_rfl) (by kernel_rfl) (fun _ _ _ h => h) (Or.inl ⟨by rfl, ?_⟩) hHeld ?_
            rotate_left
            · intro w hSw
              (try dsimp only at hSw)
              go_simp
              try with_reducible rfl
            go_simp
            refine wpAnyH_take (i := 4) (v := ?_) rfl (by kernel_rfl) (by kernel_rfl) (by kernel_rfl) (fun _ _ _ h => h) (Or.inl ⟨by rfl, ?_⟩) hHeld ?_
            rotate_left
            · intro w hSw
              (try dsimp only at hSw)
              go_simp
              try with_reducible rfl
            go_simp
            refine wpAnyH_take (i := 5) (v := ?_) rfl (by kernel_rfl) (by kernel_rfl) (by kernel_rfl) (fun _ _ _ h => h) (Or.inl ⟨by rfl, ?_⟩) hHeld ?_
            rotate_left
            · intro w hSw
              (try dsimp only at hSw)
              go_simp
              try with_reducible rfl
            go_simp
            refine wpAnyH_take (i := 6) (v := ?_) rfl (by kernel_rfl) (by kernel_rfl) (by kernel_rfl) (fun _ _ _ h => h) (Or.inl ⟨by rfl, ?_⟩) hHeld ?_
            rotate_left
            · intro w hSw
              (try dsimp only at hSw)
              go_simp
              try with_reducible rfl
            go_simp
            refine wpAnyH_ready (rs := [7]) (by kernel_rfl) (by simp) ?_
            refine AllReadyH.cons rfl (fun K hK => ?_) ?_
            rotate_left
            · exact AllReadyH.nil
            go_simp
            go_wp2_with (first | (go_at_call 24; ((with_reducible refine (CSP.out _ (HA.out.below hW2)).mono ?_); rintro e wS ⟨vS, rfl, oS, bS⟩); obtain ⟨AS, cS, rfl⟩ := own_formI oS; have hW2 := hW2.trans (bS.mono hW2.size); clear oS))
            refine hK.out _ _ (by with_reducible exact MK.out _ hW2) (fun hHeld => ?_)
            clear hK K
            go_simp
            refine wpAnyH_take (i := 8) (v := ?_) rfl (by kernel_rfl) (by kernel_rfl) (by kernel_rfl) (fun _ _ _ h => h) (Or.inl ⟨by rfl, ?_⟩) hHeld ?_
            rotate_left
            · intro w hSw
              (try dsimp only at hSw)
              go_simp
              try with_reducible rfl
            go_simp
            refine wpAnyH_take (i := 9) (v := ?_) rfl (by kernel_rfl) (by kernel_rfl) (by kernel_rfl) (fun _ _ _ h => h) (Or.inl ⟨by rfl, ?_⟩) hHeld ?_
            rotate_left
            · intro w hSw
              (try dsimp only at hSw)
              go_simp
              try with_reducible rfl
            go_simp
            refine wpAnyH_take (i := 10) (v := ?_) rfl (by kernel_rfl) (by kernel_rfl) (by kernel_rfl) (fun _ _ _ h => h) (Or.inl ⟨by rfl, ?_⟩) hHeld ?_
            rotate_left
            · intro w hSw
              (try dsimp only at hSw)
              go_simp
              try with_reducible rfl
            go_simp
            refine wpAnyH_done (by kernel_rfl) ?_ _
            refine NoPanic.normal ?_
            have HQ := Lib.hid (HQ.out.trans (hW2.mono HQ.out.size))
            have HP := Lib.hid (RawAt.below HP.out hW2 HP.out.lt)
            have HZ := Lib.hid (RawAt.below HZ.out hW2 HZ.out.lt)
            have HA := Lib.hid (HA.out.below hW2)
            have p0 : wS.cell? ⟨w.heap.size, 0, none⟩ = some (.int .i64 st.f) := RawAt.cell HP.out 0
            have p1 : wS.cell? ⟨w.heap.size, 1, none⟩ = some (.int .i64 st.t) := RawAt.cell HP.out 1
            have z0 : wS.cell? ⟨bZ, 0, none⟩ = some (.int .i64 N) := RawAt.cell HZ.out 0
            have z1 : wS.cell? ⟨bZ, 1, none⟩ = some (.slice A2 m c2) := RawAt.cell HZ.out 1
            have z2 : wS.cell? ⟨bZ, 2, none⟩ = some (.int .i64 0) := RawAt.cell HZ.out 2
            clear hW2 MK
            have CRI2 := Lib.hid (CRI.out _ HA.out fn hfK)
            rw [← HFN.out] at CRI2
            generalize wdIn N (-1) S fn = R at *
            go_wp2_with fail
            with_reducible refine (CRI2.out).mono ?_
            rintro e w10 ⟨rfl, b10⟩
            have HQ := Lib.hid ((HQ.out.trans (b10.mono HQ.out.size)).alloc (by have := HQ.out.size; have := b10.size; omega) (.cells #[.int .i64 R.1, .int .i64 R.2] 45))
            have e0 : (w10.alloc (.cells #[.int .i64 R.1, .int .i64 R.2] 45)).cell? ⟨w10.heap.size, 0, none⟩ = some (.int .i64 R.1) := RawAt.cell (heap_alloc_new w10 _) 0
            have e1 : (w10.alloc (.cells #[.int .i64 R.1, .int .i64 R.2] 45)).cell? ⟨w10.heap.size, 1, none⟩ = some (.int .i64 R.2) := RawAt.cell (heap_alloc_new w10 _) 1
            clear b10 p0 p1 z0 z1 z2
            go_wp2_with fail
            with_reducible refine (C4.out _).mono ?_
            rintro e wF ⟨rfl, bF⟩
            have HQF := Lib.hid (HQ.out.trans (bF.mono HQ.out.size))
            clear bF
            go_wp2
            go_ret
            exact ⟨rfl, HQF.out⟩
    · have k1 : (r == 0) = false := by simpa using hz
      have k2 : (r != 0) = true := by simpa using hz
      go_enter Tryz.func4, Tryz.ntmps4
      go_wp2_with fail
      rw [← HW1.out]
      with_reducible refine (CLF.out).mono ?_
      rintro e w2 ⟨rfl, b2⟩
      have HQ2 := Lib.hid (X1.out.trans (b2.mono X1.out.size))
      clear b2
      go_wp2_with fail
      with_reducible refine (CN.out _ HQ2.out).mono ?_
      rintro e w3 ⟨p, rfl, hp1, hp2, b3⟩
      obtain rfl := hp1 hz
      have HQ3 := Lib.hid (HQ2.out.trans (b3.mono HQ2.out.size))
      clear b3 hp1 hp2
      go_wp2_with fail
      with_reducible refine (CR.out _ HQ3.out).mono ?_
      rintro e w4 ⟨nn, A2, m2, c2, rfl, hres, b4⟩
      have HQ4 := Lib.hid (HQ3.out.trans (b4.mono HQ3.out.size))
      have x5 : Below w4.heap.size w4 (w4.alloc (.cells #[.int .i64 nn, .slice A2 m2 c2, .int .i64 r] 30)) := (Below.refl _ _).alloc (Nat.le_refl _) _
      have HQ5 := Lib.hid (HQ4.out.trans (x5.mono HQ4.out.size))
      have e2 : (w4.alloc (.cells #[.int .i64 nn, .slice A2 m2 c2, .int .i64 r] 30)).cell? ⟨w4.heap.size, 2, none⟩ = some (.int .i64 r) := RawAt.cell (heap_alloc_new w4 _) 2
      clear b4 x5 hres hz
      go_wp2_with fail
      with_reducible refine (C4.out _).mono ?_
      rintro e w6 ⟨rfl, b6⟩
      have HQ6 := Lib.hid (HQ5.out.trans (b6.mono HQ5.out.size))
      clear b6
      go_wp2
      go_ret
      exact ⟨rfl, HQ6.out⟩
  · have CLT := Lib.hid (CLO.out true ⟨fun _ => g, fun _ => rfl⟩)
    clear CLO hI hO hc g
    go_enter Tryz.func4, Tryz.ntmps4
    go_wp2_with fail
    rw [← HW1.out]
    with_reducible refine (CLT.out).mono ?_
    rintro e w2 ⟨rfl, b2⟩
    have HQ2 := Lib.hid (X1.out.trans (b2.mono X1.out.size))
    clear b2
    go_wp2_with fail
    with_reducible refine (C4.out _).mono ?_
    rintro e w3 ⟨rfl, b3⟩
    have HQ3 := Lib.hid (HQ2.out.trans (b3.mono HQ2.out.size))
    clear b3
    go_wp2
    go_ret
    exact ⟨rfl, HQ3.out⟩
end Go.Proofs.YtjkkngldiimkjaaGreat
