/- Weaves: the law WeaveNew, walked. -/
import Derived.Test.YtjkkngldiimkjaaGreatWvL
import Derived.Test.YtjkkngldiimkjaaGreatInO
namespace Go.Proofs.YtjkkngldiimkjaaGreat
open Go.RowKit Go.Sort
set_option linter.unusedVariables false
set_option maxHeartbeats 16000000 in
set_option maxRecDepth 100000 in
theorem weaveNew_walk (n : Int) (A : Option Addr) (m c : Nat) (l : List In) (w : World) (_wf : (Lit.int .i64 n).wf = true) (hI : RowsAt encI 5 w A l) (hl : l.length = m) (hn : m ≤ maxLen) (hc : Caps A m c) (hO : ∀ s ∈ l, InOk s) :
    Calls Tryz.prog 3 #[.int .i64 n, .slice A m c] w fun e w' => e = .returned (.bool true) ∧ Below w.heap.size w w' := by
  have C4 := Lib.hid fun W => four_any W
  have CLO := Lib.hid fun (b : Bool) (hb : b = true ↔ ¬ Short14 n l) => long14_any n A m c l b w hI hl hn (fun x hx => (hO x hx).2.2.2.2) hb
  by_cases g : Short14 n l
  · have CLF := Lib.hid (CLO.out false ⟨fun h => absurd h (by simp), fun h => absurd g h⟩)
    obtain ⟨g0, g1, g2, g3⟩ := g
    have hm : m ≤ 60 := by rw [← hl]; exact g2
    have ht : ∀ x ∈ l, x.tx.size ≤ 100000000 := fun x hx => Nat.le_trans (g3 x hx) (by omega)
    obtain ⟨r, hr⟩ : ∃ r, r = iwrong n l := ⟨_, rfl⟩
    have CN := Lib.hid fun (W : World) (hW : Below w.heap.size w W) => iNew_any n A m c l W (hI.below hW) hc hl (fun a ha => (hO a ha).1) ht r hr.symm
    have CR := Lib.hid fun (W : World) (hW : Below w.heap.size w W) => rNew13_any n A m c l W (hI.below hW) hc hl ht r hr.symm
    have hol : (ord ilt (l.map icl)).length = m := by rw [(ord_perm ilt ilt_swo _).length_eq, List.length_map]; exact hl
    have HOL := Lib.hid hol
    have HOS : Hid (r = 0 → wOSet n (ord ilt (l.map icl))) := Lib.hid fun h => woset_new (hr.symm.trans h) g3
    have HL := Lib.hid hl
    clear CLO hr hI hl hol ht hO hc g3 g2
    obtain ⟨N, rfl⟩ : ∃ N : Nat, n = N := ⟨n.toNat, by omega⟩
    generalize ho : ord ilt (l.map icl) = o at *
    have HO := Lib.hid ho
    clear ho
    by_cases hz : r = 0
    · subst hz
      have HS := Lib.hid (HOS.out (by first | exact trivial | rfl))
      clear HOS
      go_enter Tryz.func3, Tryz.ntmps3
      go_wp2_with fail
      with_reducible refine (CLF.out).mono ?_
      rintro e w2 ⟨rfl, b2⟩
      have HQ2 := Lib.hid b2
      clear b2
      go_wp2_with fail
      with_reducible refine (CN.out _ HQ2.out).mono ?_
      rintro e w3 ⟨p, rfl, hp1, hp2, b3⟩
      obtain ⟨sb, rfl, hs⟩ := hp2 (by first | exact trivial | rfl)
      have HI3 := Lib.hid hs
      have HQ3 := Lib.hid (HQ2.out.trans (b3.mono HQ2.out.size))
      clear b3 hp1 hp2 hs
      go_wp2_with fail
      with_reducible refine (CR.out _ HQ3.out).mono ?_
      rintro e w4 ⟨nn, A2, m2, c2, rfl, hres, b4⟩
      obtain ⟨h1, h2, hR⟩ := hres (by first | exact trivial | rfl)
      rw [HL.out] at h2
      rw [HO.out] at hR
      have h1 := h1.symm
      subst h1
      have h2 := h2.symm
      subst h2
      have HQ4 := Lib.hid (HQ3.out.trans (b4.mono HQ3.out.size))
      have x5 : Below w4.heap.size w4 (w4.alloc (.cells #[.int .i64 N, .slice A2 m c2, .int .i64 0] 30)) := (Below.refl _ _).alloc (Nat.le_refl _) _
      have r5 : RawAt 30 (w4.alloc (.cells #[.int .i64 N, .slice A2 m c2, .int .i64 0] 30)) w4.heap.size #[.int .i64 N, .slice A2 m c2, .int .i64 0] := heap_alloc_new w4 _
      have HQ5 := Lib.hid (HQ4.out.trans (x5.mono HQ4.out.size))
      have HRS := Lib.hid (hR.below x5)
      have HS5 := Lib.hid ((HI3.out.below b4).below x5)
      obtain ⟨W5, hW5⟩ : ∃ W5, W5 = w4.alloc (.cells #[.int .i64 N, .slice A2 m c2, .int .i64 0] 30) := ⟨_, rfl⟩
      rw [← hW5] at HQ5 HRS HS5 r5
      have HW5 := Lib.hid hW5
      have HZ5 := Lib.hid r5
      clear b4 hR x5 hW5 r5 hres HI3
      go_wp2_with fail
      rw [← HW5.out]
      generalize w4.heap.size = bZ at *
      have MK : Hid (∀ W : World, Below W5.heap.size W5 W → W.cell? ⟨bZ, 0, none⟩ = some (.int .i64 N) ∧ W.cell? ⟨bZ, 1, none⟩ = some (.slice A2 m c2) ∧ W.cell? ⟨bZ, 2, none⟩ = some (.int .i64 0)) := Lib.hid fun W hW => by
        have p := RawAt.below HZ5.out hW HZ5.out.lt
        exact ⟨RawAt.cell p 0, RawAt.cell p 1, RawAt.cell p 2⟩
      have CW := Lib.hid fun (W : World) (hW : Below W5.heap.size W5 W) => wvNew_set (HS5.out.below hW) HS.out
      have CY := Lib.hid fun (a : Addr) (h : Nat) (W : World) (hT : WvAt W (some a) (wvP 0 o N) h) (hW : Below W5.heap.size W5 W) => is14_yes hT HS.out.wv 0 A2 m c2 (HRS.out.below hW) HOL.out (by omega) (by omega) (fun a ha => (HS.out.each a ha).2)
      have hW2 : Below W5.heap.size W5 W5.drew := (Below.refl _ _).drew
      refine wp_region_noPanic ?_
      refine wp_region_held_drew (S := (fun W => W.cell? ⟨bZ, 0, none⟩ = some (.int .i64 N) ∧ W.cell? ⟨bZ, 1, none⟩ = some (.slice A2 m c2) ∧ W.cell? ⟨bZ, 2, none⟩ = some (.int .i64 0))) (by kernel_rfl) (MK.out _ hW2) (fun hHeld => ?_)
      refine wpAnyH_take (i := 0) (v := ?_) rfl (by kernel_rfl) (by kernel_rfl) (by kernel_rfl) (fun _ _ _ h => h) (Or.inl ⟨by rfl, ?_⟩) hHeld ?_
      rotate_left
      · intro w hSw
        (try dsimp only at hSw)
        go_simp
        try with_reducible rfl
      go_simp
      refine wpAnyH_take (i := 2) (v := ?_) rfl (by kernel_rfl) (by kernel_rfl) (by kernel_rfl) (fun _ _ _ h => h) (Or.inl ⟨by rfl, ?_⟩) hHeld ?_
      rotate_left
      · intro w hSw
        (try dsimp only at hSw)
        go_simp
        try with_reducible rfl
      go_simp
      refine wpAnyH_ready (rs := [1]) (by kernel_rfl) (by simp) ?_
      refine AllReadyH.cons rfl (fun K hK => ?_) ?_
      rotate_left
      · exact AllReadyH.nil
      go_simp
      go_wp2_with (first | (go_at_call 20; ((with_reducible refine (CW.out _ hW2).mono ?_); rintro e w6 ⟨a6, h6, rfl, hT6, b6⟩); have hW2 := hW2.trans (b6.mono hW2.size)) | (go_at_call 19; ((with_reducible refine (CY.out a6 h6 _ hT6 hW2).mono ?_); rintro e w7 ⟨rfl, b7⟩); have hW2 := hW2.trans (b7.mono hW2.size)) | (go_at_call 16; ((with_reducible refine (C4.out _).mono ?_); rintro e w8 ⟨rfl, b8⟩); have hW2 := hW2.trans (b8.mono hW2.size)))
      refine hK.out _ _ (by with_reducible exact MK.out _ hW2) (fun hHeld => ?_)
      clear hK K
      go_simp
      refine wpAnyH_ready (rs := [3]) (by kernel_rfl) (by simp) ?_
      refine AllReadyH.cons rfl (fun K hK => ?_) ?_
      rotate_left
      · exact AllReadyH.nil
      go_simp
      go_wp2_with (first | (go_at_call 20; ((with_reducible refine (CW.out _ hW2).mono ?_); rintro e w6 ⟨a6, h6, rfl, hT6, b6⟩); have hW2 := hW2.trans (b6.mono hW2.size)) | (go_at_call 19; ((with_reducible refine (CY.out a6 h6 _ hT6 hW2).mono ?_); rintro e w7 ⟨rfl, b7⟩); have hW2 := hW2.trans (b7.mono hW2.size)) | (go_at_call 16; ((with_reducible refine (C4.out _).mono ?_); rintro e w8 ⟨rfl, b8⟩); have hW2 := hW2.trans (b8.mono hW2.size)))
      refine hK.out _ _ (by with_reducible exact MK.out _ hW2) (fun hHeld => ?_)
      clear hK K
      go_simp
      refine wpAnyH_take (i := 4) (v := ?_) rfl (by kernel_rfl) (by kernel_rfl) (by kernel_rfl) (fun _ _ _ h => h) (Or.inl ⟨by rfl, ?_⟩) hHeld ?_
      rotate_left
      · intro w hSw
        (try dsimp only at hSw)
        go_simp
        try with_reducible rfl
      go_simp
      refine wpAnyH_ready (rs := [5]) (by kernel_rfl) (by simp) ?_
      refine AllReadyH.cons rfl (fun K hK => ?_) ?_
      rotate_left
      · exact AllReadyH.nil
      go_simp
      go_wp2_with (first | (go_at_call 20; ((with_reducible refine (CW.out _ hW2).mono ?_); rintro e w6 ⟨a6, h6, rfl, hT6, b6⟩); have hW2 := hW2.trans (b6.mono hW2.size)) | (go_at_call 19; ((with_reducible refine (CY.out a6 h6 _ hT6 hW2).mono ?_); rintro e w7 ⟨rfl, b7⟩); have hW2 := hW2.trans (b7.mono hW2.size)) | (go_at_call 16; ((with_reducible refine (C4.out _).mono ?_); rintro e w8 ⟨rfl, b8⟩); have hW2 := hW2.trans (b8.mono hW2.size)))
      refine hK.out _ _ (by with_reducible exact MK.out _ hW2) (fun hHeld => ?_)
      clear hK K
      go_simp
      refine wpAnyH_take (i := 6) (v := ?_) rfl (by kernel_rfl) (by kernel_rfl) (by kernel_rfl) (fun _ _ _ h => h) (Or.inl ⟨by rfl, ?_⟩) hHeld ?_
      rotate_left
      · intro w hSw
        (try dsimp only at hSw)
        go_simp
        try with_reducible rfl
      go_simp
      refine wpAnyH_take (i := 7) (v := ?_) rfl (by kernel_rfl) (by kernel_rfl) (by kernel_rfl) (fun _ _ _ h => h) (Or.inl ⟨by rfl, ?_⟩) hHeld ?_
      rotate_left
      · intro w hSw
        (try dsimp only at hSw)
        go_simp
        try with_reducible rfl
      go_simp
      refine wpAnyH_done (by kernel_rfl) ?_ _
      refine NoPanic.normal ?_
      go_wp2
      go_ret
      exact ⟨rfl, HQ5.out.trans (hW2.mono HQ5.out.size)⟩
    · have k1 : (r == 0) = false := by simpa using hz
      have k2 : (r != 0) = true := by simpa using hz
      go_enter Tryz.func3, Tryz.ntmps3
      go_wp2_with fail
      with_reducible refine (CLF.out).mono ?_
      rintro e w2 ⟨rfl, b2⟩
      have HQ2 := Lib.hid b2
      clear b2
      go_wp2_with fail
      with_reducible refine (CN.out _ HQ2.out).mono ?_
      rintro e w3 ⟨p, rfl, hp1, hp2, b3⟩
      obtain rfl := hp1 hz
      have HQ3 := Lib.hid (HQ2.out.trans (b3.mono HQ2.out.size))
      clear b3 hp1 hp2
      go_wp2_with fail
      with_reducible refine (CR.out _ HQ3.out).mono ?_
      rintro e w4 ⟨nn, A2, m2, c2, rfl, hres, b4⟩
      have HQ4 := Lib.hid (HQ3.out.trans (b4.mono HQ3.out.size))
      have x5 : Below w4.heap.size w4 (w4.alloc (.cells #[.int .i64 nn, .slice A2 m2 c2, .int .i64 r] 30)) := (Below.refl _ _).alloc (Nat.le_refl _) _
      have HQ5 := Lib.hid (HQ4.out.trans (x5.mono HQ4.out.size))
      have e2 : (w4.alloc (.cells #[.int .i64 nn, .slice A2 m2 c2, .int .i64 r] 30)).cell? ⟨w4.heap.size, 2, none⟩ = some (.int .i64 r) := RawAt.cell (heap_alloc_new w4 _) 2
      clear b4 x5 hres hz
      go_wp2_with fail
      with_reducible refine (C4.out _).mono ?_
      rintro e w6 ⟨rfl, b6⟩
      have HQ6 := Lib.hid (HQ5.out.trans (b6.mono HQ5.out.size))
      clear b6
      go_wp2
      go_ret
      exact ⟨rfl, HQ6.out⟩
  · have CLT := Lib.hid (CLO.out true ⟨fun _ => g, fun _ => rfl⟩)
    clear CLO hI hO hc g
    go_enter Tryz.func3, Tryz.ntmps3
    go_wp2_with fail
    with_reducible refine (CLT.out).mono ?_
    rintro e w2 ⟨rfl, b2⟩
    have HQ2 := Lib.hid b2
    clear b2
    go_wp2_with fail
    with_reducible refine (C4.out _).mono ?_
    rintro e w3 ⟨rfl, b3⟩
    have HQ3 := Lib.hid (HQ2.out.trans (b3.mono HQ2.out.size))
    clear b3
    go_wp2
    go_ret
    exact ⟨rfl, HQ3.out⟩
end Go.Proofs.YtjkkngldiimkjaaGreat
