/- Which patches are sound: the program's answer. -/
import Derived.Test.YtebjkgeldjgnfaaDfD
namespace Go.Proofs.Ytebjkgeldjgnfaa
open Go.RowKit
set_option linter.unusedVariables false
theorem snd_alk {l o : List Rw} {p : Rp} (hf : RFit p l.length o.length) {r1 r2 : Nat} (h1 : Alk (PF l o) p.a.toNat r1) (h2 : Alk (PB l o) (l.length - p.b.toNat) r2) : Snd l o p ↔ r1 = p.a.toNat ∧ r2 = l.length - p.b.toNat :=
  ⟨fun h => ⟨h1.all.mpr h.2.1, h2.all.mpr h.2.2⟩, fun h => ⟨hf, h1.all.mp h.1, h2.all.mp h.2⟩⟩
set_option maxHeartbeats 4000000 in
set_option maxRecDepth 100000 in
theorem dSound_any (A B : Option Addr) (n c m d : Nat) (l o : List Rw) (p : Rp) (b : Bool) (hb : b = true ↔ Snd l o p) (w : World) (hA : RowsAt encR 7 w A l) (hl : l.length = n) (hB : RowsAt encR 7 w B o) (hy : o.length = m) (okl : ∀ s ∈ l, RwOk w s ∧ s.n ≤ 9223372036854775807) (oko : ∀ s ∈ o, RwOk w s ∧ s.n ≤ 9223372036854775807) (hn : n ≤ 9223372036854775807) (hm : m ≤ 9223372036854775807) :
    Calls Try.prog 15 #[.slice A n c, .slice B m d, .agg #[.int .i64 p.a, .int .i64 p.b, .int .i64 p.c, .int .i64 p.d]] w fun e w' => e = .returned (.bool b) ∧ Below w.heap.size w w' := by
  have x0 : Below w.heap.size w (w.alloc (.cells #[.int .i64 p.a, .int .i64 p.b, .int .i64 p.c, .int .i64 p.d] 28)) := (Below.refl _ _).alloc (Nat.le_refl _) _
  have R0 : Hid (RawAt 28 (w.alloc (.cells #[.int .i64 p.a, .int .i64 p.b, .int .i64 p.c, .int .i64 p.d] 28)) w.heap.size #[.int .i64 p.a, .int .i64 p.b, .int .i64 p.c, .int .i64 p.d]) := Lib.hid (heap_alloc_new w _)
  have HX := Lib.hid x0
  have HBb := Lib.hid hb
  clear hb x0
  by_cases hf : RFit p n m
  · have CFt := Lib.hid fun W => dFits_any p n m true ⟨fun _ => hf, fun _ => rfl⟩ W (by omega) (by omega)
    have hf0 := hf
    obtain ⟨⟨f1, f2, f3⟩, ⟨f4, f5, f6⟩, f7⟩ := hf
    obtain ⟨r1, hr1⟩ := alk_ex (PF l o) p.a.toNat
    obtain ⟨r2, hr2⟩ := alk_ex (PB l o) (l.length - p.b.toNat)
    have HS := Lib.hid (snd_alk (by rw [hl, hy]; exact hf0) hr1 hr2)
    rw [hl] at hr2 HS
    obtain ⟨pa, pb, pc, pd⟩ := p
    simp only at *
    obtain ⟨ka, rfl⟩ : ∃ k : Nat, pa = k := ⟨pa.toNat, by omega⟩
    obtain ⟨kb, rfl⟩ : ∃ k : Nat, pb = k := ⟨pb.toNat, by omega⟩
    simp only [Int.toNat_natCast] at hr1 hr2 HS
    subst f4
    have CF := Lib.hid fun W (hW : Below w.heap.size w W) k1 k2 k3 (hC : ClAt W k1 k2 k3 0 0 1) => dAlikeF A B n c m d l o ka r1 hr1 w W hW hA hl hB hy okl oko hn hm ⟨by omega, by omega⟩ k1 k2 k3 hC
    have CB := Lib.hid fun W (hW : Below w.heap.size w W) k1 k2 k3 (hC : ClAt W k1 k2 k3 ((n : Int) - 1) ((m : Int) - 1) (-1)) => dAlikeB A B n c m d l o (n - kb) r2 hr2 w W hW hA hl hB hy okl oko hn hm ⟨by omega, by omega⟩ k1 k2 k3 hC
    have q1 := hr1.1
    have q2 := hr2.1
    clear hr1 hr2 hA hl hB hy okl oko hf0 f7
    have e2 : IntKind.i64.wrap ((n : Int) - kb) = ((n - kb : Nat) : Int) := by rw [show (n : Int) - kb = ((n - kb : Nat) : Int) from by omega]; exact IntWalk.i64_in _ (by omega)
    have e3 : IntKind.i64.wrap ((n : Int) - 1) = (n : Int) - 1 := IntWalk.i64_in _ (by omega)
    have e4 : IntKind.i64.wrap ((m : Int) - 1) = (m : Int) - 1 := IntWalk.i64_in _ (by omega)
    have p0 : (w.alloc (.cells #[.int .i64 ka, .int .i64 kb, .int .i64 ka, .int .i64 pd] 28)).cell? ⟨w.heap.size, 1, none⟩ = some (.int .i64 kb) := RawAt.cell R0.out 1
    go_enter Try.func15, Try.ntmps15
    go_wp2_with fail
    with_reducible refine (CFt.out _).mono ?_
    rintro e w1 ⟨rfl, hb1⟩
    have HB1 := Lib.hid (HX.out.trans (hb1.mono HX.out.size))
    have R1 := Lib.hid (RawAt.below R0.out hb1 (RawAt.lt R0.out))
    clear hb1 R0 p0 CFt
    have p1 : w1.cell? ⟨w.heap.size, 1, none⟩ = some (.int .i64 kb) := RawAt.cell R1.out 1
    go_wp2_with fail
    have MK : Hid (∀ W : World, Below w1.heap.size w1 W → (fun W => W.cell? ⟨w.heap.size, 0, none⟩ = some (.int .i64 ka) ∧ Below w1.heap.size w1 W) W) := fun W hW => ⟨RawAt.cell (RawAt.below R1.out hW (RawAt.lt R1.out)) 0, hW⟩
    have hW2 : Below w1.heap.size w1 w1.drew := (Below.refl _ _).drew
    have HB1' := HB1
    by_cases g1 : r1 = ka
    · have g1' := g1.symm; clear g1; subst g1'
      by_cases g2 : r2 = n - kb
      · obtain rfl : b = true := HBb.out.mpr (HS.out.mpr ⟨rfl, g2⟩)
        have g3 : (((n - kb : Nat) : Int) == ((n - kb : Nat) : Int)) = true := by simp
        subst g2
        refine wp_region_noPanic ?_
        refine wp_region_held_drew (S := (fun W => W.cell? ⟨w.heap.size, 0, none⟩ = some (.int .i64 ka) ∧ Below w1.heap.size w1 W)) (by kernel_rfl) (MK.out _ hW2) (fun hHeld => ?_)
        refine wpAnyH_take (i := 0) (v := ?_) rfl (by kernel_rfl) (by kernel_rfl) (by kernel_rfl) (fun _ _ _ h => h) (Or.inl ⟨by rfl, ?_⟩) hHeld ?_
        rotate_left
        · intro w hSw
          (try dsimp only at hSw)
          go_simp
          try with_reducible rfl
        go_simp
        refine wpAnyH_take (i := 1) (v := ?_) rfl (by kernel_rfl) (by kernel_rfl) (by kernel_rfl) (fun _ _ _ h => h) (Or.inl ⟨by rfl, ?_⟩) hHeld ?_
        rotate_left
        · intro w hSw
          (try dsimp only at hSw)
          go_simp
          try with_reducible rfl
        go_simp
        refine wpAnyH_take (i := 2) (v := ?_) rfl (by kernel_rfl) (by kernel_rfl) (by kernel_rfl) (fun _ _ _ h => h) (Or.inl ⟨by rfl, ?_⟩) hHeld ?_
        rotate_left
        · intro w hSw
          (try dsimp only at hSw)
          go_simp
          try with_reducible rfl
        go_simp
        refine wpAnyH_take (i := 3) (v := ?_) rfl (by kernel_rfl) (by kernel_rfl) (by kernel_rfl) (fun _ _ _ h => h) (Or.inl ⟨by rfl, ?_⟩) hHeld ?_
        rotate_left
        · intro w hSw
          (try dsimp only at hSw)
          go_simp
          try with_reducible rfl
        go_simp
        refine wpAnyH_take (i := 6) (v := ?_) rfl (by kernel_rfl) (by kernel_rfl) (by kernel_rfl) (fun _ _ _ h => h) (Or.inl ⟨by rfl, ?_⟩) hHeld ?_
        rotate_left
        · intro w hSw
          (try dsimp only at hSw)
          go_simp
          try with_reducible rfl
        go_simp
        refine wpAnyH_take (i := 7) (v := ?_) rfl (by kernel_rfl) (by kernel_rfl) (by kernel_rfl) (fun _ _ _ h => h) (Or.inl ⟨by rfl, ?_⟩) hHeld ?_
        rotate_left
        · intro w hSw
          (try dsimp only at hSw)
          go_simp
          try with_reducible rfl
        go_simp
        refine wpAnyH_ready (rs := [4]) (by kernel_rfl) (by simp) ?_
        refine AllReadyH.cons rfl (fun K hK => ?_) ?_
        rotate_left
        · exact AllReadyH.nil
        go_simp
        go_wp2_with (first | (go_at_call 25; ((with_reducible refine (dAlong_cl 0 0 1 _).mono ?_); rintro e w2 ⟨k1, k2, k3, rfl, hC1, hb2⟩); have HCF := Lib.hid hC1; clear hC1; have hW2 := hW2.trans (hb2.mono hW2.size)) | (go_at_call 25; ((with_reducible refine (dAlong_cl ((n : Int) - 1) ((m : Int) - 1) (-1) _).mono ?_); rintro e w4 ⟨j1, j2, j3, rfl, hC3, hb4⟩); have HCB := Lib.hid hC3; clear hC3; have hW2 := hW2.trans (hb4.mono hW2.size)) | (go_at_call 24; ((with_reducible refine (CF.out _ (HB1.out.trans (hW2.mono HB1.out.size)) _ _ _ HCF.out).mono ?_); rintro e w3 ⟨rfl, hb3⟩); have hW2 := hW2.trans (hb3.mono hW2.size)) | (go_at_call 24; ((with_reducible refine (CB.out _ (HB1.out.trans (hW2.mono HB1.out.size)) _ _ _ HCB.out).mono ?_); rintro e w5 ⟨rfl, hb5⟩); have hW2 := hW2.trans (hb5.mono hW2.size)))
        refine hK.out _ _ (MK.out _ hW2) (fun hHeld => ?_)
        clear hK K
        go_simp
        refine wpAnyH_ready (rs := [5]) (by kernel_rfl) (by simp) ?_
        refine AllReadyH.cons rfl (fun K hK => ?_) ?_
        rotate_left
        · exact AllReadyH.nil
        go_simp
        go_wp2_with (first | (go_at_call 25; ((with_reducible refine (dAlong_cl 0 0 1 _).mono ?_); rintro e w2 ⟨k1, k2, k3, rfl, hC1, hb2⟩); have HCF := Lib.hid hC1; clear hC1; have hW2 := hW2.trans (hb2.mono hW2.size)) | (go_at_call 25; ((with_reducible refine (dAlong_cl ((n : Int) - 1) ((m : Int) - 1) (-1) _).mono ?_); rintro e w4 ⟨j1, j2, j3, rfl, hC3, hb4⟩); have HCB := Lib.hid hC3; clear hC3; have hW2 := hW2.trans (hb4.mono hW2.size)) | (go_at_call 24; ((with_reducible refine (CF.out _ (HB1.out.trans (hW2.mono HB1.out.size)) _ _ _ HCF.out).mono ?_); rintro e w3 ⟨rfl, hb3⟩); have hW2 := hW2.trans (hb3.mono hW2.size)) | (go_at_call 24; ((with_reducible refine (CB.out _ (HB1.out.trans (hW2.mono HB1.out.size)) _ _ _ HCB.out).mono ?_); rintro e w5 ⟨rfl, hb5⟩); have hW2 := hW2.trans (hb5.mono hW2.size)))
        refine hK.out _ _ (MK.out _ hW2) (fun hHeld => ?_)
        clear hK K
        go_simp
        refine wpAnyH_take (i := 8) (v := ?_) rfl (by kernel_rfl) (by kernel_rfl) (by kernel_rfl) (fun _ _ _ h => h) (Or.inl ⟨by rfl, ?_⟩) hHeld ?_
        rotate_left
        · intro w hSw
          (try dsimp only at hSw)
          go_simp
          try with_reducible rfl
        go_simp
        refine wpAnyH_take (i := 9) (v := ?_) rfl (by kernel_rfl) (by kernel_rfl) (by kernel_rfl) (fun _ _ _ h => h) (Or.inl ⟨by rfl, ?_⟩) hHeld ?_
        rotate_left
        · intro w hSw
          (try dsimp only at hSw)
          go_simp
          try with_reducible rfl
        go_simp
        refine wpAnyH_take (i := 10) (v := ?_) rfl (by kernel_rfl) (by kernel_rfl) (by kernel_rfl) (fun _ _ _ h => h) (Or.inl ⟨by rfl, ?_⟩) hHeld ?_
        rotate_left
        · intro w hSw
          (try dsimp only at hSw)
          go_simp
          try with_reducible rfl
        go_simp
        refine wpAnyH_take (i := 11) (v := ?_) rfl (by kernel_rfl) (by kernel_rfl) (by kernel_rfl) (fun _ _ _ h => h) (Or.inl ⟨by rfl, ?_⟩) hHeld ?_
        rotate_left
        · intro w hSw
          (try dsimp only at hSw)
          go_simp
          try with_reducible rfl
        go_simp
        refine wpAnyH_take (i := 12) (v := ?_) rfl (by kernel_rfl) (by kernel_rfl) (by kernel_rfl) (fun _ _ _ h => h) (Or.inl ⟨by rfl, ?_⟩) hHeld ?_
        rotate_left
        · intro w hSw
          (try dsimp only at hSw)
          go_simp
          try with_reducible rfl
        go_simp
        refine wpAnyH_take (i := 13) (v := ?_) rfl (by kernel_rfl) (by kernel_rfl) (by kernel_rfl) (fun _ _ _ h => h) (Or.inl ⟨by rfl, ?_⟩) hHeld ?_
        rotate_left
        · intro w hSw
          (try dsimp only at hSw)
          go_simp
          try with_reducible rfl
        go_simp
        refine wpAnyH_take (i := 14) (v := ?_) rfl (by kernel_rfl) (by kernel_rfl) (by kernel_rfl) (fun _ _ _ h => h) (Or.inl ⟨by rfl, ?_⟩) hHeld ?_
        rotate_left
        · intro w hSw
          (try dsimp only at hSw)
          go_simp
          try with_reducible rfl
        go_simp
        refine wpAnyH_take (i := 15) (v := ?_) rfl (by kernel_rfl) (by kernel_rfl) (by kernel_rfl) (fun _ _ _ h => h) (Or.inl ⟨by rfl, ?_⟩) hHeld ?_
        rotate_left
        · intro w hSw
          (try dsimp only at hSw)
          go_simp
          try with_reducible rfl
        go_simp
        refine wpAnyH_take (i := 16) (v := ?_) rfl (by kernel_rfl) (by kernel_rfl) (by kernel_rfl) (fun _ _ _ h => h) (Or.inl ⟨by rfl, ?_⟩) hHeld ?_
        rotate_left
        · intro w hSw
          (try dsimp only at hSw)
          go_simp
          try with_reducible rfl
        go_simp
        refine wpAnyH_take (i := 19) (v := ?_) rfl (by kernel_rfl) (by kernel_rfl) (by kernel_rfl) (fun _ _ _ h => h) (Or.inl ⟨by rfl, ?_⟩) hHeld ?_
        rotate_left
        · intro w hSw
          (try dsimp only at hSw)
          go_simp
          try with_reducible rfl
        go_simp
        refine wpAnyH_ready (rs := [17]) (by kernel_rfl) (by simp) ?_
        refine AllReadyH.cons rfl (fun K hK => ?_) ?_
        rotate_left
        · exact AllReadyH.nil
        go_simp
        go_wp2_with (first | (go_at_call 25; ((with_reducible refine (dAlong_cl 0 0 1 _).mono ?_); rintro e w2 ⟨k1, k2, k3, rfl, hC1, hb2⟩); have HCF := Lib.hid hC1; clear hC1; have hW2 := hW2.trans (hb2.mono hW2.size)) | (go_at_call 25; ((with_reducible refine (dAlong_cl ((n : Int) - 1) ((m : Int) - 1) (-1) _).mono ?_); rintro e w4 ⟨j1, j2, j3, rfl, hC3, hb4⟩); have HCB := Lib.hid hC3; clear hC3; have hW2 := hW2.trans (hb4.mono hW2.size)) | (go_at_call 24; ((with_reducible refine (CF.out _ (HB1.out.trans (hW2.mono HB1.out.size)) _ _ _ HCF.out).mono ?_); rintro e w3 ⟨rfl, hb3⟩); have hW2 := hW2.trans (hb3.mono hW2.size)) | (go_at_call 24; ((with_reducible refine (CB.out _ (HB1.out.trans (hW2.mono HB1.out.size)) _ _ _ HCB.out).mono ?_); rintro e w5 ⟨rfl, hb5⟩); have hW2 := hW2.trans (hb5.mono hW2.size)))
        refine hK.out _ _ (MK.out _ hW2) (fun hHeld => ?_)
        clear hK K
        go_simp
        refine wpAnyH_ready (rs := [18]) (by kernel_rfl) (by simp) ?_
        refine AllReadyH.cons rfl (fun K hK => ?_) ?_
        rotate_left
        · exact AllReadyH.nil
        go_simp
        go_wp2_with (first | (go_at_call 25; ((with_reducible refine (dAlong_cl 0 0 1 _).mono ?_); rintro e w2 ⟨k1, k2, k3, rfl, hC1, hb2⟩); have HCF := Lib.hid hC1; clear hC1; have hW2 := hW2.trans (hb2.mono hW2.size)) | (go_at_call 25; ((with_reducible refine (dAlong_cl ((n : Int) - 1) ((m : Int) - 1) (-1) _).mono ?_); rintro e w4 ⟨j1, j2, j3, rfl, hC3, hb4⟩); have HCB := Lib.hid hC3; clear hC3; have hW2 := hW2.trans (hb4.mono hW2.size)) | (go_at_call 24; ((with_reducible refine (CF.out _ (HB1.out.trans (hW2.mono HB1.out.size)) _ _ _ HCF.out).mono ?_); rintro e w3 ⟨rfl, hb3⟩); have hW2 := hW2.trans (hb3.mono hW2.size)) | (go_at_call 24; ((with_reducible refine (CB.out _ (HB1.out.trans (hW2.mono HB1.out.size)) _ _ _ HCB.out).mono ?_); rintro e w5 ⟨rfl, hb5⟩); have hW2 := hW2.trans (hb5.mono hW2.size)))
        refine hK.out _ _ (MK.out _ hW2) (fun hHeld => ?_)
        clear hK K
        go_simp
        refine wpAnyH_take (i := 20) (v := ?_) rfl (by kernel_rfl) (by kernel_rfl) (by kernel_rfl) (fun _ _ _ h => h) (Or.inl ⟨by rfl, ?_⟩) hHeld ?_
        rotate_left
        · intro w hSw
          (try dsimp only at hSw)
          go_simp
          try with_reducible rfl
        go_simp
        refine wpAnyH_take (i := 21) (v := ?_) rfl (by kernel_rfl) (by kernel_rfl) (by kernel_rfl) (fun _ _ _ h => h) (Or.inl ⟨by rfl, ?_⟩) hHeld ?_
        rotate_left
        · intro w hSw
          (try dsimp only at hSw)
          go_simp
          try with_reducible rfl
        go_simp
        refine wpAnyH_take (i := 22) (v := ?_) rfl (by kernel_rfl) (by kernel_rfl) (by kernel_rfl) (fun _ _ _ h => h) (Or.inl ⟨by rfl, ?_⟩) hHeld ?_
        rotate_left
        · intro w hSw
          (try dsimp only at hSw)
          go_simp
          try with_reducible rfl
        go_simp
        refine wpAnyH_done (by kernel_rfl) ?_ _
        refine NoPanic.normal ?_
        go_wp2
        go_ret
        exact ⟨rfl, HB1.out.trans (hW2.mono HB1.out.size)⟩
      · obtain rfl : b = false := by
          rw [← Bool.not_eq_true]; exact fun h => g2 (HS.out.mp (HBb.out.mp h)).2
        have g3 : ((r2 : Int) == ((n - kb : Nat) : Int)) = false := by simpa using (by omega : ¬ (r2 : Int) = ((n - kb : Nat) : Int))
        refine wp_region_noPanic ?_
        refine wp_region_held_drew (S := (fun W => W.cell? ⟨w.heap.size, 0, none⟩ = some (.int .i64 ka) ∧ Below w1.heap.size w1 W)) (by kernel_rfl) (MK.out _ hW2) (fun hHeld => ?_)
        refine wpAnyH_take (i := 0) (v := ?_) rfl (by kernel_rfl) (by kernel_rfl) (by kernel_rfl) (fun _ _ _ h => h) (Or.inl ⟨by rfl, ?_⟩) hHeld ?_
        rotate_left
        · intro w hSw
          (try dsimp only at hSw)
          go_simp
          try with_reducible rfl
        go_simp
        refine wpAnyH_take (i := 1) (v := ?_) rfl (by kernel_rfl) (by kernel_rfl) (by kernel_rfl) (fun _ _ _ h => h) (Or.inl ⟨by rfl, ?_⟩) hHeld ?_
        rotate_left
        · intro w hSw
          (try dsimp only at hSw)
          go_simp
          try with_reducible rfl
        go_simp
        refine wpAnyH_take (i := 2) (v := ?_) rfl (by kernel_rfl) (by kernel_rfl) (by kernel_rfl) (fun _ _ _ h => h) (Or.inl ⟨by rfl, ?_⟩) hHeld ?_
        rotate_left
        · intro w hSw
          (try dsimp only at hSw)
          go_simp
          try with_reducible rfl
        go_simp
        refine wpAnyH_take (i := 3) (v := ?_) rfl (by kernel_rfl) (by kernel_rfl) (by kernel_rfl) (fun _ _ _ h => h) (Or.inl ⟨by rfl, ?_⟩) hHeld ?_
        rotate_left
        · intro w hSw
          (try dsimp only at hSw)
          go_simp
          try with_reducible rfl
        go_simp
        refine wpAnyH_take (i := 6) (v := ?_) rfl (by kernel_rfl) (by kernel_rfl) (by kernel_rfl) (fun _ _ _ h => h) (Or.inl ⟨by rfl, ?_⟩) hHeld ?_
        rotate_left
        · intro w hSw
          (try dsimp only at hSw)
          go_simp
          try with_reducible rfl
        go_simp
        refine wpAnyH_take (i := 7) (v := ?_) rfl (by kernel_rfl) (by kernel_rfl) (by kernel_rfl) (fun _ _ _ h => h) (Or.inl ⟨by rfl, ?_⟩) hHeld ?_
        rotate_left
        · intro w hSw
          (try dsimp only at hSw)
          go_simp
          try with_reducible rfl
        go_simp
        refine wpAnyH_ready (rs := [4]) (by kernel_rfl) (by simp) ?_
        refine AllReadyH.cons rfl (fun K hK => ?_) ?_
        rotate_left
        · exact AllReadyH.nil
        go_simp
        go_wp2_with (first | (go_at_call 25; ((with_reducible refine (dAlong_cl 0 0 1 _).mono ?_); rintro e w2 ⟨k1, k2, k3, rfl, hC1, hb2⟩); have HCF := Lib.hid hC1; clear hC1; have hW2 := hW2.trans (hb2.mono hW2.size)) | (go_at_call 25; ((with_reducible refine (dAlong_cl ((n : Int) - 1) ((m : Int) - 1) (-1) _).mono ?_); rintro e w4 ⟨j1, j2, j3, rfl, hC3, hb4⟩); have HCB := Lib.hid hC3; clear hC3; have hW2 := hW2.trans (hb4.mono hW2.size)) | (go_at_call 24; ((with_reducible refine (CF.out _ (HB1.out.trans (hW2.mono HB1.out.size)) _ _ _ HCF.out).mono ?_); rintro e w3 ⟨rfl, hb3⟩); have hW2 := hW2.trans (hb3.mono hW2.size)) | (go_at_call 24; ((with_reducible refine (CB.out _ (HB1.out.trans (hW2.mono HB1.out.size)) _ _ _ HCB.out).mono ?_); rintro e w5 ⟨rfl, hb5⟩); have hW2 := hW2.trans (hb5.mono hW2.size)))
        refine hK.out _ _ (MK.out _ hW2) (fun hHeld => ?_)
        clear hK K
        go_simp
        refine wpAnyH_ready (rs := [5]) (by kernel_rfl) (by simp) ?_
        refine AllReadyH.cons rfl (fun K hK => ?_) ?_
        rotate_left
        · exact AllReadyH.nil
        go_simp
        go_wp2_with (first | (go_at_call 25; ((with_reducible refine (dAlong_cl 0 0 1 _).mono ?_); rintro e w2 ⟨k1, k2, k3, rfl, hC1, hb2⟩); have HCF := Lib.hid hC1; clear hC1; have hW2 := hW2.trans (hb2.mono hW2.size)) | (go_at_call 25; ((with_reducible refine (dAlong_cl ((n : Int) - 1) ((m : Int) - 1) (-1) _).mono ?_); rintro e w4 ⟨j1, j2, j3, rfl, hC3, hb4⟩); have HCB := Lib.hid hC3; clear hC3; have hW2 := hW2.trans (hb4.mono hW2.size)) | (go_at_call 24; ((with_reducible refine (CF.out _ (HB1.out.trans (hW2.mono HB1.out.size)) _ _ _ HCF.out).mono ?_); rintro e w3 ⟨rfl, hb3⟩); have hW2 := hW2.trans (hb3.mono hW2.size)) | (go_at_call 24; ((with_reducible refine (CB.out _ (HB1.out.trans (hW2.mono HB1.out.size)) _ _ _ HCB.out).mono ?_); rintro e w5 ⟨rfl, hb5⟩); have hW2 := hW2.trans (hb5.mono hW2.size)))
        refine hK.out _ _ (MK.out _ hW2) (fun hHeld => ?_)
        clear hK K
        go_simp
        refine wpAnyH_take (i := 8) (v := ?_) rfl (by kernel_rfl) (by kernel_rfl) (by kernel_rfl) (fun _ _ _ h => h) (Or.inl ⟨by rfl, ?_⟩) hHeld ?_
        rotate_left
        · intro w hSw
          (try dsimp only at hSw)
          go_simp
          try with_reducible rfl
        go_simp
        refine wpAnyH_take (i := 9) (v := ?_) rfl (by kernel_rfl) (by kernel_rfl) (by kernel_rfl) (fun _ _ _ h => h) (Or.inl ⟨by rfl, ?_⟩) hHeld ?_
        rotate_left
        · intro w hSw
          (try dsimp only at hSw)
          go_simp
          try with_reducible rfl
        go_simp
        refine wpAnyH_take (i := 10) (v := ?_) rfl (by kernel_rfl) (by kernel_rfl) (by kernel_rfl) (fun _ _ _ h => h) (Or.inl ⟨by rfl, ?_⟩) hHeld ?_
        rotate_left
        · intro w hSw
          (try dsimp only at hSw)
          go_simp
          try with_reducible rfl
        go_simp
        refine wpAnyH_take (i := 11) (v := ?_) rfl (by kernel_rfl) (by kernel_rfl) (by kernel_rfl) (fun _ _ _ h => h) (Or.inl ⟨by rfl, ?_⟩) hHeld ?_
        rotate_left
        · intro w hSw
          (try dsimp only at hSw)
          go_simp
          try with_reducible rfl
        go_simp
        refine wpAnyH_take (i := 12) (v := ?_) rfl (by kernel_rfl) (by kernel_rfl) (by kernel_rfl) (fun _ _ _ h => h) (Or.inl ⟨by rfl, ?_⟩) hHeld ?_
        rotate_left
        · intro w hSw
          (try dsimp only at hSw)
          go_simp
          try with_reducible rfl
        go_simp
        refine wpAnyH_take (i := 13) (v := ?_) rfl (by kernel_rfl) (by kernel_rfl) (by kernel_rfl) (fun _ _ _ h => h) (Or.inl ⟨by rfl, ?_⟩) hHeld ?_
        rotate_left
        · intro w hSw
          (try dsimp only at hSw)
          go_simp
          try with_reducible rfl
        go_simp
        refine wpAnyH_take (i := 14) (v := ?_) rfl (by kernel_rfl) (by kernel_rfl) (by kernel_rfl) (fun _ _ _ h => h) (Or.inl ⟨by rfl, ?_⟩) hHeld ?_
        rotate_left
        · intro w hSw
          (try dsimp only at hSw)
          go_simp
          try with_reducible rfl
        go_simp
        refine wpAnyH_take (i := 15) (v := ?_) rfl (by kernel_rfl) (by kernel_rfl) (by kernel_rfl) (fun _ _ _ h => h) (Or.inl ⟨by rfl, ?_⟩) hHeld ?_
        rotate_left
        · intro w hSw
          (try dsimp only at hSw)
          go_simp
          try with_reducible rfl
        go_simp
        refine wpAnyH_take (i := 16) (v := ?_) rfl (by kernel_rfl) (by kernel_rfl) (by kernel_rfl) (fun _ _ _ h => h) (Or.inl ⟨by rfl, ?_⟩) hHeld ?_
        rotate_left
        · intro w hSw
          (try dsimp only at hSw)
          go_simp
          try with_reducible rfl
        go_simp
        refine wpAnyH_take (i := 19) (v := ?_) rfl (by kernel_rfl) (by kernel_rfl) (by kernel_rfl) (fun _ _ _ h => h) (Or.inl ⟨by rfl, ?_⟩) hHeld ?_
        rotate_left
        · intro w hSw
          (try dsimp only at hSw)
          go_simp
          try with_reducible rfl
        go_simp
        refine wpAnyH_ready (rs := [17]) (by kernel_rfl) (by simp) ?_
        refine AllReadyH.cons rfl (fun K hK => ?_) ?_
        rotate_left
        · exact AllReadyH.nil
        go_simp
        go_wp2_with (first | (go_at_call 25; ((with_reducible refine (dAlong_cl 0 0 1 _).mono ?_); rintro e w2 ⟨k1, k2, k3, rfl, hC1, hb2⟩); have HCF := Lib.hid hC1; clear hC1; have hW2 := hW2.trans (hb2.mono hW2.size)) | (go_at_call 25; ((with_reducible refine (dAlong_cl ((n : Int) - 1) ((m : Int) - 1) (-1) _).mono ?_); rintro e w4 ⟨j1, j2, j3, rfl, hC3, hb4⟩); have HCB := Lib.hid hC3; clear hC3; have hW2 := hW2.trans (hb4.mono hW2.size)) | (go_at_call 24; ((with_reducible refine (CF.out _ (HB1.out.trans (hW2.mono HB1.out.size)) _ _ _ HCF.out).mono ?_); rintro e w3 ⟨rfl, hb3⟩); have hW2 := hW2.trans (hb3.mono hW2.size)) | (go_at_call 24; ((with_reducible refine (CB.out _ (HB1.out.trans (hW2.mono HB1.out.size)) _ _ _ HCB.out).mono ?_); rintro e w5 ⟨rfl, hb5⟩); have hW2 := hW2.trans (hb5.mono hW2.size)))
        refine hK.out _ _ (MK.out _ hW2) (fun hHeld => ?_)
        clear hK K
        go_simp
        refine wpAnyH_ready (rs := [18]) (by kernel_rfl) (by simp) ?_
        refine AllReadyH.cons rfl (fun K hK => ?_) ?_
        rotate_left
        · exact AllReadyH.nil
        go_simp
        go_wp2_with (first | (go_at_call 25; ((with_reducible refine (dAlong_cl 0 0 1 _).mono ?_); rintro e w2 ⟨k1, k2, k3, rfl, hC1, hb2⟩); have HCF := Lib.hid hC1; clear hC1; have hW2 := hW2.trans (hb2.mono hW2.size)) | (go_at_call 25; ((with_reducible refine (dAlong_cl ((n : Int) - 1) ((m : Int) - 1) (-1) _).mono ?_); rintro e w4 ⟨j1, j2, j3, rfl, hC3, hb4⟩); have HCB := Lib.hid hC3; clear hC3; have hW2 := hW2.trans (hb4.mono hW2.size)) | (go_at_call 24; ((with_reducible refine (CF.out _ (HB1.out.trans (hW2.mono HB1.out.size)) _ _ _ HCF.out).mono ?_); rintro e w3 ⟨rfl, hb3⟩); have hW2 := hW2.trans (hb3.mono hW2.size)) | (go_at_call 24; ((with_reducible refine (CB.out _ (HB1.out.trans (hW2.mono HB1.out.size)) _ _ _ HCB.out).mono ?_); rintro e w5 ⟨rfl, hb5⟩); have hW2 := hW2.trans (hb5.mono hW2.size)))
        refine hK.out _ _ (MK.out _ hW2) (fun hHeld => ?_)
        clear hK K
        go_simp
        refine wpAnyH_take (i := 20) (v := ?_) rfl (by kernel_rfl) (by kernel_rfl) (by kernel_rfl) (fun _ _ _ h => h) (Or.inl ⟨by rfl, ?_⟩) hHeld ?_
        rotate_left
        · intro w hSw
          (try dsimp only at hSw)
          go_simp
          try with_reducible rfl
        go_simp
        refine wpAnyH_take (i := 21) (v := ?_) rfl (by kernel_rfl) (by kernel_rfl) (by kernel_rfl) (fun _ _ _ h => h) (Or.inl ⟨by rfl, ?_⟩) hHeld ?_
        rotate_left
        · intro w hSw
          (try dsimp only at hSw)
          go_simp
          try with_reducible rfl
        go_simp
        refine wpAnyH_take (i := 22) (v := ?_) rfl (by kernel_rfl) (by kernel_rfl) (by kernel_rfl) (fun _ _ _ h => h) (Or.inl ⟨by rfl, ?_⟩) hHeld ?_
        rotate_left
        · intro w hSw
          (try dsimp only at hSw)
          go_simp
          try with_reducible rfl
        go_simp
        refine wpAnyH_done (by kernel_rfl) ?_ _
        refine NoPanic.normal ?_
        go_wp2
        go_ret
        exact ⟨rfl, HB1.out.trans (hW2.mono HB1.out.size)⟩
    · obtain rfl : b = false := by
        rw [← Bool.not_eq_true]; exact fun h => g1 (HS.out.mp (HBb.out.mp h)).1
      have g3 : ((r1 : Int) == (ka : Int)) = false := by simpa using (by omega : ¬ (r1 : Int) = (ka : Int))
      refine wp_region_noPanic ?_
      refine wp_region_held_drew (S := (fun W => W.cell? ⟨w.heap.size, 0, none⟩ = some (.int .i64 ka) ∧ Below w1.heap.size w1 W)) (by kernel_rfl) (MK.out _ hW2) (fun hHeld => ?_)
      refine wpAnyH_take (i := 0) (v := ?_) rfl (by kernel_rfl) (by kernel_rfl) (by kernel_rfl) (fun _ _ _ h => h) (Or.inl ⟨by rfl, ?_⟩) hHeld ?_
      rotate_left
      · intro w hSw
        (try dsimp only at hSw)
        go_simp
        try with_reducible rfl
      go_simp
      refine wpAnyH_take (i := 1) (v := ?_) rfl (by kernel_rfl) (by kernel_rfl) (by kernel_rfl) (fun _ _ _ h => h) (Or.inl ⟨by rfl, ?_⟩) hHeld ?_
      rotate_left
      · intro w hSw
        (try dsimp only at hSw)
        go_simp
        try with_reducible rfl
      go_simp
      refine wpAnyH_take (i := 2) (v := ?_) rfl (by kernel_rfl) (by kernel_rfl) (by kernel_rfl) (fun _ _ _ h => h) (Or.inl ⟨by rfl, ?_⟩) hHeld ?_
      rotate_left
      · intro w hSw
        (try dsimp only at hSw)
        go_simp
        try with_reducible rfl
      go_simp
      refine wpAnyH_take (i := 3) (v := ?_) rfl (by kernel_rfl) (by kernel_rfl) (by kernel_rfl) (fun _ _ _ h => h) (Or.inl ⟨by rfl, ?_⟩) hHeld ?_
      rotate_left
      · intro w hSw
        (try dsimp only at hSw)
        go_simp
        try with_reducible rfl
      go_simp
      refine wpAnyH_take (i := 6) (v := ?_) rfl (by kernel_rfl) (by kernel_rfl) (by kernel_rfl) (fun _ _ _ h => h) (Or.inl ⟨by rfl, ?_⟩) hHeld ?_
      rotate_left
      · intro w hSw
        (try dsimp only at hSw)
        go_simp
        try with_reducible rfl
      go_simp
      refine wpAnyH_take (i := 7) (v := ?_) rfl (by kernel_rfl) (by kernel_rfl) (by kernel_rfl) (fun _ _ _ h => h) (Or.inl ⟨by rfl, ?_⟩) hHeld ?_
      rotate_left
      · intro w hSw
        (try dsimp only at hSw)
        go_simp
        try with_reducible rfl
      go_simp
      refine wpAnyH_ready (rs := [4]) (by kernel_rfl) (by simp) ?_
      refine AllReadyH.cons rfl (fun K hK => ?_) ?_
      rotate_left
      · exact AllReadyH.nil
      go_simp
      go_wp2_with (first | (go_at_call 25; ((with_reducible refine (dAlong_cl 0 0 1 _).mono ?_); rintro e w2 ⟨k1, k2, k3, rfl, hC1, hb2⟩); have HCF := Lib.hid hC1; clear hC1; have hW2 := hW2.trans (hb2.mono hW2.size)) | (go_at_call 25; ((with_reducible refine (dAlong_cl ((n : Int) - 1) ((m : Int) - 1) (-1) _).mono ?_); rintro e w4 ⟨j1, j2, j3, rfl, hC3, hb4⟩); have HCB := Lib.hid hC3; clear hC3; have hW2 := hW2.trans (hb4.mono hW2.size)) | (go_at_call 24; ((with_reducible refine (CF.out _ (HB1.out.trans (hW2.mono HB1.out.size)) _ _ _ HCF.out).mono ?_); rintro e w3 ⟨rfl, hb3⟩); have hW2 := hW2.trans (hb3.mono hW2.size)) | (go_at_call 24; ((with_reducible refine (CB.out _ (HB1.out.trans (hW2.mono HB1.out.size)) _ _ _ HCB.out).mono ?_); rintro e w5 ⟨rfl, hb5⟩); have hW2 := hW2.trans (hb5.mono hW2.size)))
      refine hK.out _ _ (MK.out _ hW2) (fun hHeld => ?_)
      clear hK K
      go_simp
      refine wpAnyH_ready (rs := [5]) (by kernel_rfl) (by simp) ?_
      refine AllReadyH.cons rfl (fun K hK => ?_) ?_
      rotate_left
      · exact AllReadyH.nil
      go_simp
      go_wp2_with (first | (go_at_call 25; ((with_reducible refine (dAlong_cl 0 0 1 _).mono ?_); rintro e w2 ⟨k1, k2, k3, rfl, hC1, hb2⟩); have HCF := Lib.hid hC1; clear hC1; have hW2 := hW2.trans (hb2.mono hW2.size)) | (go_at_call 25; ((with_reducible refine (dAlong_cl ((n : Int) - 1) ((m : Int) - 1) (-1) _).mono ?_); rintro e w4 ⟨j1, j2, j3, rfl, hC3, hb4⟩); have HCB := Lib.hid hC3; clear hC3; have hW2 := hW2.trans (hb4.mono hW2.size)) | (go_at_call 24; ((with_reducible refine (CF.out _ (HB1.out.trans (hW2.mono HB1.out.size)) _ _ _ HCF.out).mono ?_); rintro e w3 ⟨rfl, hb3⟩); have hW2 := hW2.trans (hb3.mono hW2.size)) | (go_at_call 24; ((with_reducible refine (CB.out _ (HB1.out.trans (hW2.mono HB1.out.size)) _ _ _ HCB.out).mono ?_); rintro e w5 ⟨rfl, hb5⟩); have hW2 := hW2.trans (hb5.mono hW2.size)))
      refine hK.out _ _ (MK.out _ hW2) (fun hHeld => ?_)
      clear hK K
      go_simp
      refine wpAnyH_take (i := 8) (v := ?_) rfl (by kernel_rfl) (by kernel_rfl) (by kernel_rfl) (fun _ _ _ h => h) (Or.inl ⟨by rfl, ?_⟩) hHeld ?_
      rotate_left
      · intro w hSw
        (try dsimp only at hSw)
        go_simp
        try with_reducible rfl
      go_simp
      refine wpAnyH_take (i := 9) (v := ?_) rfl (by kernel_rfl) (by kernel_rfl) (by kernel_rfl) (fun _ _ _ h => h) (Or.inl ⟨by rfl, ?_⟩) hHeld ?_
      rotate_left
      · intro w hSw
        (try dsimp only at hSw)
        go_simp
        try with_reducible rfl
      go_simp
      refine wpAnyH_take (i := 10) (v := undef) rfl (by kernel_rfl) (by kernel_rfl) (by kernel_rfl) (fun _ _ _ h => h) (Or.inr ⟨by rfl, rfl⟩) hHeld ?_
      go_simp
      refine wpAnyH_take (i := 11) (v := undef) rfl (by kernel_rfl) (by kernel_rfl) (by kernel_rfl) (fun _ _ _ h => h) (Or.inr ⟨by rfl, rfl⟩) hHeld ?_
      go_simp
      refine wpAnyH_take (i := 12) (v := undef) rfl (by kernel_rfl) (by kernel_rfl) (by kernel_rfl) (fun _ _ _ h => h) (Or.inr ⟨by rfl, rfl⟩) hHeld ?_
      go_simp
      refine wpAnyH_take (i := 13) (v := undef) rfl (by kernel_rfl) (by kernel_rfl) (by kernel_rfl) (fun _ _ _ h => h) (Or.inr ⟨by rfl, rfl⟩) hHeld ?_
      go_simp
      refine wpAnyH_take (i := 14) (v := undef) rfl (by kernel_rfl) (by kernel_rfl) (by kernel_rfl) (fun _ _ _ h => h) (Or.inr ⟨by rfl, rfl⟩) hHeld ?_
      go_simp
      refine wpAnyH_take (i := 15) (v := undef) rfl (by kernel_rfl) (by kernel_rfl) (by kernel_rfl) (fun _ _ _ h => h) (Or.inr ⟨by rfl, rfl⟩) hHeld ?_
      go_simp
      refine wpAnyH_take (i := 16) (v := undef) rfl (by kernel_rfl) (by kernel_rfl) (by kernel_rfl) (fun _ _ _ h => h) (Or.inr ⟨by rfl, rfl⟩) hHeld ?_
      go_simp
      refine wpAnyH_take (i := 17) (v := undef) rfl (by kernel_rfl) (by kernel_rfl) (by kernel_rfl) (fun _ _ _ h => h) (Or.inr ⟨by rfl, rfl⟩) hHeld ?_
      go_simp
      refine wpAnyH_take (i := 18) (v := undef) rfl (by kernel_rfl) (by kernel_rfl) (by kernel_rfl) (fun _ _ _ h => h) (Or.inr ⟨by rfl, rfl⟩) hHeld ?_
      go_simp
      refine wpAnyH_take (i := 19) (v := undef) rfl (by kernel_rfl) (by kernel_rfl) (by kernel_rfl) (fun _ _ _ h => h) (Or.inr ⟨by rfl, rfl⟩) hHeld ?_
      go_simp
      refine wpAnyH_take (i := 20) (v := undef) rfl (by kernel_rfl) (by kernel_rfl) (by kernel_rfl) (fun _ _ _ h => h) (Or.inr ⟨by rfl, rfl⟩) hHeld ?_
      go_simp
      refine wpAnyH_take (i := 21) (v := ?_) rfl (by kernel_rfl) (by kernel_rfl) (by kernel_rfl) (fun _ _ _ h => h) (Or.inl ⟨by rfl, ?_⟩) hHeld ?_
      rotate_left
      · intro w hSw
        (try dsimp only at hSw)
        go_simp
        try with_reducible rfl
      go_simp
      refine wpAnyH_take (i := 22) (v := ?_) rfl (by kernel_rfl) (by kernel_rfl) (by kernel_rfl) (fun _ _ _ h => h) (Or.inl ⟨by rfl, ?_⟩) hHeld ?_
      rotate_left
      · intro w hSw
        (try dsimp only at hSw)
        go_simp
        try with_reducible rfl
      go_simp
      refine wpAnyH_done (by kernel_rfl) ?_ _
      refine NoPanic.normal ?_
      go_wp2
      go_ret
      exact ⟨rfl, HB1.out.trans (hW2.mono HB1.out.size)⟩
  · obtain rfl : b = false := by
      rw [← Bool.not_eq_true]; intro h; have := (HBb.out.mp h).1; rw [hl, hy] at this; exact hf this
    have CFt := Lib.hid fun W => dFits_any p n m false ⟨(fun h => by cases h), fun h => absurd h hf⟩ W (by omega) (by omega)
    clear HBb
    obtain ⟨pa, pb, pc, pd⟩ := p
    simp only at *
    go_enter Try.func15, Try.ntmps15
    go_wp2_with fail
    with_reducible refine (CFt.out _).mono ?_
    rintro e w1 ⟨rfl, hb1⟩
    have HB1 := Lib.hid (HX.out.trans (hb1.mono HX.out.size))
    clear hb1 R0 CFt
    go_wp2
    go_ret
    exact ⟨rfl, HB1.out⟩
end Go.Proofs.Ytebjkgeldjgnfaa
