/- The walk of the law on finding places in a tree, over any tree's contracts. -/
import Derived.Test.YtklghlaagoaadaaLawTSlices
import Derived.Deep.RegionHeld3
namespace Go.Proofs.Ytklghlaagoaadaa
open Go.RowKit
section
variable {T : World → Addr → List I7 → Nat → Prop}
theorem raw_vcs {t : TypeId} {w : World} {b k : Nat} {s : S6} {z : Int} (h : RawAt t w b (vcs k s z)) : w.cell? ⟨b, 0, none⟩ = some (.int .i64 k) ∧ w.cell? ⟨b, 1, none⟩ = some (.int .i64 s.n) ∧ w.cell? ⟨b, 2, none⟩ = some (.int .i64 s.d0) ∧ w.cell? ⟨b, 3, none⟩ = some (.int .i64 s.d1) ∧ w.cell? ⟨b, 4, none⟩ = some (.int .i64 s.d2) ∧ w.cell? ⟨b, 5, none⟩ = some (.int .i64 s.mx) ∧ w.cell? ⟨b, 6, none⟩ = some (.int .i64 s.pl) ∧ w.cell? ⟨b, 7, none⟩ = some (.int .i64 z) :=
  ⟨RawAt.cell h 0, RawAt.cell h 1, RawAt.cell h 2, RawAt.cell h 3, RawAt.cell h 4, RawAt.cell h 5, RawAt.cell h 6, RawAt.cell h 7⟩
set_option maxHeartbeats 4000000 in
set_option maxRecDepth 100000 in
theorem treeFinds_any (K : TreeC T) (A0 : Option Addr) (n0 c0 : Nat) (l0 : List I7) (dim v b : Int) (w : World) (hA0 : ItsAt w A0 l0) (hl0 : l0.length = n0) (hn0 : n0 ≤ maxLen) (hC0 : Caps A0 n0 c0) :
    Calls Try.prog 7 #[.slice A0 n0 c0, .int .i64 dim, .agg #[.int .i64 v, .int .i64 b]] w fun e w' => e = .returned (.bool true) ∧ Below w.heap.size w w' := by
  have HEQ := eq3
  have HA := Lib.hid hA0; clear hA0
  have HL := Lib.hid hl0; clear hl0
  have HC := Lib.hid hC0; clear hC0
  have T3 := Lib.hid fun (W : World) => three_yes K W
  by_cases k0 : n0 ≤ 600 ∧ Okl l0
  rotate_left
  · have R := Lib.hid fun (W : World) (hW : Below w.heap.size w W) => (right5_no A0 n0 c0 l0 W (HA.out.below hW) HL.out hn0 k0)
    clear k0
    go_enter Try.func7, Try.ntmps7
    go_wp2_with fail
    have hb0 : Below w.heap.size w (w.alloc (.cells #[.int .i64 v, .int .i64 b] 47)) := (Below.refl _ _).alloc (Nat.le_refl _) _
    have HX := Lib.hid (show RawAt 47 (w.alloc (.cells #[.int .i64 v, .int .i64 b] 47)) w.heap.size #[.int .i64 v, .int .i64 b] from heap_alloc_new w _)
    refine (R.out _ hb0).mono ?_
    rintro e w1 ⟨rfl, hb1⟩
    have a1 := hb0.trans (hb1.mono hb0.size)
    have X1 := Lib.hid (RawAt.below HX.out hb1 (RawAt.lt HX.out))
    go_wp2_with fail
    refine (T3.out _).mono ?_
    rintro e w2 ⟨rfl, hb2⟩
    go_wp2_with fail
    go_ret
    exact ⟨rfl, a1.trans (hb2.mono a1.size)⟩
  obtain ⟨k1, k2⟩ := k0
  have R := Lib.hid fun (W : World) (hW : Below w.heap.size w W) => (right5_yes A0 n0 c0 l0 W (HA.out.below hW) HL.out hn0 ⟨k1, k2⟩)
  have N := Lib.hid fun (W : World) (hW : Below w.heap.size w W) => K.new A0 n0 c0 l0 W (HA.out.below hW) HL.out HC.out (by omega) k2
  have HK := Lib.hid k2; clear k2
  by_cases g : AskOk l0 dim v b
  · have G := Lib.hid g; clear g
    go_enter Try.func7, Try.ntmps7
    go_wp2_with fail
    have hb0 : Below w.heap.size w (w.alloc (.cells #[.int .i64 v, .int .i64 b] 47)) := (Below.refl _ _).alloc (Nat.le_refl _) _
    have HX := Lib.hid (show RawAt 47 (w.alloc (.cells #[.int .i64 v, .int .i64 b] 47)) w.heap.size #[.int .i64 v, .int .i64 b] from heap_alloc_new w _)
    refine (R.out _ hb0).mono ?_
    rintro e w1 ⟨rfl, hb1⟩
    have a1 := hb0.trans (hb1.mono hb0.size)
    have X1 := Lib.hid (RawAt.below HX.out hb1 (RawAt.lt HX.out))
    go_wp2_with fail
    refine (N.out _ a1).mono ?_
    rintro e w2 ⟨a, h, rfl, hT, hb2⟩
    have a2 := a1.trans (hb2.mono a1.size)
    have X2 := Lib.hid (RawAt.below X1.out hb2 (RawAt.lt X1.out))
    have HT := Lib.hid hT; clear hT
    have q0_ : w2.cell? ⟨w.heap.size, 0, none⟩ = some (.int .i64 v) := RawAt.cell X2.out 0
    have q1_ : w2.cell? ⟨w.heap.size, 1, none⟩ = some (.int .i64 b) := RawAt.cell X2.out 1
    go_wp2_with fail
    refine (K.find _ a l0 h dim v b HT.out G.out).mono ?_
    rintro e w3 ⟨k, z, hf, z1, z2, rfl, hb3⟩
    have a3 := a2.trans (hb3.mono a2.size)
    have X3 := Lib.hid (RawAt.below X2.out hb3 (RawAt.lt X2.out))
    have HF := Lib.hid hf; clear hf
    have HT3 := Lib.hid (K.below HT.out hb3)
    have d3 : dim.toNat ≤ 3 := by have h1 := G.out.1; have h2 := G.out.2.1; omega
    generalize hu : sall (l0.take k) = u at *
    have HU := Lib.hid hu; clear hu
    have a4 := a3.alloc a3.size (.cells (vcs k u z) 52)
    have q4 : Below w3.heap.size w3 (w3.alloc (.cells (vcs k u z) 52)) := (Below.refl _ _).alloc (Nat.le_refl _) _
    have P4 := Lib.hid (show RawAt 52 (w3.alloc (.cells (vcs k u z) 52)) w3.heap.size (vcs k u z) from heap_alloc_new w3 _)
    have X4 := Lib.hid (RawAt.below X3.out q4 (RawAt.lt X3.out))
    unfold vcs
    go_wp2_with fail
    refine (refs5_any A0 n0 c0 l0 _ (HA.out.below a4) HL.out (by omega)).mono ?_
    rintro e w5 ⟨A5, c5, rfl, hb5, hI5, hC5⟩
    have a5 := a4.trans (hb5.mono a4.size)
    have X5 := Lib.hid (RawAt.below X4.out hb5 (RawAt.lt X4.out))
    have P5 := Lib.hid (RawAt.below P4.out hb5 (RawAt.lt P4.out))
    have HI5 := Lib.hid hI5; clear hI5
    have HC5 := Lib.hid hC5; clear hC5
    have x0 : w5.cell? ⟨w.heap.size, 0, none⟩ = some (.int .i64 v) := RawAt.cell X5.out 0
    have x1 : w5.cell? ⟨w.heap.size, 1, none⟩ = some (.int .i64 b) := RawAt.cell X5.out 1
    go_wp2_with fail
    refine (asks_any A5 n0 c5 l0 dim v b _ HI5.out HL.out (by omega) HK.out true ⟨fun _ => G.out, fun _ => rfl⟩).mono ?_
    rintro e w6 ⟨rfl, hb6⟩
    have a6 := a5.trans (hb6.mono a5.size)
    have X6 := Lib.hid (RawAt.below X5.out hb6 (RawAt.lt X5.out))
    have P6 := Lib.hid (RawAt.below P5.out hb6 (RawAt.lt P5.out))
    have y0 : w6.cell? ⟨w.heap.size, 0, none⟩ = some (.int .i64 v) := RawAt.cell X6.out 0
    have y1 : w6.cell? ⟨w.heap.size, 1, none⟩ = some (.int .i64 b) := RawAt.cell X6.out 1
    have RF := Lib.hid (rfind_any A5 n0 c5 l0 dim.toNat v b w6 (HI5.out.below hb6) HL.out (by omega) HC5.out.1 HK.out d3)
    have hdz : ((dim.toNat : Nat) : Int) = dim := Int.toNat_of_nonneg G.out.1
    rw [hdz] at RF
    clear hdz
    go_wp2_with fail
    refine RF.out.mono ?_
    rintro e w7 ⟨k', hf', rfl, hb7⟩
    obtain rfl : k = k' := (hf'.unique HF.out).symm
    rw [HU.out]
    clear hf'
    have a7 := a6.trans (hb7.mono a6.size)
    have P7 := RawAt.below P6.out hb7 (RawAt.lt P6.out)
    have a8 := a7.alloc a7.size (.cells (pcs k u) 58)
    have q8 : Below w7.heap.size w7 (w7.alloc (.cells (pcs k u) 58)) := (Below.refl _ _).alloc (Nat.le_refl _) _
    have P8 := Lib.hid (RawAt.below P7 q8 (RawAt.lt P7))
    have W8 := Lib.hid (show RawAt 58 (w7.alloc (.cells (pcs k u) 58)) w7.heap.size (pcs k u) from heap_alloc_new w7 _)
    have b7 := (q4.trans (hb5.mono q4.size)).trans (hb6.mono (q4.trans (hb5.mono q4.size)).size)
    have b8 := (b7.trans (hb7.mono b7.size)).trans (q8.mono (b7.trans (hb7.mono b7.size)).size)
    have HT8 := Lib.hid (K.below HT3.out b8)
    clear x0 x1 y0 y1 q0_ q1_
    unfold pcs
    go_wp2_with fail
    change Code.wp _ _ _ _ (w7.alloc (.cells (pcs k u) 58))
    generalize (w7.alloc (.cells (pcs k u) 58)) = W1 at *
    generalize w3.heap.size = bp at P8 ⊢
    generalize w7.heap.size = bw at W8 ⊢
    clear hb1 hb2 hb3 hb5 hb6 hb7 a1 a2 a3 a4 a5 a6 a7 b7 b8 q4 q8 X1 X2 X3 X4 X5 X6 P4 P5 P6 P7 HI5 HC5 RF N R
    have CF : Hid (∀ W : World, Calls Try.prog 26 #[.agg #[.int .i64 u.n, .int .i64 u.d0, .int .i64 u.d1, .int .i64 u.d2, .int .i64 u.mx, .int .i64 u.pl]] W fun e w' => e = .returned (.agg #[.int .i64 u.n, .int .i64 u.d0, .int .i64 u.d1, .int .i64 u.d2, .int .i64 u.mx, .int .i64 u.pl]) ∧ Below W.heap.size W w') := fun W => srefs5_any u W
    have CH := Lib.hid fun (W : World) (hW : Below W1.heap.size W1 W) => K.height W a l0 h (K.below HT8.out hW)
    have MK := Lib.hid fun (W : World) (hW : Below W1.heap.size W1 W) => (by
        obtain ⟨r0, r1, r2, r3, r4, r5, r6, r7⟩ := raw_vcs (RawAt.below P8.out hW (RawAt.lt P8.out))
        obtain ⟨s0_, s1_, s2_, s3_, s4_, s5_, s6_⟩ := raw7 (RawAt.below W8.out hW (RawAt.lt W8.out))
        exact ⟨r0, r1, r2, r3, r4, r5, r6, r7, s0_, s1_, s2_, s3_, s4_, s5_, s6_, hW⟩ : (fun W => W.cell? ⟨bp, 0, none⟩ = some (.int .i64 k) ∧ W.cell? ⟨bp, 1, none⟩ = some (.int .i64 u.n) ∧ W.cell? ⟨bp, 2, none⟩ = some (.int .i64 u.d0) ∧ W.cell? ⟨bp, 3, none⟩ = some (.int .i64 u.d1) ∧ W.cell? ⟨bp, 4, none⟩ = some (.int .i64 u.d2) ∧ W.cell? ⟨bp, 5, none⟩ = some (.int .i64 u.mx) ∧ W.cell? ⟨bp, 6, none⟩ = some (.int .i64 u.pl) ∧ W.cell? ⟨bp, 7, none⟩ = some (.int .i64 z) ∧ W.cell? ⟨bw, 0, none⟩ = some (.int .i64 k) ∧ W.cell? ⟨bw, 1, none⟩ = some (.int .i64 u.n) ∧ W.cell? ⟨bw, 2, none⟩ = some (.int .i64 u.d0) ∧ W.cell? ⟨bw, 3, none⟩ = some (.int .i64 u.d1) ∧ W.cell? ⟨bw, 4, none⟩ = some (.int .i64 u.d2) ∧ W.cell? ⟨bw, 5, none⟩ = some (.int .i64 u.mx) ∧ W.cell? ⟨bw, 6, none⟩ = some (.int .i64 u.pl) ∧ Below W1.heap.size W1 W) W)
    have hW2 : Below W1.heap.size W1 W1.drew := (Below.refl _ _).drew
    have hz1 : decide (0 ≤ z) = true := decide_eq_true z1
    have hz2 : decide (z ≤ (h : Int)) = true := decide_eq_true z2
    go_wp2_with fail
    go_region_held3 (fun W => W.cell? ⟨bp, 0, none⟩ = some (.int .i64 k) ∧ W.cell? ⟨bp, 1, none⟩ = some (.int .i64 u.n) ∧ W.cell? ⟨bp, 2, none⟩ = some (.int .i64 u.d0) ∧ W.cell? ⟨bp, 3, none⟩ = some (.int .i64 u.d1) ∧ W.cell? ⟨bp, 4, none⟩ = some (.int .i64 u.d2) ∧ W.cell? ⟨bp, 5, none⟩ = some (.int .i64 u.mx) ∧ W.cell? ⟨bp, 6, none⟩ = some (.int .i64 u.pl) ∧ W.cell? ⟨bp, 7, none⟩ = some (.int .i64 z) ∧ W.cell? ⟨bw, 0, none⟩ = some (.int .i64 k) ∧ W.cell? ⟨bw, 1, none⟩ = some (.int .i64 u.n) ∧ W.cell? ⟨bw, 2, none⟩ = some (.int .i64 u.d0) ∧ W.cell? ⟨bw, 3, none⟩ = some (.int .i64 u.d1) ∧ W.cell? ⟨bw, 4, none⟩ = some (.int .i64 u.d2) ∧ W.cell? ⟨bw, 5, none⟩ = some (.int .i64 u.mx) ∧ W.cell? ⟨bw, 6, none⟩ = some (.int .i64 u.pl) ∧ Below W1.heap.size W1 W) (first | (with_reducible exact MK.out _ hW2) | (with_reducible exact MK.out _ (Below.refl _ _)) | go_keep)
      (first
        | (go_at_call 26; ((with_reducible refine (CF.out _).mono ?_); rintro e w2 ⟨rfl, hb2⟩); have hW2 := hW2.trans (hb2.mono hW2.size))
        | (go_at_call 27; ((with_reducible refine (CH.out _ hW2).mono ?_); rintro e w2 ⟨rfl, hb2⟩); have hW2 := hW2.trans (hb2.mono hW2.size))
        | (go_at_call 14; refine (T3.out _).mono ?_; rintro e w2 ⟨rfl, hb2⟩; have hW2 := hW2.trans (hb2.mono hW2.size)))
    go_wp2
    go_ret
    exact ⟨rfl, a8.trans (hW2.mono a8.size)⟩
  · have G := Lib.hid g; clear g
    go_enter Try.func7, Try.ntmps7
    go_wp2_with fail
    have hb0 : Below w.heap.size w (w.alloc (.cells #[.int .i64 v, .int .i64 b] 47)) := (Below.refl _ _).alloc (Nat.le_refl _) _
    have HX := Lib.hid (show RawAt 47 (w.alloc (.cells #[.int .i64 v, .int .i64 b] 47)) w.heap.size #[.int .i64 v, .int .i64 b] from heap_alloc_new w _)
    refine (R.out _ hb0).mono ?_
    rintro e w1 ⟨rfl, hb1⟩
    have a1 := hb0.trans (hb1.mono hb0.size)
    have X1 := Lib.hid (RawAt.below HX.out hb1 (RawAt.lt HX.out))
    go_wp2_with fail
    refine (N.out _ a1).mono ?_
    rintro e w2 ⟨a, h, rfl, hT, hb2⟩
    have a2 := a1.trans (hb2.mono a1.size)
    have X2 := Lib.hid (RawAt.below X1.out hb2 (RawAt.lt X1.out))
    have HT := Lib.hid hT; clear hT
    have q0_ : w2.cell? ⟨w.heap.size, 0, none⟩ = some (.int .i64 v) := RawAt.cell X2.out 0
    have q1_ : w2.cell? ⟨w.heap.size, 1, none⟩ = some (.int .i64 b) := RawAt.cell X2.out 1
    go_wp2_with fail
    refine (K.findBad _ a l0 h dim v b HT.out G.out).mono ?_
    rintro e w3 ⟨rfl, hb3⟩
    have a3 := a2.trans (hb3.mono a2.size)
    have X3 := Lib.hid (RawAt.below X2.out hb3 (RawAt.lt X2.out))
    have a4 := a3.alloc a3.size (.cells (vcs 0 s0 0) 52)
    have q4 : Below w3.heap.size w3 (w3.alloc (.cells (vcs 0 s0 0) 52)) := (Below.refl _ _).alloc (Nat.le_refl _) _
    have P4 := Lib.hid (show RawAt 52 (w3.alloc (.cells (vcs 0 s0 0) 52)) w3.heap.size (vcs 0 s0 0) from heap_alloc_new w3 _)
    have X4 := Lib.hid (RawAt.below X3.out q4 (RawAt.lt X3.out))
    unfold vcs s0
    go_wp2_with fail
    refine (refs5_any A0 n0 c0 l0 _ (HA.out.below a4) HL.out (by omega)).mono ?_
    rintro e w5 ⟨A5, c5, rfl, hb5, hI5, hC5⟩
    have a5 := a4.trans (hb5.mono a4.size)
    have X5 := Lib.hid (RawAt.below X4.out hb5 (RawAt.lt X4.out))
    have P5 := Lib.hid (RawAt.below P4.out hb5 (RawAt.lt P4.out))
    have HI5 := Lib.hid hI5; clear hI5
    have HC5 := Lib.hid hC5; clear hC5
    have x0 : w5.cell? ⟨w.heap.size, 0, none⟩ = some (.int .i64 v) := RawAt.cell X5.out 0
    have x1 : w5.cell? ⟨w.heap.size, 1, none⟩ = some (.int .i64 b) := RawAt.cell X5.out 1
    go_wp2_with fail
    refine (asks_any A5 n0 c5 l0 dim v b _ HI5.out HL.out (by omega) HK.out false ⟨fun e => absurd e (by simp), fun e => absurd e G.out⟩).mono ?_
    rintro e w6 ⟨rfl, hb6⟩
    have a6 := a5.trans (hb6.mono a5.size)
    have P6 := RawAt.below P5.out hb6 (RawAt.lt P5.out)
    obtain ⟨r0, r1, r2, r3, r4, r5, r6, r7⟩ := raw_vcs P6
    simp only [s0] at r1 r2 r3 r4 r5 r6
    clear x0 x1 P6
    go_wp2_with fail
    refine (T3.out _).mono ?_
    rintro e w7 ⟨rfl, hb7⟩
    go_wp2_with fail
    go_ret
    exact ⟨rfl, a6.trans (hb7.mono a6.size)⟩
end
end Go.Proofs.Ytklghlaagoaadaa
