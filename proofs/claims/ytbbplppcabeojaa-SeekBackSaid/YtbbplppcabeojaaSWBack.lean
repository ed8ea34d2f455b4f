/- The walk of a law on cursors, over any tree and of this program's trees. -/
import Derived.Test.YtbbplppcabeojaaSeekB
import Derived.Test.YtbbplppcabeojaaEq3
import Derived.Test.YtbbplppcabeojaaTreeKQ
namespace Go.Proofs.Ytbbplppcabeojaa
open Go.RowKit
section
variable {T : World → Addr → List I7 → Nat → Prop}
set_option maxHeartbeats 4000000 in
set_option maxRecDepth 100000 in
theorem seekBack_any (K : TreeQ T) (A0 : Option Addr) (n0 c0 : Nat) (l0 : List I7) (n : Int) (w : World) (hA0 : ItsAt w A0 l0) (hl0 : l0.length = n0) (hn0 : n0 ≤ maxLen) (hC0 : Caps A0 n0 c0) :
    Calls Try.prog 6 #[.slice A0 n0 c0, .int .i64 n] w fun e w' => e = .returned (.bool true) ∧ Below w.heap.size w w' := by
  have HEQ := eq3
  have HA := Lib.hid hA0; clear hA0
  have HL := Lib.hid hl0; clear hl0
  have HC := Lib.hid hC0; clear hC0
  have T3 := Lib.hid fun (W : World) => third_yes K W
  by_cases k0 : n0 ≤ 300 ∧ Okl l0
  rotate_left
  · have R := Lib.hid (right6_no A0 n0 c0 l0 w HA.out HL.out hn0 k0)
    clear k0
    go_enter Try.func6, Try.ntmps6
    go_wp2_with fail
    refine R.out.mono ?_
    rintro e w1 ⟨rfl, hb1⟩
    go_wp2_with fail
    refine (T3.out _).mono ?_
    rintro e w2 ⟨rfl, hb2⟩
    go_wp2_with fail
    go_ret
    exact ⟨rfl, hb1.trans (hb2.mono hb1.size)⟩
  obtain ⟨k1, k2⟩ := k0
  have R1 := Lib.hid (right6_yes A0 n0 c0 l0 w HA.out HL.out hn0 ⟨k1, k2⟩)
  have N := Lib.hid fun (W : World) (hW : Below w.heap.size w W) => K.new A0 n0 c0 l0 W (HA.out.below hW) HL.out HC.out (by omega) k2
  clear k2
  by_cases hn1 : n < 0
  · go_enter Try.func6, Try.ntmps6
    go_wp2_with fail
    refine R1.out.mono ?_
    rintro e w1 ⟨rfl, hb1⟩
    go_wp2_with fail
    refine (T3.out _).mono ?_
    rintro e w2 ⟨rfl, hb2⟩
    go_wp2_with fail
    go_ret
    exact ⟨rfl, hb1.trans (hb2.mono hb1.size)⟩
  by_cases hn2 : (n0 : Int) < n
  · go_enter Try.func6, Try.ntmps6
    go_wp2_with fail
    refine R1.out.mono ?_
    rintro e w1 ⟨rfl, hb1⟩
    go_wp2_with fail
    refine (T3.out _).mono ?_
    rintro e w2 ⟨rfl, hb2⟩
    go_wp2_with fail
    go_ret
    exact ⟨rfl, hb1.trans (hb2.mono hb1.size)⟩
  obtain ⟨n, rfl⟩ : ∃ k : Nat, n = (k : Int) := ⟨n.toNat, by omega⟩
  have hnn : n ≤ n0 := by omega
  go_enter Try.func6, Try.ntmps6
  go_wp2_with fail
  refine R1.out.mono ?_
  rintro e w1 ⟨rfl, hb1⟩
  go_wp2_with fail
  refine (N.out _ hb1).mono ?_
  rintro e w2 ⟨a, h, rfl, hT, hb2⟩
  have a2 := hb1.trans (hb2.mono hb1.size)
  have HT := Lib.hid hT; clear hT
  go_wp2_with fail
  refine (seeknew_any a w2).mono ?_
  rintro e w3 ⟨rfl, hr3, hb3⟩
  have a3 := a2.trans (hb3.mono a2.size)
  have C3 := CAt.make K HT.out hb3 hr3 w2.heap.size (Nat.le_refl _)
  have hsz := a2.size
  generalize w2.heap.size = b at *
  have CT := Lib.hid (cto_yes K C3 3 n 1 (to_ask (by rw [HL.out]; exact hnn)))
  clear C3 hr3
  go_wp2_with fail
  refine CT.out.mono ?_
  rintro e w4 ⟨k, hf, rfl, C4, ho4⟩
  obtain rfl := to_find (by rw [HL.out]; exact hnn) hf
  have a4 := a3.trans (ho4.below hsz hsz a3.size)
  clear hf CT
  have CS := Lib.hid (cstart_any C4)
  have HC4 := Lib.hid C4; clear C4
  generalize hs : sall (l0.take k) = s at *
  have HS := Lib.hid hs; clear hs
  unfold scs at CS
  go_wp2_with fail
  refine CS.out.mono ?_
  rintro e w5 ⟨rfl, hb5⟩
  have a5 := a4.trans (hb5.mono a4.size)
  have q5 : Below w5.heap.size w5 (w5.alloc (.cells (scs s) 52)) := (Below.refl _ _).alloc (Nat.le_refl _) _
  have P5 := Lib.hid (show RawAt 52 (w5.alloc (.cells (scs s) 52)) w5.heap.size (scs s) from heap_alloc_new w5 _)
  have C5 := HC4.out.keep (hb5.trans (q5.mono hb5.size))
  have a6 := a5.trans (q5.mono a5.size)
  by_cases hk : k < l0.length
  · have CI := Lib.hid (citem_yes K C5 hk)
    have HC5 := Lib.hid C5; clear C5
    generalize hx : ith l0 k = x at *
    have HX := Lib.hid hx; clear hx
    have hne1 : w5.heap.size ≠ b := by have := HC4.out.lt; have := hb5.size; omega
    have hne2 : ∀ w7, Below (w5.alloc (.cells (scs s) 52)).heap.size (w5.alloc (.cells (scs s) 52)) w7 → Hid (w7.heap.size ≠ b) := fun w7 hb7 => by have := HC4.out.lt; have := hb5.size; have := hb7.size; have := q5.size; show _ ≠ _; omega
    have HN1 := Lib.hid hne1
    have HN2 := hne2
    clear hne1 hne2
    unfold ics at CI
    unfold scs at a6 q5 P5 HC5 HN2 CI
    go_wp2_with fail
    refine CI.out.mono ?_
    rintro e w7 ⟨rfl, hb7⟩
    have HN2 := HN2 w7 hb7
    have a7 := a6.trans (hb7.mono a6.size)
    have q8 : Below w7.heap.size w7 (w7.alloc (.cells (ics x) 54)) := (Below.refl _ _).alloc (Nat.le_refl _) _
    have a8 := a7.trans (q8.mono a7.size)
    have I8 := Lib.hid (show RawAt 54 (w7.alloc (.cells (ics x) 54)) w7.heap.size (ics x) from heap_alloc_new w7 _)
    have P8 := Lib.hid (RawAt.below (RawAt.below P5.out hb7 (RawAt.lt P5.out)) q8 (RawAt.lt (RawAt.below P5.out hb7 (RawAt.lt P5.out))))
    have CN := Lib.hid (cnext_yes K ((HC5.out.keep hb7).keep q8) hk)
    unfold ics at a8 I8 P8 CN
    go_wp2_with fail
    refine CN.out.mono ?_
    rintro e w9 ⟨rfl, C9, ho9⟩
    have a9 := a8.trans (ho9.below hsz hsz a8.size)
    have I9 := Lib.hid (ho9.raw I8.out HN2.out HN2.out)
    have P9 := Lib.hid (ho9.raw P8.out HN1.out HN1.out)
    have CB := Lib.hid (cback_yes K C9)
    clear C9 CN
    go_wp2_with fail
    refine CB.out.mono ?_
    rintro e w10 ⟨rfl, C10, ho10⟩
    have a10 := a9.trans (ho10.below hsz hsz a9.size)
    have I10 := Lib.hid (ho10.raw I9.out HN2.out HN2.out)
    have P10 := Lib.hid (ho10.raw P9.out HN1.out HN1.out)
    have HC10 := Lib.hid C10
    have CJ := Lib.hid (citem_yes K C10 hk)
    rw [HX.out] at CJ
    unfold ics at CJ
    clear C10 CB
    go_wp2_with fail
    refine CJ.out.mono ?_
    rintro e w11 ⟨rfl, hb11⟩
    have a11 := a10.trans (hb11.mono a10.size)
    have q12 : Below w11.heap.size w11 (w11.alloc (.cells (ics x) 54)) := (Below.refl _ _).alloc (Nat.le_refl _) _
    have a12 := a11.trans (q12.mono a11.size)
    have J12 := Lib.hid (show RawAt 54 (w11.alloc (.cells (ics x) 54)) w11.heap.size (ics x) from heap_alloc_new w11 _)
    have b12 := hb11.trans (q12.mono hb11.size)
    have I12 := Lib.hid (RawAt.below I10.out b12 (RawAt.lt I10.out))
    have P12 := Lib.hid (RawAt.below P10.out b12 (RawAt.lt P10.out))
    have CS2 := Lib.hid fun (W : World) (hW : Below (w11.alloc (.cells (ics x) 54)).heap.size (w11.alloc (.cells (ics x) 54)) W) => cstart_any ((HC10.out.keep b12).keep hW)
    unfold ics at a12 J12 I12 P12 CS2
    rw [HS.out] at CS2
    unfold scs at CS2
    clear CS CI CJ HC5 HC10 I8 I9 I10 P5 P8 P9 P10 q5 q8 q12 b12 hb5 hb7 hb11 ho9 ho10 a5 a6 a7 a8 a9 a10 a11
    go_wp2_with fail
    generalize (w11.alloc (.cells #[.int .i64 x.tag, .int .i64 x.id, .int .i64 x.d0, .int .i64 x.d1, .int .i64 x.d2, .int .i64 x.mx, .string x.tx] 54)) = W12 at *
    generalize w5.heap.size = bw at *
    generalize w7.heap.size = bi at *
    generalize w11.heap.size = bj at *
    have MK : Hid (∀ W, Below W12.heap.size W12 W → W.cell? ⟨bw, 0, none⟩ = some (.int .i64 s.n) ∧ W.cell? ⟨bw, 1, none⟩ = some (.int .i64 s.d0) ∧ W.cell? ⟨bw, 2, none⟩ = some (.int .i64 s.d1) ∧ W.cell? ⟨bw, 3, none⟩ = some (.int .i64 s.d2) ∧ W.cell? ⟨bw, 4, none⟩ = some (.int .i64 s.mx) ∧ W.cell? ⟨bw, 5, none⟩ = some (.int .i64 s.pl) ∧ W.cell? ⟨bi, 0, none⟩ = some (.int .i64 x.tag) ∧ W.cell? ⟨bi, 1, none⟩ = some (.int .i64 x.id) ∧ W.cell? ⟨bi, 2, none⟩ = some (.int .i64 x.d0) ∧ W.cell? ⟨bi, 3, none⟩ = some (.int .i64 x.d1) ∧ W.cell? ⟨bi, 4, none⟩ = some (.int .i64 x.d2) ∧ W.cell? ⟨bi, 5, none⟩ = some (.int .i64 x.mx) ∧ W.cell? ⟨bi, 6, none⟩ = some (.string x.tx) ∧ W.cell? ⟨bj, 0, none⟩ = some (.int .i64 x.tag) ∧ W.cell? ⟨bj, 1, none⟩ = some (.int .i64 x.id) ∧ W.cell? ⟨bj, 2, none⟩ = some (.int .i64 x.d0) ∧ W.cell? ⟨bj, 3, none⟩ = some (.int .i64 x.d1) ∧ W.cell? ⟨bj, 4, none⟩ = some (.int .i64 x.d2) ∧ W.cell? ⟨bj, 5, none⟩ = some (.int .i64 x.mx) ∧ W.cell? ⟨bj, 6, none⟩ = some (.string x.tx) ∧ Below W12.heap.size W12 W) := fun W hW => by
      obtain ⟨z0, z1, z2, z3, z4, z5⟩ := raw_scs (RawAt.below P12.out hW (RawAt.lt P12.out))
      obtain ⟨p0, p1, p2, p3, p4, p5, p6⟩ := raw_ics (RawAt.below I12.out hW (RawAt.lt I12.out))
      obtain ⟨r0, r1, r2, r3, r4, r5, r6⟩ := raw_ics (RawAt.below J12.out hW (RawAt.lt J12.out))
      exact ⟨z0, z1, z2, z3, z4, z5, p0, p1, p2, p3, p4, p5, p6, r0, r1, r2, r3, r4, r5, r6, hW⟩
    have hW2 : Below W12.heap.size W12 W12.drew := (Below.refl _ _).drew
    clear I12 P12 J12
    go_region_held3 (fun W => W.cell? ⟨bw, 0, none⟩ = some (.int .i64 s.n) ∧ W.cell? ⟨bw, 1, none⟩ = some (.int .i64 s.d0) ∧ W.cell? ⟨bw, 2, none⟩ = some (.int .i64 s.d1) ∧ W.cell? ⟨bw, 3, none⟩ = some (.int .i64 s.d2) ∧ W.cell? ⟨bw, 4, none⟩ = some (.int .i64 s.mx) ∧ W.cell? ⟨bw, 5, none⟩ = some (.int .i64 s.pl) ∧ W.cell? ⟨bi, 0, none⟩ = some (.int .i64 x.tag) ∧ W.cell? ⟨bi, 1, none⟩ = some (.int .i64 x.id) ∧ W.cell? ⟨bi, 2, none⟩ = some (.int .i64 x.d0) ∧ W.cell? ⟨bi, 3, none⟩ = some (.int .i64 x.d1) ∧ W.cell? ⟨bi, 4, none⟩ = some (.int .i64 x.d2) ∧ W.cell? ⟨bi, 5, none⟩ = some (.int .i64 x.mx) ∧ W.cell? ⟨bi, 6, none⟩ = some (.string x.tx) ∧ W.cell? ⟨bj, 0, none⟩ = some (.int .i64 x.tag) ∧ W.cell? ⟨bj, 1, none⟩ = some (.int .i64 x.id) ∧ W.cell? ⟨bj, 2, none⟩ = some (.int .i64 x.d0) ∧ W.cell? ⟨bj, 3, none⟩ = some (.int .i64 x.d1) ∧ W.cell? ⟨bj, 4, none⟩ = some (.int .i64 x.d2) ∧ W.cell? ⟨bj, 5, none⟩ = some (.int .i64 x.mx) ∧ W.cell? ⟨bj, 6, none⟩ = some (.string x.tx) ∧ Below W12.heap.size W12 W) (first | (with_reducible exact MK.out _ hW2) | (with_reducible exact MK.out _ (Below.refl _ _)) | go_keep)
      (first
        | (go_at_call 25; ((with_reducible refine (CS2.out _ hW2).mono ?_); rintro e w2 ⟨rfl, hb2⟩); have hW2 := hW2.trans (hb2.mono hW2.size))
        | (go_at_call 19; ((with_reducible refine (T3.out _).mono ?_); rintro e w2 ⟨rfl, hb2⟩); have hW2 := hW2.trans (hb2.mono hW2.size)))
    go_wp2
    go_ret
    exact ⟨rfl, a12.trans (hW2.mono a12.size)⟩
  · have hkn : k = n0 := by have := HL.out; omega
    have CI := Lib.hid (citem_no K C5 hk)
    have CN := Lib.hid fun (W : World) (hW : Below (w5.alloc (.cells (scs s) 52)).heap.size (w5.alloc (.cells (scs s) 52)) W) => cnext_no K (C5.keep hW) hk
    clear C5 P5 HC4 hk
    unfold ics at CI
    unfold scs at a6 q5 CI CN
    have HK := Lib.hid hkn; clear hkn
    have hd : decide ((k : Int) = (n0 : Int)) = true := decide_eq_true (by rw [HK.out])
    have hd2 : ((k : Int) == (n0 : Int)) = true := by rw [HK.out]; simp
    go_wp2_with fail
    refine CI.out.mono ?_
    rintro e w7 ⟨rfl, hb7⟩
    have b8 := hb7.alloc hb7.size (.cells (ics ⟨0, 0, 0, 0, 0, 0, ⟨#[]⟩⟩) 54)
    unfold ics at b8
    have a8 := a6.trans (b8.mono a6.size)
    go_wp2_with fail
    refine (CN.out _ b8).mono ?_
    rintro e w9 ⟨rfl, hb9⟩
    have a9 := a8.trans (hb9.mono a8.size)
    go_wp2_with fail
    refine (T3.out _).mono ?_
    rintro e w10 ⟨rfl, hb10⟩
    go_wp2
    go_ret
    exact ⟨rfl, a9.trans (hb10.mono a9.size)⟩
end
theorem seekBack_walk {P1 : Prop} (A0 : Option Addr) (n0 c0 : Nat) (l0 : List I7) (a1 : Int) (w : World) (hA0 : ItsAt w A0 l0) (hl0 : l0.length = n0) (hn0 : n0 ≤ maxLen) (hC0 : Caps A0 n0 c0) (_ : P1) :
    Calls Try.prog 6 #[.slice A0 n0 c0, .int .i64 a1] w fun e w' => e = .returned (.bool true) ∧ Below w.heap.size w w' := seekBack_any treeQ A0 n0 c0 l0 a1 w hA0 hl0 hn0 hC0
end Go.Proofs.Ytbbplppcabeojaa
