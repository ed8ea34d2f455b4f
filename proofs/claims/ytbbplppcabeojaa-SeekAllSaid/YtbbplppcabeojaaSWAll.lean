/- The walk of a law on cursors, over any tree and of this program's trees. -/
import Derived.Test.YtbbplppcabeojaaSeekB
import Derived.Test.YtbbplppcabeojaaEq3
import Derived.Test.YtbbplppcabeojaaTreeKQ
namespace Go.Proofs.Ytbbplppcabeojaa
open Go.RowKit
section
variable {T : World → Addr → List I7 → Nat → Prop}
set_option maxHeartbeats 4000000 in
set_option maxRecDepth 100000 in
theorem seekAll_any (K : TreeQ T) (A0 : Option Addr) (n0 c0 : Nat) (l0 : List I7) (w : World) (hA0 : ItsAt w A0 l0) (hl0 : l0.length = n0) (hn0 : n0 ≤ maxLen) (hC0 : Caps A0 n0 c0) :
    Calls Try.prog 5 #[.slice A0 n0 c0] w fun e w' => e = .returned (.bool true) ∧ Below w.heap.size w w' := by
  have HEQ := eq3
  have HA := Lib.hid hA0; clear hA0
  have HL := Lib.hid hl0; clear hl0
  have HC := Lib.hid hC0; clear hC0
  have T3 := Lib.hid fun (W : World) => third_yes K W
  by_cases k0 : n0 ≤ 300 ∧ Okl l0
  rotate_left
  · have R := Lib.hid (right6_no A0 n0 c0 l0 w HA.out HL.out hn0 k0)
    clear k0
    go_enter Try.func5, Try.ntmps5
    go_wp2_with fail
    refine R.out.mono ?_
    rintro e w1 ⟨rfl, hb1⟩
    go_wp2_with fail
    refine (T3.out _).mono ?_
    rintro e w2 ⟨rfl, hb2⟩
    go_wp2_with fail
    go_ret
    exact ⟨rfl, hb1.trans (hb2.mono hb1.size)⟩
  obtain ⟨k1, k2⟩ := k0
  have R1 := Lib.hid (right6_yes A0 n0 c0 l0 w HA.out HL.out hn0 ⟨k1, k2⟩)
  have N := Lib.hid fun (W : World) (hW : Below w.heap.size w W) => K.new A0 n0 c0 l0 W (HA.out.below hW) HL.out HC.out (by omega) k2
  clear k2
  go_enter Try.func5, Try.ntmps5
  go_wp2_with fail
  refine R1.out.mono ?_
  rintro e w1 ⟨rfl, hb1⟩
  go_wp2_with fail
  refine (N.out _ hb1).mono ?_
  rintro e w2 ⟨a, h, rfl, hT, hb2⟩
  have a2 := hb1.trans (hb2.mono hb1.size)
  have HT := Lib.hid hT; clear hT
  go_wp2_with fail
  refine (seeknew_any a w2).mono ?_
  rintro e w3 ⟨rfl, hr3, hb3⟩
  have a3 := a2.trans (hb3.mono a2.size)
  have q4 : Below w3.heap.size w3 (w3.alloc (.cells (scs s0) 52)) := (Below.refl _ _).alloc (Nat.le_refl _) _
  have a4 := a3.trans (q4.mono a3.size)
  have L4 := Lib.hid (show RawAt 52 (w3.alloc (.cells (scs s0) 52)) w3.heap.size (scs (sall (l0.take 0))) from heap_alloc_new w3 _)
  have C4 := Lib.hid ((CAt.make K HT.out hb3 hr3 w3.heap.size hb3.size).keep q4)
  have hsz := a2.size
  have hbl : w2.heap.size < w3.heap.size := RawAt.lt hr3
  clear hr3 q4 HT
  go_wp2
  change Code.wp _ _ _ _ (w3.alloc (.cells (scs s0) 52))
  generalize (w3.alloc (.cells (scs s0) 52)) = W4 at *
  generalize w3.heap.size = bl at *
  generalize w2.heap.size = b at *
  have hszl : w.heap.size ≤ bl := by omega
  have HNE : Hid (b ≠ bl) := by show b ≠ bl; omega
  clear hbl hb3 a3
  go_loopg [33] n0 (fun g iv wr => ∃ j : Nat, iv = .int .i64 j ∧ j ≤ n0 ∧ n0 - j ≤ g ∧ Below w.heap.size w wr ∧ Hid (CAt T wr b bl a l0 h j) ∧ Hid (RawAt 52 wr bl (scs (sall (l0.take j)))))
  case atStart => exact ⟨0, rfl, by omega, by omega, a4, C4, L4⟩
  case round =>
    clear C4 L4 N R1
    obtain ⟨j, rfl, j1, j2, hb, hC, hL⟩ := hrel
    by_cases hlt : j < n0
    · have hm : j < l0.length := by rw [HL.out]; exact hlt
      obtain ⟨bb, off, rfl, hbs, hc⟩ := HA.out (by omega)
      obtain ⟨e0, e1, e2, e3, e4, e5, e6⟩ := hc j hm
      clear hc
      obtain ⟨H1, H2⟩ := old_cells hb
      have q5 : Below wr.heap.size wr (wr.alloc (.cells (ics (ith l0 j)) 54)) := (Below.refl _ _).alloc (Nat.le_refl _) _
      have X5 := Lib.hid (show RawAt 54 (wr.alloc (.cells (ics (ith l0 j)) 54)) wr.heap.size (ics (ith l0 j)) from heap_alloc_new wr _)
      have a5 := hb.trans (q5.mono hb.size)
      have C5 := Lib.hid (hC.out.keep q5)
      have CI := Lib.hid (citem_yes K C5.out hm)
      generalize ith l0 j = x at *
      unfold ics at CI q5 X5 a5 C5
      go_wp2_with fail
      refine CI.out.mono ?_
      rintro e w6 ⟨rfl, hb6⟩
      have q7 : Below w6.heap.size w6 (w6.alloc (.cells (ics x) 54)) := (Below.refl _ _).alloc (Nat.le_refl _) _
      have b7 := hb6.trans (q7.mono hb6.size)
      have I7_ := Lib.hid (show RawAt 54 (w6.alloc (.cells (ics x) 54)) w6.heap.size (ics x) from heap_alloc_new w6 _)
      have X7 := Lib.hid (RawAt.below X5.out b7 (RawAt.lt X5.out))
      have L5 := RawAt.below hL.out q5 (RawAt.lt hL.out)
      have L7 := Lib.hid (RawAt.below L5 b7 (RawAt.lt L5))
      have C7 := Lib.hid (C5.out.keep b7)
      have a7 := a5.trans (b7.mono a5.size)
      unfold ics at q7 b7 I7_ X7 L7 C7 a7
      clear L5 CI X5 C5 q5 q7 b7 hb6 a5 hC hL e0 e1 e2 e3 e4 e5 e6 H1 H2
      go_wp2_with fail
      generalize (w6.alloc (.cells #[.int .i64 x.tag, .int .i64 x.id, .int .i64 x.d0, .int .i64 x.d1, .int .i64 x.d2, .int .i64 x.mx, .string x.tx] 54)) = W7 at *
      generalize w6.heap.size = bi at *
      generalize wr.heap.size = bw at *
      have CS := Lib.hid fun (W : World) (hW : Below W7.heap.size W7 W) => cstart_any (C7.out.keep hW)
      have CE := Lib.hid fun (W : World) (hW : Below W7.heap.size W7 W) => cend_yes K (C7.out.keep hW) hm
      have LL := Lib.hid fun (W : World) (hW : Below W7.heap.size W7 W) => RawAt.below L7.out hW (RawAt.lt L7.out)
      have HCN : Hid (∀ W W', Below W7.heap.size W7 W → Off bl bl W W' → Calls Try.prog 27 #[.pointer (some ⟨b, 0, none⟩)] W' fun e w' => e = .returned (.bool true) ∧ CAt T w' b bl a l0 h (j + 1) ∧ Off b b W' w') := fun W W' hW hO => cnext_yes K ((C7.out.keep hW).other HNE.out hO) hm
      generalize hs : sall (l0.take j) = s at *
      have HS := Lib.hid hs; clear hs
      generalize hu : sall (l0.take (j + 1)) = u at *
      have HU := Lib.hid hu; clear hu
      unfold scs at CS CE
      have MK : Hid (∀ W, Below W7.heap.size W7 W → W.cell? ⟨bl, 0, none⟩ = some (.int .i64 s.n) ∧ W.cell? ⟨bl, 1, none⟩ = some (.int .i64 s.d0) ∧ W.cell? ⟨bl, 2, none⟩ = some (.int .i64 s.d1) ∧ W.cell? ⟨bl, 3, none⟩ = some (.int .i64 s.d2) ∧ W.cell? ⟨bl, 4, none⟩ = some (.int .i64 s.mx) ∧ W.cell? ⟨bl, 5, none⟩ = some (.int .i64 s.pl) ∧ W.cell? ⟨bw, 0, none⟩ = some (.int .i64 x.tag) ∧ W.cell? ⟨bw, 1, none⟩ = some (.int .i64 x.id) ∧ W.cell? ⟨bw, 2, none⟩ = some (.int .i64 x.d0) ∧ W.cell? ⟨bw, 3, none⟩ = some (.int .i64 x.d1) ∧ W.cell? ⟨bw, 4, none⟩ = some (.int .i64 x.d2) ∧ W.cell? ⟨bw, 5, none⟩ = some (.int .i64 x.mx) ∧ W.cell? ⟨bw, 6, none⟩ = some (.string x.tx) ∧ W.cell? ⟨bi, 0, none⟩ = some (.int .i64 x.tag) ∧ W.cell? ⟨bi, 1, none⟩ = some (.int .i64 x.id) ∧ W.cell? ⟨bi, 2, none⟩ = some (.int .i64 x.d0) ∧ W.cell? ⟨bi, 3, none⟩ = some (.int .i64 x.d1) ∧ W.cell? ⟨bi, 4, none⟩ = some (.int .i64 x.d2) ∧ W.cell? ⟨bi, 5, none⟩ = some (.int .i64 x.mx) ∧ W.cell? ⟨bi, 6, none⟩ = some (.string x.tx) ∧ Below W7.heap.size W7 W) := fun W hW => by
        obtain ⟨z0, z1, z2, z3, z4, z5⟩ := raw_scs (LL.out W hW)
        obtain ⟨p0, p1, p2, p3, p4, p5, p6⟩ := raw_ics (RawAt.below X7.out hW (RawAt.lt X7.out))
        obtain ⟨r0, r1, r2, r3, r4, r5, r6⟩ := raw_ics (RawAt.below I7_.out hW (RawAt.lt I7_.out))
        exact ⟨z0, z1, z2, z3, z4, z5, p0, p1, p2, p3, p4, p5, p6, r0, r1, r2, r3, r4, r5, r6, hW⟩
      have hW2 : Below W7.heap.size W7 W7.drew := (Below.refl _ _).drew
      clear L7 X7 I7_ C7
      go_region_held3 (fun W => W.cell? ⟨bl, 0, none⟩ = some (.int .i64 s.n) ∧ W.cell? ⟨bl, 1, none⟩ = some (.int .i64 s.d0) ∧ W.cell? ⟨bl, 2, none⟩ = some (.int .i64 s.d1) ∧ W.cell? ⟨bl, 3, none⟩ = some (.int .i64 s.d2) ∧ W.cell? ⟨bl, 4, none⟩ = some (.int .i64 s.mx) ∧ W.cell? ⟨bl, 5, none⟩ = some (.int .i64 s.pl) ∧ W.cell? ⟨bw, 0, none⟩ = some (.int .i64 x.tag) ∧ W.cell? ⟨bw, 1, none⟩ = some (.int .i64 x.id) ∧ W.cell? ⟨bw, 2, none⟩ = some (.int .i64 x.d0) ∧ W.cell? ⟨bw, 3, none⟩ = some (.int .i64 x.d1) ∧ W.cell? ⟨bw, 4, none⟩ = some (.int .i64 x.d2) ∧ W.cell? ⟨bw, 5, none⟩ = some (.int .i64 x.mx) ∧ W.cell? ⟨bw, 6, none⟩ = some (.string x.tx) ∧ W.cell? ⟨bi, 0, none⟩ = some (.int .i64 x.tag) ∧ W.cell? ⟨bi, 1, none⟩ = some (.int .i64 x.id) ∧ W.cell? ⟨bi, 2, none⟩ = some (.int .i64 x.d0) ∧ W.cell? ⟨bi, 3, none⟩ = some (.int .i64 x.d1) ∧ W.cell? ⟨bi, 4, none⟩ = some (.int .i64 x.d2) ∧ W.cell? ⟨bi, 5, none⟩ = some (.int .i64 x.mx) ∧ W.cell? ⟨bi, 6, none⟩ = some (.string x.tx) ∧ Below W7.heap.size W7 W) (first | (with_reducible exact MK.out _ hW2) | (with_reducible exact MK.out _ (Below.refl _ _)) | go_keep)
        (first
          | (go_at_call 25; ((with_reducible refine (CS.out _ hW2).mono ?_); rintro e w8 ⟨rfl, hb8⟩); have hW2 := hW2.trans (hb8.mono hW2.size)))
      clear MK CS
      go_wp2_with fail
      refine (CE.out _ hW2).mono ?_
      rintro e w9 ⟨rfl, hb9⟩
      have hW3 := hW2.trans (hb9.mono hW2.size)
      have L9 := LL.out _ hW3
      have y0 := RawAt.free L9 0
      have y1 := RawAt.free L9 1
      have y2 := RawAt.free L9 2
      have y3 := RawAt.free L9 3
      have y4 := RawAt.free L9 4
      have y5 := RawAt.free L9 5
      obtain ⟨z0, z1, z2, z3, z4, z5⟩ := raw_scs L9
      have a9 := a7.trans (hW3.mono a7.size)
      have HL9 := Lib.hid L9; clear L9
      have k1 := ((((((HL9.out.set_ 0 (.int .i64 u.n)).set_ 1 (.int .i64 u.d0)).set_ 2 (.int .i64 u.d1)).set_ 3 (.int .i64 u.d2)).set_ 4 (.int .i64 u.mx)).set_ 5 (.int .i64 u.pl))
      have k2 := (((((((Off.refl bl bl w9).set 0 (.int .i64 u.n)).set 1 (.int .i64 u.d0)).set 2 (.int .i64 u.d1)).set 3 (.int .i64 u.d2)).set 4 (.int .i64 u.mx)).set 5 (.int .i64 u.pl))
      have K1 := Lib.hid (k1.of_eq (show _ = scs u from by simp [scs]))
      have K2 := Lib.hid k2
      clear k1 k2
      go_wp2_with fail
      refine (HCN.out _ _ hW3 K2.out).mono ?_
      rintro e w10 ⟨rfl, C10, ho10⟩
      have L10 := Lib.hid (ho10.raw K1.out (fun e => HNE.out e.symm) (fun e => HNE.out e.symm))
      have a10 := a9.trans (K2.out.below hszl hszl a9.size)
      have a11 := a10.trans (ho10.below hsz hsz a10.size)
      rw [← HU.out] at L10
      have HC10 := Lib.hid C10
      clear y0 y1 y2 y3 y4 y5 z0 z1 z2 z3 z4 z5 K1 K2 C10 hW2 hW3
      go_wp2
      go_roundg (gk - 1)
      case measure => omega
      case rel => exact ⟨j + 1, by go_num, by omega, by omega, a11, HC10, L10⟩
    · have hjn : j = l0.length := by have := HL.out; omega
      have CI := Lib.hid (citem_no K hC.out (by omega))
      unfold ics at CI
      go_wp2_with fail
      refine CI.out.mono ?_
      rintro e w6 ⟨rfl, hb6⟩
      have b6 := hb6.alloc hb6.size (.cells (ics ⟨0, 0, 0, 0, 0, 0, ⟨#[]⟩⟩) 54)
      have a6 := hb.trans (b6.mono hb.size)
      have C6 := hC.out.keep b6
      have L6 := Lib.hid (RawAt.below hL.out b6 (RawAt.lt hL.out))
      unfold ics at b6 a6 C6 L6
      go_wp2_with fail
      generalize (w6.alloc (.cells #[.int .i64 0, .int .i64 0, .int .i64 0, .int .i64 0, .int .i64 0, .int .i64 0, .string ⟨#[]⟩] 54)) = W6 at *
      have CS := Lib.hid fun (W : World) (hW : Below W6.heap.size W6 W) => cstart_any (C6.keep hW)
      have CN := Lib.hid fun (W : World) (hW : Below W6.heap.size W6 W) => cnext_no K (C6.keep hW) (by omega)
      have CU : Hid (∀ W, Below W6.heap.size W6 W → Calls Try.prog 28 #[.pointer (some a)] W fun e w' => e = .returned (.agg (scs (sall (l0.take j)))) ∧ Below W.heap.size W w') := fun W hW => by
        have := K.sum W a l0 h (C6.tree W (Off.of hW))
        rwa [show l0.take j = l0 from List.take_of_length_le (by omega)]
      generalize hu : sall (l0.take j) = u at *
      have HU := Lib.hid hu; clear hu
      unfold scs at CS CU
      have MK : Hid (∀ W, Below W6.heap.size W6 W → W.cell? ⟨bl, 0, none⟩ = some (.int .i64 u.n) ∧ W.cell? ⟨bl, 1, none⟩ = some (.int .i64 u.d0) ∧ W.cell? ⟨bl, 2, none⟩ = some (.int .i64 u.d1) ∧ W.cell? ⟨bl, 3, none⟩ = some (.int .i64 u.d2) ∧ W.cell? ⟨bl, 4, none⟩ = some (.int .i64 u.mx) ∧ W.cell? ⟨bl, 5, none⟩ = some (.int .i64 u.pl) ∧ Below W6.heap.size W6 W) := fun W hW => by
        obtain ⟨z0, z1, z2, z3, z4, z5⟩ := raw_scs (RawAt.below L6.out hW (RawAt.lt L6.out))
        exact ⟨z0, z1, z2, z3, z4, z5, hW⟩
      clear hC hL CI C6 L6 hb6 b6
      have hW2 : Below W6.heap.size W6 W6.drew := (Below.refl _ _).drew
      go_region_held3 (fun W => W.cell? ⟨bl, 0, none⟩ = some (.int .i64 u.n) ∧ W.cell? ⟨bl, 1, none⟩ = some (.int .i64 u.d0) ∧ W.cell? ⟨bl, 2, none⟩ = some (.int .i64 u.d1) ∧ W.cell? ⟨bl, 3, none⟩ = some (.int .i64 u.d2) ∧ W.cell? ⟨bl, 4, none⟩ = some (.int .i64 u.mx) ∧ W.cell? ⟨bl, 5, none⟩ = some (.int .i64 u.pl) ∧ Below W6.heap.size W6 W) (first | (with_reducible exact MK.out _ hW2) | (with_reducible exact MK.out _ (Below.refl _ _)) | go_keep)
        (first
          | (go_at_call 27; ((with_reducible refine (CN.out _ hW2).mono ?_); rintro e w8 ⟨rfl, hb8⟩); have hW2 := hW2.trans (hb8.mono hW2.size))
          | (go_at_call 25; ((with_reducible refine (CS.out _ hW2).mono ?_); rintro e w8 ⟨rfl, hb8⟩); have hW2 := hW2.trans (hb8.mono hW2.size))
          | (go_at_call 28; ((with_reducible refine (CU.out _ hW2).mono ?_); rintro e w8 ⟨rfl, hb8⟩); have hW2 := hW2.trans (hb8.mono hW2.size))
          | (go_at_call 19; ((with_reducible refine (T3.out _).mono ?_); rintro e w8 ⟨rfl, hb8⟩); have hW2 := hW2.trans (hb8.mono hW2.size)))
      go_wp2
      go_ret
      exact ⟨rfl, a6.trans (hW2.mono a6.size)⟩
end
theorem seekAll_walk (A0 : Option Addr) (n0 c0 : Nat) (l0 : List I7) (w : World) (hA0 : ItsAt w A0 l0) (hl0 : l0.length = n0) (hn0 : n0 ≤ maxLen) (hC0 : Caps A0 n0 c0) :
    Calls Try.prog 5 #[.slice A0 n0 c0] w fun e w' => e = .returned (.bool true) ∧ Below w.heap.size w w' := seekAll_any treeQ A0 n0 c0 l0 w hA0 hl0 hn0 hC0
end Go.Proofs.Ytbbplppcabeojaa
