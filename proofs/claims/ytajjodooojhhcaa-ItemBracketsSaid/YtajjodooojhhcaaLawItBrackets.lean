/- The walk of the law that sums of items are added in whatever brackets. -/
import Derived.Test.YtajjodooojhhcaaItEx
namespace Go.Proofs.Ytajjodooojhhcaa
open Go.RowKit
set_option linter.unusedVariables false in
set_option maxHeartbeats 4000000 in
set_option maxRecDepth 100000 in
theorem itemBrackets_walk (A0 : Option Addr) (n0 c0 : Nat) (l0 : List I7) (A1 : Option Addr) (n1 c1 : Nat) (l1 : List I7) (A2 : Option Addr) (n2 c2 : Nat) (l2 : List I7) (w : World)
    (hA0 : ItsAt w A0 l0) (hl0 : l0.length = n0) (hn0 : n0 ≤ maxLen) (hC0 : Caps A0 n0 c0) (hA1 : ItsAt w A1 l1) (hl1 : l1.length = n1) (hn1 : n1 ≤ maxLen) (hC1 : Caps A1 n1 c1) (hA2 : ItsAt w A2 l2) (hl2 : l2.length = n2) (hn2 : n2 ≤ maxLen) (hC2 : Caps A2 n2 c2) :
    Calls Try.prog 10 #[.slice A0 n0 c0, .slice A1 n1 c1, .slice A2 n2 c2] w fun e w' => e = .returned (.bool true) ∧ Below w.heap.size w w' := by
  have HEQ := eq3
  have HA0 := Lib.hid hA0; clear hA0
  have HL0 := Lib.hid hl0; clear hl0
  have HN0 := Lib.hid hn0; clear hn0
  have HA1 := Lib.hid hA1; clear hA1
  have HL1 := Lib.hid hl1; clear hl1
  have HN1 := Lib.hid hn1; clear hn1
  have HA2 := Lib.hid hA2; clear hA2
  have HL2 := Lib.hid hl2; clear hl2
  have HN2 := Lib.hid hn2; clear hn2
  by_cases k0 : n0 ≤ 1000 ∧ Okl l0
  rotate_left
  · have R0 := Lib.hid fun (W : World) (hW : Below w.heap.size w W) => rightl_no A0 n0 c0 l0 W (HA0.out.below hW) HL0.out HN0.out k0
    clear k0
    go_enter Try.func10, Try.ntmps10
    go_wp2_with fail
    refine (R0.out _ (Below.refl _ _)).mono ?_
    rintro e w1 ⟨rfl, hb1⟩
    have a1 := hb1
    go_wp2_with fail
    refine (both_any _).mono ?_
    rintro e w9 ⟨rfl, hb9⟩
    go_wp2_with fail
    go_ret
    exact ⟨rfl, a1.trans (hb9.mono a1.size)⟩
  by_cases k1 : n1 ≤ 1000 ∧ Okl l1
  rotate_left
  · have R0 := Lib.hid fun (W : World) (hW : Below w.heap.size w W) => rightl_yes A0 n0 c0 l0 W (HA0.out.below hW) HL0.out HN0.out k0
    have R1 := Lib.hid fun (W : World) (hW : Below w.heap.size w W) => rightl_no A1 n1 c1 l1 W (HA1.out.below hW) HL1.out HN1.out k1
    clear k0
    clear k1
    go_enter Try.func10, Try.ntmps10
    go_wp2_with fail
    refine (R0.out _ (Below.refl _ _)).mono ?_
    rintro e w1 ⟨rfl, hb1⟩
    have a1 := hb1
    go_wp2_with fail
    refine (R1.out _ a1).mono ?_
    rintro e w2 ⟨rfl, hb2⟩
    have a2 := a1.trans (hb2.mono a1.size)
    go_wp2_with fail
    refine (both_any _).mono ?_
    rintro e w9 ⟨rfl, hb9⟩
    go_wp2_with fail
    go_ret
    exact ⟨rfl, a2.trans (hb9.mono a2.size)⟩
  by_cases k2 : n2 ≤ 1000 ∧ Okl l2
  rotate_left
  · have R0 := Lib.hid fun (W : World) (hW : Below w.heap.size w W) => rightl_yes A0 n0 c0 l0 W (HA0.out.below hW) HL0.out HN0.out k0
    have R1 := Lib.hid fun (W : World) (hW : Below w.heap.size w W) => rightl_yes A1 n1 c1 l1 W (HA1.out.below hW) HL1.out HN1.out k1
    have R2 := Lib.hid fun (W : World) (hW : Below w.heap.size w W) => rightl_no A2 n2 c2 l2 W (HA2.out.below hW) HL2.out HN2.out k2
    clear k0
    clear k1
    clear k2
    go_enter Try.func10, Try.ntmps10
    go_wp2_with fail
    refine (R0.out _ (Below.refl _ _)).mono ?_
    rintro e w1 ⟨rfl, hb1⟩
    have a1 := hb1
    go_wp2_with fail
    refine (R1.out _ a1).mono ?_
    rintro e w2 ⟨rfl, hb2⟩
    have a2 := a1.trans (hb2.mono a1.size)
    go_wp2_with fail
    refine (R2.out _ a2).mono ?_
    rintro e w3 ⟨rfl, hb3⟩
    have a3 := a2.trans (hb3.mono a2.size)
    go_wp2_with fail
    refine (both_any _).mono ?_
    rintro e w9 ⟨rfl, hb9⟩
    go_wp2_with fail
    go_ret
    exact ⟨rfl, a3.trans (hb9.mono a3.size)⟩
  have R0 := Lib.hid fun (W : World) (hW : Below w.heap.size w W) => rightl_yes A0 n0 c0 l0 W (HA0.out.below hW) HL0.out HN0.out k0
  have R1 := Lib.hid fun (W : World) (hW : Below w.heap.size w W) => rightl_yes A1 n1 c1 l1 W (HA1.out.below hW) HL1.out HN1.out k1
  have R2 := Lib.hid fun (W : World) (hW : Below w.heap.size w W) => rightl_yes A2 n2 c2 l2 W (HA2.out.below hW) HL2.out HN2.out k2
  obtain ⟨m0, o0⟩ := k0
  obtain ⟨m1, o1⟩ := k1
  obtain ⟨m2, o2⟩ := k2
  have C0 := Lib.hid fun (W : World) (hW : Below w.heap.size w W) => iall_ex A0 n0 c0 l0 W _ (HA0.out.below hW) HL0.out (by omega) o0 rfl
  have C1 := Lib.hid fun (W : World) (hW : Below w.heap.size w W) => iall_ex A1 n1 c1 l1 W _ (HA1.out.below hW) HL1.out (by omega) o1 rfl
  have C2 := Lib.hid fun (W : World) (hW : Below w.heap.size w W) => iall_ex A2 n2 c2 l2 W _ (HA2.out.below hW) HL2.out (by omega) o2 rfl
  have s0_ := sall_ok _ l0 rfl o0
  have s1_ := sall_ok _ l1 rfl o1
  have s2_ := sall_ok _ l2 rfl o2
  have s01 := sall_ok _ (l0 ++ l1) rfl (o0.append_ o1)
  have s12 := sall_ok _ (l1 ++ l2) rfl (o1.append_ o2)
  rw [List.length_append] at s01 s12
  have q0 := HL0.out
  have q1 := HL1.out
  have q2 := HL2.out
  have D01 := Lib.hid fun W => iadd_ex (sall l0) (sall l1) (sall (l0 ++ l1)) _ _ s0_ s1_ (by omega) (by omega) (sall_append _ l0 l1 rfl o0 o1).symm W
  have D12 := Lib.hid fun W => iadd_ex (sall l1) (sall l2) (sall (l1 ++ l2)) _ _ s1_ s2_ (by omega) (by omega) (sall_append _ l1 l2 rfl o1 o2).symm W
  have DL := Lib.hid fun W => iadd_ex (sall (l0 ++ l1)) (sall l2) (sall (l0 ++ l1 ++ l2)) _ _ s01 s2_ (by omega) (by omega) (sall_append _ (l0 ++ l1) l2 rfl (o0.append_ o1) o2).symm W
  have DR := Lib.hid fun W => iadd_ex (sall l0) (sall (l1 ++ l2)) (sall (l0 ++ l1 ++ l2)) _ _ s0_ s12 (by omega) (by omega) (by rw [List.append_assoc]; exact (sall_append _ l0 (l1 ++ l2) rfl o0 (o1.append_ o2)).symm) W
  clear s0_ s1_ s2_ s01 s12 q0 q1 q2 o0 o1 o2
  generalize sall (l0 ++ l1 ++ l2) = t at *
  generalize sall (l0 ++ l1) = u at *
  generalize sall (l1 ++ l2) = v at *
  generalize sall l0 = x at *
  generalize sall l1 = y at *
  generalize sall l2 = z at *
  go_enter Try.func10, Try.ntmps10
  go_wp2_with fail
  refine (R0.out _ (Below.refl _ _)).mono ?_
  rintro e w1 ⟨rfl, hb1⟩
  have a1 := hb1
  go_wp2_with fail
  refine (R1.out _ a1).mono ?_
  rintro e w2 ⟨rfl, hb2⟩
  have a2 := a1.trans (hb2.mono a1.size)
  go_wp2_with fail
  refine (R2.out _ a2).mono ?_
  rintro e w3 ⟨rfl, hb3⟩
  have a3 := a2.trans (hb3.mono a2.size)
  go_wp2_with fail
  refine (C0.out _ a3).mono ?_
  rintro e w4 ⟨rfl, hb4⟩
  have a4 := a3.trans (hb4.mono a3.size)
  have b4 := a4.alloc a4.size (.cells (scs x) 53)
  go_wp2_with fail
  refine (C1.out _ b4).mono ?_
  rintro e w5 ⟨rfl, hb5⟩
  have a5 := b4.trans (hb5.mono b4.size)
  have b5 := a5.alloc a5.size (.cells (scs y) 53)
  go_wp2_with fail
  refine (C2.out _ b5).mono ?_
  rintro e w6 ⟨rfl, hb6⟩
  have a6 := b5.trans (hb6.mono b5.size)
  have b6 := a6.alloc a6.size (.cells (scs z) 53)
  have rx : RawAt 53 (w6.alloc (.cells (scs z) 53)) w4.heap.size (scs x) := RawAt.below (RawAt.below (RawAt.below (RawAt.below (heap_alloc_new w4 _) hb5 (by simp)) ((Below.refl _ _).alloc (Nat.le_refl _) (.cells (scs y) 53)) (by have := hb5.size; simp at this; omega)) hb6 (by have := hb5.size; simp at this ⊢; omega)) ((Below.refl _ _).alloc (Nat.le_refl _) (.cells (scs z) 53)) (by have := hb5.size; have := hb6.size; simp at *; omega)
  have ry : RawAt 53 (w6.alloc (.cells (scs z) 53)) w5.heap.size (scs y) := RawAt.below (RawAt.below (heap_alloc_new w5 _) hb6 (by simp)) ((Below.refl _ _).alloc (Nat.le_refl _) (.cells (scs z) 53)) (by have := hb6.size; simp at this; omega)
  have rz : RawAt 53 (w6.alloc (.cells (scs z) 53)) w6.heap.size (scs z) := heap_alloc_new w6 _
  have HX := Lib.hid rx; clear rx
  have HY := Lib.hid ry; clear ry
  have HZ := Lib.hid rz; clear rz
  go_wp2_with fail
  change Code.wp _ _ _ _ (w6.alloc (.cells (scs z) 53))
  generalize (w6.alloc (.cells (scs z) 53)) = W1 at *
  generalize w4.heap.size = bx at *
  generalize w5.heap.size = by_ at *
  generalize w6.heap.size = bz at *
  clear C0 C1 C2 R0 R1 R2 hb1 hb2 hb3 hb4 hb5 hb6 a1 a2 a3 a4 a5 b4 b5
  have MK := Lib.hid fun (W : World) (hW : Below W1.heap.size W1 W) => (by
      obtain ⟨bx0, bx1, bx2, bx3, bx4, bx5⟩ := raw_scs (RawAt.below HX.out hW (RawAt.lt HX.out))
      obtain ⟨by_0, by_1, by_2, by_3, by_4, by_5⟩ := raw_scs (RawAt.below HY.out hW (RawAt.lt HY.out))
      obtain ⟨bz0, bz1, bz2, bz3, bz4, bz5⟩ := raw_scs (RawAt.below HZ.out hW (RawAt.lt HZ.out))
      exact ⟨bx0, bx1, bx2, bx3, bx4, bx5, by_0, by_1, by_2, by_3, by_4, by_5, bz0, bz1, bz2, bz3, bz4, bz5, hW⟩ : W.cell? ⟨bx, 0, none⟩ = some (.int .i64 x.n) ∧ W.cell? ⟨bx, 1, none⟩ = some (.int .i64 x.d0) ∧ W.cell? ⟨bx, 2, none⟩ = some (.int .i64 x.d1) ∧ W.cell? ⟨bx, 3, none⟩ = some (.int .i64 x.d2) ∧ W.cell? ⟨bx, 4, none⟩ = some (.int .i64 x.mx) ∧ W.cell? ⟨bx, 5, none⟩ = some (.int .i64 x.pl) ∧ W.cell? ⟨by_, 0, none⟩ = some (.int .i64 y.n) ∧ W.cell? ⟨by_, 1, none⟩ = some (.int .i64 y.d0) ∧ W.cell? ⟨by_, 2, none⟩ = some (.int .i64 y.d1) ∧ W.cell? ⟨by_, 3, none⟩ = some (.int .i64 y.d2) ∧ W.cell? ⟨by_, 4, none⟩ = some (.int .i64 y.mx) ∧ W.cell? ⟨by_, 5, none⟩ = some (.int .i64 y.pl) ∧ W.cell? ⟨bz, 0, none⟩ = some (.int .i64 z.n) ∧ W.cell? ⟨bz, 1, none⟩ = some (.int .i64 z.d0) ∧ W.cell? ⟨bz, 2, none⟩ = some (.int .i64 z.d1) ∧ W.cell? ⟨bz, 3, none⟩ = some (.int .i64 z.d2) ∧ W.cell? ⟨bz, 4, none⟩ = some (.int .i64 z.mx) ∧ W.cell? ⟨bz, 5, none⟩ = some (.int .i64 z.pl) ∧ Below W1.heap.size W1 W)
  have hW2 : Below W1.heap.size W1 W1.drew := (Below.refl _ _).drew
  go_wp2_with fail
  go_region_held3 (fun W => W.cell? ⟨bx, 0, none⟩ = some (.int .i64 x.n) ∧ W.cell? ⟨bx, 1, none⟩ = some (.int .i64 x.d0) ∧ W.cell? ⟨bx, 2, none⟩ = some (.int .i64 x.d1) ∧ W.cell? ⟨bx, 3, none⟩ = some (.int .i64 x.d2) ∧ W.cell? ⟨bx, 4, none⟩ = some (.int .i64 x.mx) ∧ W.cell? ⟨bx, 5, none⟩ = some (.int .i64 x.pl) ∧ W.cell? ⟨by_, 0, none⟩ = some (.int .i64 y.n) ∧ W.cell? ⟨by_, 1, none⟩ = some (.int .i64 y.d0) ∧ W.cell? ⟨by_, 2, none⟩ = some (.int .i64 y.d1) ∧ W.cell? ⟨by_, 3, none⟩ = some (.int .i64 y.d2) ∧ W.cell? ⟨by_, 4, none⟩ = some (.int .i64 y.mx) ∧ W.cell? ⟨by_, 5, none⟩ = some (.int .i64 y.pl) ∧ W.cell? ⟨bz, 0, none⟩ = some (.int .i64 z.n) ∧ W.cell? ⟨bz, 1, none⟩ = some (.int .i64 z.d0) ∧ W.cell? ⟨bz, 2, none⟩ = some (.int .i64 z.d1) ∧ W.cell? ⟨bz, 3, none⟩ = some (.int .i64 z.d2) ∧ W.cell? ⟨bz, 4, none⟩ = some (.int .i64 z.mx) ∧ W.cell? ⟨bz, 5, none⟩ = some (.int .i64 z.pl) ∧ Below W1.heap.size W1 W) (first | (with_reducible exact MK.out _ hW2) | (with_reducible exact MK.out _ (Below.refl _ _)) | go_keep)
    (first
      | (go_at_call 26; ((with_reducible refine (D01.out _).mono ?_); rintro e w2 ⟨rfl, hb2⟩); have hW2 := hW2.trans (hb2.mono hW2.size))
      | (go_at_call 26; ((with_reducible refine (DL.out _).mono ?_); rintro e w2 ⟨rfl, hb2⟩); have hW2 := hW2.trans (hb2.mono hW2.size))
      | (go_at_call 26; ((with_reducible refine (D12.out _).mono ?_); rintro e w2 ⟨rfl, hb2⟩); have hW2 := hW2.trans (hb2.mono hW2.size))
      | (go_at_call 26; ((with_reducible refine (DR.out _).mono ?_); rintro e w2 ⟨rfl, hb2⟩); have hW2 := hW2.trans (hb2.mono hW2.size))
      | (go_at_call 20; refine (both_any _).mono ?_; rintro e w2 ⟨rfl, hb2⟩; have hW2 := hW2.trans (hb2.mono hW2.size)))
  go_wp2
  go_ret
  exact ⟨rfl, b6.trans (hW2.mono b6.size)⟩
end Go.Proofs.Ytajjodooojhhcaa
