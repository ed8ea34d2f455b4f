/- The walk of the law that sums are added in whatever brackets. -/
import Derived.Test.YtajjodooojhhcaaAddEx
namespace Go.Proofs.Ytajjodooojhhcaa
open Go.RowKit
set_option maxHeartbeats 4000000 in
set_option maxRecDepth 100000 in
theorem sumsBrackets_walk (A0 : Option Addr) (n0 c0 : Nat) (l0 : List Int) (A1 : Option Addr) (n1 c1 : Nat) (l1 : List Int) (A2 : Option Addr) (n2 c2 : Nat) (l2 : List Int) (w : World)
    (hA0 : IntsAt .i32 w A0 l0) (hl0 : l0.length = n0) (_ : n0 ≤ maxLen) (_ : Caps A0 n0 c0) (_ : ∀ x ∈ l0, (Lit.int .i32 x).wf = true)
    (hA1 : IntsAt .i32 w A1 l1) (hl1 : l1.length = n1) (_ : n1 ≤ maxLen) (_ : Caps A1 n1 c1) (_ : ∀ x ∈ l1, (Lit.int .i32 x).wf = true)
    (hA2 : IntsAt .i32 w A2 l2) (hl2 : l2.length = n2) (_ : n2 ≤ maxLen) (_ : Caps A2 n2 c2) (_ : ∀ x ∈ l2, (Lit.int .i32 x).wf = true) :
    Calls Try.prog 5 #[.slice A0 n0 c0, .slice A1 n1 c1, .slice A2 n2 c2] w fun e w' => e = .returned (.bool true) ∧ Below w.heap.size w w' := by
  have HA0 := Lib.hid hA0; clear hA0
  have HA1 := Lib.hid hA1; clear hA1
  have HA2 := Lib.hid hA2; clear hA2
  have HL0 := Lib.hid hl0; clear hl0
  have HL1 := Lib.hid hl1; clear hl1
  have HL2 := Lib.hid hl2; clear hl2
  by_cases k0 : 1000 < n0
  · go_enter Try.func5, Try.ntmps5
    go_wp2_with fail
    refine (two_any _).mono ?_
    rintro e w1 ⟨rfl, hb1⟩
    go_wp2_with fail
    go_ret
    exact ⟨rfl, hb1⟩
  by_cases k1 : 1000 < n1
  · go_enter Try.func5, Try.ntmps5
    go_wp2_with fail
    refine (two_any _).mono ?_
    rintro e w1 ⟨rfl, hb1⟩
    go_wp2_with fail
    go_ret
    exact ⟨rfl, hb1⟩
  by_cases k2 : 1000 < n2
  · go_enter Try.func5, Try.ntmps5
    go_wp2_with fail
    refine (two_any _).mono ?_
    rintro e w1 ⟨rfl, hb1⟩
    go_wp2_with fail
    go_ret
    exact ⟨rfl, hb1⟩
  have C0 := Lib.hid fun (W : World) (hW : Below w.heap.size w W) => of_ex A0 n0 c0 l0 W _ (HA0.out.below hW) HL0.out (by omega) rfl
  have C1 := Lib.hid fun (W : World) (hW : Below w.heap.size w W) => of_ex A1 n1 c1 l1 W _ (HA1.out.below hW) HL1.out (by omega) rfl
  have C2 := Lib.hid fun (W : World) (hW : Below w.heap.size w W) => of_ex A2 n2 c2 l2 W _ (HA2.out.below hW) HL2.out (by omega) rfl
  have o0 := qof_ok l0
  have o1 := qof_ok l1
  have o2 := qof_ok l2
  have o01 := qof_ok (l0 ++ l1)
  have o12 := qof_ok (l1 ++ l2)
  rw [List.length_append] at o01 o12
  have l0' := HL0.out
  have l1' := HL1.out
  have l2' := HL2.out
  have D01 := Lib.hid fun W => add_ex (qof l0) (qof l1) (qof (l0 ++ l1)) _ _ o0 o1 (by omega) (by omega) (qof_append l0 l1).symm W
  have D12 := Lib.hid fun W => add_ex (qof l1) (qof l2) (qof (l1 ++ l2)) _ _ o1 o2 (by omega) (by omega) (qof_append l1 l2).symm W
  have DL := Lib.hid fun W => add_ex (qof (l0 ++ l1)) (qof l2) (qof (l0 ++ l1 ++ l2)) _ _ o01 o2 (by omega) (by omega) (qof_append (l0 ++ l1) l2).symm W
  have DR := Lib.hid fun W => add_ex (qof l0) (qof (l1 ++ l2)) (qof (l0 ++ l1 ++ l2)) _ _ o0 o12 (by omega) (by omega) (by rw [List.append_assoc]; exact (qof_append l0 (l1 ++ l2)).symm) W
  clear o0 o1 o2 o01 o12 l0' l1' l2'
  generalize qof (l0 ++ l1 ++ l2) = t at *
  generalize qof (l0 ++ l1) = u at *
  generalize qof (l1 ++ l2) = v at *
  generalize qof l0 = x at *
  generalize qof l1 = y at *
  generalize qof l2 = z at *
  go_enter Try.func5, Try.ntmps5
  go_wp2_with fail
  refine (C0.out _ (Below.refl _ _)).mono ?_
  rintro e w1 ⟨rfl, hb1⟩
  have hb1' := hb1.alloc hb1.size (.cells (qcs x) 25)
  go_wp2_with fail
  refine (C1.out _ hb1').mono ?_
  rintro e w2 ⟨rfl, hb2⟩
  have hb2' := (hb1'.trans (hb2.mono hb1'.size)).alloc (hb1'.trans (hb2.mono hb1'.size)).size (.cells (qcs y) 25)
  go_wp2_with fail
  refine (C2.out _ hb2').mono ?_
  rintro e w3 ⟨rfl, hb3⟩
  have hb3' := (hb2'.trans (hb3.mono hb2'.size)).alloc (hb2'.trans (hb3.mono hb2'.size)).size (.cells (qcs z) 25)
  have rx : RawAt 25 (w3.alloc (.cells (qcs z) 25)) w1.heap.size (qcs x) := RawAt.below (RawAt.below (RawAt.below (RawAt.below (heap_alloc_new w1 _) hb2 (by simp)) ((Below.refl _ _).alloc (Nat.le_refl _) (.cells (qcs y) 25)) (by have := hb2.size; simp at this; omega)) hb3 (by have := hb2.size; simp at this ⊢; omega)) ((Below.refl _ _).alloc (Nat.le_refl _) (.cells (qcs z) 25)) (by have := hb2.size; have := hb3.size; simp at *; omega)
  have ry : RawAt 25 (w3.alloc (.cells (qcs z) 25)) w2.heap.size (qcs y) := RawAt.below (RawAt.below (heap_alloc_new w2 _) hb3 (by simp)) ((Below.refl _ _).alloc (Nat.le_refl _) (.cells (qcs z) 25)) (by have := hb3.size; simp at this; omega)
  have rz : RawAt 25 (w3.alloc (.cells (qcs z) 25)) w3.heap.size (qcs z) := heap_alloc_new w3 _
  have HX := Lib.hid rx; clear rx
  have HY := Lib.hid ry; clear ry
  have HZ := Lib.hid rz; clear rz
  go_wp2_with fail
  change Code.wp _ _ _ _ (w3.alloc (.cells (qcs z) 25))
  generalize (w3.alloc (.cells (qcs z) 25)) = W1 at *
  generalize w1.heap.size = bx at *
  generalize w2.heap.size = by_ at *
  generalize w3.heap.size = bz at *
  clear C0 C1 C2 hb1 hb1' hb2 hb2' hb3
  have MK := Lib.hid fun (W : World) (hW : Below W1.heap.size W1 W) => (by
      obtain ⟨bx0, bx1, bx2, bx3, bx4, bx5, bx6⟩ := held_sum HX.out W hW
      obtain ⟨by_0, by_1, by_2, by_3, by_4, by_5, by_6⟩ := held_sum HY.out W hW
      obtain ⟨bz0, bz1, bz2, bz3, bz4, bz5, bz6⟩ := held_sum HZ.out W hW
      exact ⟨bx0, bx1, bx2, bx3, bx4, bx5, bx6, by_0, by_1, by_2, by_3, by_4, by_5, by_6, bz0, bz1, bz2, bz3, bz4, bz5, bz6, hW⟩ : W.cell? ⟨bx, 0, none⟩ = some (.int .i64 x.by_) ∧ W.cell? ⟨bx, 1, none⟩ = some (.int .i64 x.ru) ∧ W.cell? ⟨bx, 2, none⟩ = some (.int .i64 x.br) ∧ W.cell? ⟨bx, 3, none⟩ = some (.int .i64 x.fi) ∧ W.cell? ⟨bx, 4, none⟩ = some (.int .i64 x.la) ∧ W.cell? ⟨bx, 5, none⟩ = some (.int .i64 x.lo) ∧ W.cell? ⟨bx, 6, none⟩ = some (.int .i64 x.rw) ∧ W.cell? ⟨by_, 0, none⟩ = some (.int .i64 y.by_) ∧ W.cell? ⟨by_, 1, none⟩ = some (.int .i64 y.ru) ∧ W.cell? ⟨by_, 2, none⟩ = some (.int .i64 y.br) ∧ W.cell? ⟨by_, 3, none⟩ = some (.int .i64 y.fi) ∧ W.cell? ⟨by_, 4, none⟩ = some (.int .i64 y.la) ∧ W.cell? ⟨by_, 5, none⟩ = some (.int .i64 y.lo) ∧ W.cell? ⟨by_, 6, none⟩ = some (.int .i64 y.rw) ∧ W.cell? ⟨bz, 0, none⟩ = some (.int .i64 z.by_) ∧ W.cell? ⟨bz, 1, none⟩ = some (.int .i64 z.ru) ∧ W.cell? ⟨bz, 2, none⟩ = some (.int .i64 z.br) ∧ W.cell? ⟨bz, 3, none⟩ = some (.int .i64 z.fi) ∧ W.cell? ⟨bz, 4, none⟩ = some (.int .i64 z.la) ∧ W.cell? ⟨bz, 5, none⟩ = some (.int .i64 z.lo) ∧ W.cell? ⟨bz, 6, none⟩ = some (.int .i64 z.rw) ∧ Below W1.heap.size W1 W)
  have hW2 : Below W1.heap.size W1 W1.drew := (Below.refl _ _).drew
  go_wp2_with fail
  go_region_held3 (fun W => W.cell? ⟨bx, 0, none⟩ = some (.int .i64 x.by_) ∧ W.cell? ⟨bx, 1, none⟩ = some (.int .i64 x.ru) ∧ W.cell? ⟨bx, 2, none⟩ = some (.int .i64 x.br) ∧ W.cell? ⟨bx, 3, none⟩ = some (.int .i64 x.fi) ∧ W.cell? ⟨bx, 4, none⟩ = some (.int .i64 x.la) ∧ W.cell? ⟨bx, 5, none⟩ = some (.int .i64 x.lo) ∧ W.cell? ⟨bx, 6, none⟩ = some (.int .i64 x.rw) ∧ W.cell? ⟨by_, 0, none⟩ = some (.int .i64 y.by_) ∧ W.cell? ⟨by_, 1, none⟩ = some (.int .i64 y.ru) ∧ W.cell? ⟨by_, 2, none⟩ = some (.int .i64 y.br) ∧ W.cell? ⟨by_, 3, none⟩ = some (.int .i64 y.fi) ∧ W.cell? ⟨by_, 4, none⟩ = some (.int .i64 y.la) ∧ W.cell? ⟨by_, 5, none⟩ = some (.int .i64 y.lo) ∧ W.cell? ⟨by_, 6, none⟩ = some (.int .i64 y.rw) ∧ W.cell? ⟨bz, 0, none⟩ = some (.int .i64 z.by_) ∧ W.cell? ⟨bz, 1, none⟩ = some (.int .i64 z.ru) ∧ W.cell? ⟨bz, 2, none⟩ = some (.int .i64 z.br) ∧ W.cell? ⟨bz, 3, none⟩ = some (.int .i64 z.fi) ∧ W.cell? ⟨bz, 4, none⟩ = some (.int .i64 z.la) ∧ W.cell? ⟨bz, 5, none⟩ = some (.int .i64 z.lo) ∧ W.cell? ⟨bz, 6, none⟩ = some (.int .i64 z.rw) ∧ Below W1.heap.size W1 W) (first | (with_reducible exact MK.out _ hW2) | (with_reducible exact MK.out _ (Below.refl _ _)) | go_keep)
    (first
      | (go_at_call 16; ((with_reducible refine (D01.out _).mono ?_); rintro e w2 ⟨rfl, hb2⟩); have hW2 := hW2.trans (hb2.mono hW2.size))
      | (go_at_call 16; ((with_reducible refine (DL.out _).mono ?_); rintro e w2 ⟨rfl, hb2⟩); have hW2 := hW2.trans (hb2.mono hW2.size))
      | (go_at_call 16; ((with_reducible refine (D12.out _).mono ?_); rintro e w2 ⟨rfl, hb2⟩); have hW2 := hW2.trans (hb2.mono hW2.size))
      | (go_at_call 16; ((with_reducible refine (DR.out _).mono ?_); rintro e w2 ⟨rfl, hb2⟩); have hW2 := hW2.trans (hb2.mono hW2.size))
      | (go_at_call 11; refine (two_any _).mono ?_; rintro e w2 ⟨rfl, hb2⟩; have hW2 := hW2.trans (hb2.mono hW2.size)))
  go_wp2
  go_ret
  exact ⟨rfl, hb3'.trans (hW2.mono hb3'.size)⟩
end Go.Proofs.Ytajjodooojhhcaa
