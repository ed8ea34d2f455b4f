/- The walk of the law that the sum of items and others is that of the ones and, behind them, the others. -/
import Derived.Test.YtajjodooojhhcaaItEx
namespace Go.Proofs.Ytajjodooojhhcaa
open Go.RowKit
set_option linter.unusedVariables false in
set_option maxHeartbeats 4000000 in
set_option maxRecDepth 100000 in
theorem itemAdds_walk (A0 : Option Addr) (n0 c0 : Nat) (l0 : List I7) (A1 : Option Addr) (n1 c1 : Nat) (l1 : List I7) (w : World)
    (hA0 : ItsAt w A0 l0) (hl0 : l0.length = n0) (hn0 : n0 ≤ maxLen) (hC0 : Caps A0 n0 c0) (hA1 : ItsAt w A1 l1) (hl1 : l1.length = n1) (hn1 : n1 ≤ maxLen) (hC1 : Caps A1 n1 c1) :
    Calls Try.prog 9 #[.slice A0 n0 c0, .slice A1 n1 c1] w fun e w' => e = .returned (.bool true) ∧ Below w.heap.size w w' := by
  have HEQ := eq3
  have HA0 := Lib.hid hA0; clear hA0
  have HL0 := Lib.hid hl0; clear hl0
  have HN0 := Lib.hid hn0; clear hn0
  have HA1 := Lib.hid hA1; clear hA1
  have HL1 := Lib.hid hl1; clear hl1
  have HN1 := Lib.hid hn1; clear hn1
  have HC0 := Lib.hid hC0; clear hC0
  have HC1 := Lib.hid hC1; clear hC1
  by_cases k0 : n0 ≤ 1000 ∧ Okl l0
  rotate_left
  · have R0 := Lib.hid fun (W : World) (hW : Below w.heap.size w W) => rightl_no A0 n0 c0 l0 W (HA0.out.below hW) HL0.out HN0.out k0
    clear k0
    go_enter Try.func9, Try.ntmps9
    go_wp2_with fail
    refine (R0.out _ (Below.refl _ _)).mono ?_
    rintro e w1 ⟨rfl, hb1⟩
    have a1 := hb1
    go_wp2_with fail
    refine (both_any _).mono ?_
    rintro e w9 ⟨rfl, hb9⟩
    go_wp2_with fail
    go_ret
    exact ⟨rfl, a1.trans (hb9.mono a1.size)⟩
  by_cases k1 : n1 ≤ 1000 ∧ Okl l1
  rotate_left
  · have R0 := Lib.hid fun (W : World) (hW : Below w.heap.size w W) => rightl_yes A0 n0 c0 l0 W (HA0.out.below hW) HL0.out HN0.out k0
    have R1 := Lib.hid fun (W : World) (hW : Below w.heap.size w W) => rightl_no A1 n1 c1 l1 W (HA1.out.below hW) HL1.out HN1.out k1
    clear k0
    clear k1
    go_enter Try.func9, Try.ntmps9
    go_wp2_with fail
    refine (R0.out _ (Below.refl _ _)).mono ?_
    rintro e w1 ⟨rfl, hb1⟩
    have a1 := hb1
    go_wp2_with fail
    refine (R1.out _ a1).mono ?_
    rintro e w2 ⟨rfl, hb2⟩
    have a2 := a1.trans (hb2.mono a1.size)
    go_wp2_with fail
    refine (both_any _).mono ?_
    rintro e w9 ⟨rfl, hb9⟩
    go_wp2_with fail
    go_ret
    exact ⟨rfl, a2.trans (hb9.mono a2.size)⟩
  have R0 := Lib.hid fun (W : World) (hW : Below w.heap.size w W) => rightl_yes A0 n0 c0 l0 W (HA0.out.below hW) HL0.out HN0.out k0
  have R1 := Lib.hid fun (W : World) (hW : Below w.heap.size w W) => rightl_yes A1 n1 c1 l1 W (HA1.out.below hW) HL1.out HN1.out k1
  obtain ⟨m0, o0⟩ := k0
  obtain ⟨m1, o1⟩ := k1
  have C0 := Lib.hid fun (W : World) (hW : Below w.heap.size w W) => iall_ex A0 n0 c0 l0 W _ (HA0.out.below hW) HL0.out (by omega) o0 rfl
  have C1 := Lib.hid fun (W : World) (hW : Below w.heap.size w W) => iall_ex A1 n1 c1 l1 W _ (HA1.out.below hW) HL1.out (by omega) o1 rfl
  have s0_ := sall_ok _ l0 rfl o0
  have s1_ := sall_ok _ l1 rfl o1
  have q0 := HL0.out
  have q1 := HL1.out
  have D01 := Lib.hid fun W => iadd_ex (sall l0) (sall l1) (sall (l0 ++ l1)) _ _ s0_ s1_ (by omega) (by omega) (sall_append _ l0 l1 rfl o0 o1).symm W
  have DZ := Lib.hid fun W => iadd_zz (sall l0) _ s0_ (by omega) W
  have ZD := Lib.hid fun W => zz_iadd (sall l0) _ s0_ (by omega) W
  have O01 := Lib.hid (o0.append_ o1)
  clear s0_ s1_ q0 q1 o0 o1
  go_enter Try.func9, Try.ntmps9
  go_wp2_with fail
  refine (R0.out _ (Below.refl _ _)).mono ?_
  rintro e w1 ⟨rfl, hb1⟩
  have a1 := hb1
  go_wp2_with fail
  refine (R1.out _ a1).mono ?_
  rintro e w2 ⟨rfl, hb2⟩
  have a2 := a1.trans (hb2.mono a1.size)
  go_wp2_with (first
    | (at_builtin; refine wpList_append_items rfl (.tmp 16) (.tmp 17) rfl w.heap.size (.slice none 0 0) 0 [] rfl (World.ownsRow_nil _ _ _ _) A0 n0 c0 l0 rfl (HA0.out.below a2) HC0.out HL0.out (by omega) a2.size ?_; intro v3 w3 hown3 hg3; have a3 : Below w.heap.size w w3 := a2.grown hg3 a2.size (fun k hk => by simp [Value.ownBlock] at hk); rw [Nat.zero_add, List.nil_append] at hown3)
    | (at_builtin; refine wpList_append_items rfl (.tmp 19) (.tmp 20) rfl w.heap.size v3 n0 (iflat l0) rfl hown3 A1 n1 c1 l1 rfl (HA1.out.below a3) HC1.out HL1.out (by omega) a3.size ?_; intro v5 w5 hown5 hg5))
  have a5 : Below w.heap.size w w5 := a3.grown hg5 a3.size (fun k hk => (hown3.lt k hk).1)
  rw [← iflat_append] at hown5
  obtain ⟨A7, c7, rfl, hI7, hl7, _⟩ := its_of_own hown5
  have HA7 := Lib.hid hI7; clear hI7
  have HL7 := Lib.hid hl7; clear hl7 hown5 hown3 hg3 hg5
  have C7 := Lib.hid fun (W : World) (hW : Below w5.heap.size w5 W) => iall_ex A7 (n0 + n1) c7 (l0 ++ l1) W _ (HA7.out.below hW) HL7.out (by omega) O01.out rfl
  generalize sall (l0 ++ l1) = t at *
  generalize sall l0 = x at *
  generalize sall l1 = y at *
  go_wp2_with fail
  refine (C0.out _ a5).mono ?_
  rintro e w6 ⟨rfl, hb6⟩
  have a6 := a5.trans (hb6.mono a5.size)
  have hb6' : Below w5.heap.size w5 (w6.alloc (.cells (scs x) 53)) := hb6.alloc hb6.size _
  have hb1' : Below w.heap.size w (w6.alloc (.cells (scs x) 53)) := a6.alloc a6.size _
  have HX := Lib.hid (show RawAt 53 (w6.alloc (.cells (scs x) 53)) w6.heap.size (scs x) from heap_alloc_new w6 _)
  go_wp2_with fail
  change Code.wp _ _ _ _ (w6.alloc (.cells (scs x) 53))
  generalize (w6.alloc (.cells (scs x) 53)) = W1 at *
  generalize w6.heap.size = bx at *
  clear C0 hb6 a6 a5 a3 a2 a1 hb1 hb2 R0 R1
  have MK := Lib.hid fun (W : World) (hW : Below W1.heap.size W1 W) => (by
      obtain ⟨bx0, bx1, bx2, bx3, bx4, bx5⟩ := raw_scs (RawAt.below HX.out hW (RawAt.lt HX.out))
      exact ⟨bx0, bx1, bx2, bx3, bx4, bx5, hW⟩ : W.cell? ⟨bx, 0, none⟩ = some (.int .i64 x.n) ∧ W.cell? ⟨bx, 1, none⟩ = some (.int .i64 x.d0) ∧ W.cell? ⟨bx, 2, none⟩ = some (.int .i64 x.d1) ∧ W.cell? ⟨bx, 3, none⟩ = some (.int .i64 x.d2) ∧ W.cell? ⟨bx, 4, none⟩ = some (.int .i64 x.mx) ∧ W.cell? ⟨bx, 5, none⟩ = some (.int .i64 x.pl) ∧ Below W1.heap.size W1 W)
  have hW2 : Below W1.heap.size W1 W1.drew := (Below.refl _ _).drew
  go_wp2_with fail
  go_region_held3 (fun W => W.cell? ⟨bx, 0, none⟩ = some (.int .i64 x.n) ∧ W.cell? ⟨bx, 1, none⟩ = some (.int .i64 x.d0) ∧ W.cell? ⟨bx, 2, none⟩ = some (.int .i64 x.d1) ∧ W.cell? ⟨bx, 3, none⟩ = some (.int .i64 x.d2) ∧ W.cell? ⟨bx, 4, none⟩ = some (.int .i64 x.mx) ∧ W.cell? ⟨bx, 5, none⟩ = some (.int .i64 x.pl) ∧ Below W1.heap.size W1 W) (first | (with_reducible exact MK.out _ hW2) | (with_reducible exact MK.out _ (Below.refl _ _)) | go_keep)
    (first
      | (go_at_call 25; ((with_reducible refine (C1.out _ (hb1'.trans (hW2.mono hb1'.size))).mono ?_); rintro e w2 ⟨rfl, hb2⟩); have hW2 := hW2.trans (hb2.mono hW2.size))
      | (go_at_call 25; ((with_reducible refine (C7.out _ (hb6'.trans (hW2.mono hb6'.size))).mono ?_); rintro e w2 ⟨rfl, hb2⟩); have hW2 := hW2.trans (hb2.mono hW2.size))
      | (go_at_call 26; ((with_reducible refine (D01.out _).mono ?_); rintro e w2 ⟨rfl, hb2⟩); have hW2 := hW2.trans (hb2.mono hW2.size))
      | (go_at_call 26; ((with_reducible refine (DZ.out _).mono ?_); rintro e w2 ⟨rfl, hb2⟩); have hW2 := hW2.trans (hb2.mono hW2.size))
      | (go_at_call 26; ((with_reducible refine (ZD.out _).mono ?_); rintro e w2 ⟨rfl, hb2⟩); have hW2 := hW2.trans (hb2.mono hW2.size))
      | (go_at_call 20; refine (both_any _).mono ?_; rintro e w2 ⟨rfl, hb2⟩; have hW2 := hW2.trans (hb2.mono hW2.size)))
  go_wp2
  go_ret
  exact ⟨rfl, hb1'.trans (hW2.mono hb1'.size)⟩
end Go.Proofs.Ytajjodooojhhcaa
