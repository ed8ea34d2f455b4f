/- The walk of the law on two trees joined, over any tree's contracts. -/
import Derived.Test.YtklghlaagoaadaaLawTSlices
namespace Go.Proofs.Ytklghlaagoaadaa
open Go.RowKit
section
variable {T : World → Addr → List I7 → Nat → Prop}
set_option maxHeartbeats 4000000 in
set_option maxRecDepth 100000 in
theorem treeJoins_any (K : TreeC T) (A0 : Option Addr) (n0 c0 : Nat) (l0 : List I7) (A1 : Option Addr) (n1 c1 : Nat) (l1 : List I7) (w : World) (hA0 : ItsAt w A0 l0) (hl0 : l0.length = n0) (hn0 : n0 ≤ maxLen) (hC0 : Caps A0 n0 c0)
    (hA1 : ItsAt w A1 l1) (hl1 : l1.length = n1) (hn1 : n1 ≤ maxLen) (hC1 : Caps A1 n1 c1) :
    Calls Try.prog 5 #[.slice A0 n0 c0, .slice A1 n1 c1] w fun e w' => e = .returned (.bool true) ∧ Below w.heap.size w w' := by
  have HA0 := Lib.hid hA0; clear hA0
  have HL0 := Lib.hid hl0; clear hl0
  have HC0 := Lib.hid hC0; clear hC0
  have HA1 := Lib.hid hA1; clear hA1
  have HL1 := Lib.hid hl1; clear hl1
  have HC1 := Lib.hid hC1; clear hC1
  have T3 := Lib.hid fun (W : World) => three_yes K W
  by_cases k0 : n0 ≤ 600 ∧ Okl l0
  rotate_left
  · have R := Lib.hid (right5_no A0 n0 c0 l0 w HA0.out HL0.out hn0 k0)
    clear k0
    go_enter Try.func5, Try.ntmps5
    go_wp2_with fail
    refine R.out.mono ?_
    rintro e w1 ⟨rfl, hb1⟩
    go_wp2_with fail
    refine (T3.out _).mono ?_
    rintro e w2 ⟨rfl, hb2⟩
    go_wp2_with fail
    go_ret
    exact ⟨rfl, hb1.trans (hb2.mono hb1.size)⟩
  have R0 := Lib.hid (right5_yes A0 n0 c0 l0 w HA0.out HL0.out hn0 k0)
  by_cases k1 : n1 ≤ 600 ∧ Okl l1
  rotate_left
  · have R := Lib.hid fun (W : World) (hW : Below w.heap.size w W) => (right5_no A1 n1 c1 l1 W (HA1.out.below hW) HL1.out hn1 k1)
    clear k0 k1
    go_enter Try.func5, Try.ntmps5
    go_wp2_with fail
    refine R0.out.mono ?_
    rintro e w1 ⟨rfl, hb1⟩
    go_wp2_with fail
    refine (R.out _ hb1).mono ?_
    rintro e w2 ⟨rfl, hb2⟩
    have a2 := hb1.trans (hb2.mono hb1.size)
    go_wp2_with fail
    refine (T3.out _).mono ?_
    rintro e w3 ⟨rfl, hb3⟩
    go_wp2_with fail
    go_ret
    exact ⟨rfl, a2.trans (hb3.mono a2.size)⟩
  have R1 := Lib.hid fun (W : World) (hW : Below w.heap.size w W) => (right5_yes A1 n1 c1 l1 W (HA1.out.below hW) HL1.out hn1 k1)
  obtain ⟨p0, o0⟩ := k0
  obtain ⟨p1, o1⟩ := k1
  have N0 := Lib.hid fun (W : World) (hW : Below w.heap.size w W) => K.new A0 n0 c0 l0 W (HA0.out.below hW) HL0.out HC0.out (by omega) o0
  have N1 := Lib.hid fun (W : World) (hW : Below w.heap.size w W) => K.new A1 n1 c1 l1 W (HA1.out.below hW) HL1.out HC1.out (by omega) o1
  clear o0 o1
  go_enter Try.func5, Try.ntmps5
  go_wp2_with fail
  refine R0.out.mono ?_
  rintro e w1 ⟨rfl, hb1⟩
  go_wp2_with fail
  refine (R1.out _ hb1).mono ?_
  rintro e w2 ⟨rfl, hb2⟩
  have a2 := hb1.trans (hb2.mono hb1.size)
  go_wp2_with fail
  refine (N0.out _ a2).mono ?_
  rintro e w3 ⟨a, h, rfl, hT, hb3⟩
  have a3 := a2.trans (hb3.mono a2.size)
  have HT := Lib.hid hT; clear hT
  go_wp2_with fail
  refine (N1.out _ a3).mono ?_
  rintro e w4 ⟨b, k, rfl, hU, hb4⟩
  have a4 := a3.trans (hb4.mono a3.size)
  have HU := Lib.hid hU; clear hU
  have HT4 := Lib.hid (K.below HT.out hb4)
  go_wp2_with fail
  refine (K.join _ a b l0 l1 h k HT4.out HU.out (by rw [HL0.out, HL1.out]; omega)).mono ?_
  rintro e w5 ⟨u, j, rfl, hV, hb5⟩
  have a5 := a4.trans (hb5.mono a4.size)
  have HV := Lib.hid hV; clear hV
  have HT5 := Lib.hid (K.below HT4.out hb5)
  have HU5 := Lib.hid (K.below HU.out hb5)
  go_wp2_with (first
    | (at_builtin; refine wpList_append_items rfl (.tmp 51) (.tmp 52) rfl w5.heap.size (.slice none 0 0) 0 [] rfl (World.ownsRow_nil _ _ _ _) A0 n0 c0 l0 rfl (HA0.out.below a5) HC0.out HL0.out (by omega) (Nat.le_refl _) ?_; intro v6 w6 hown6 hg6; have b6 : Below w5.heap.size w5 w6 := (Below.refl _ _).grown hg6 (Nat.le_refl _) (fun k hk => by simp [Value.ownBlock] at hk); rw [Nat.zero_add, List.nil_append] at hown6; have a6 := a5.trans (b6.mono a5.size))
    | (at_builtin; refine wpList_append_items rfl (.tmp 54) (.tmp 55) rfl w5.heap.size v6 n0 (iflat l0) rfl hown6 A1 n1 c1 l1 rfl (HA1.out.below a6) HC1.out HL1.out (by omega) b6.size ?_; intro v7 w7 hown7 hg7))
  have b7 : Below w5.heap.size w5 w7 := b6.grown hg7 b6.size (fun k hk => (hown6.lt k hk).1)
  have a7 := a5.trans (b7.mono a5.size)
  rw [← iflat_append] at hown7
  obtain ⟨A7, c7, rfl, hI7, hl7, _⟩ := its_of_own hown7
  have HI7 := Lib.hid hI7; clear hI7
  have HL7 := Lib.hid hl7; clear hl7 hown6 hown7 hg6 hg7
  refine (refs5_any A7 (n0 + n1) c7 (l0 ++ l1) _ HI7.out HL7.out (by omega)).mono ?_
  rintro e w8 ⟨A8, c8, rfl, hb8, hI8, _⟩
  have a8 := a7.trans (hb8.mono a7.size)
  have b8 := b7.trans (hb8.mono b7.size)
  have HI8 := Lib.hid hI8; clear hI8
  go_wp2_with fail
  refine (is_yes K u (l0 ++ l1) j A8 (n0 + n1) c8 _ (K.below HV.out b8) HI8.out HL7.out).mono ?_
  rintro e w9 ⟨rfl, hb9⟩
  have a9 := a8.trans (hb9.mono a8.size)
  have b9 := b8.trans (hb9.mono b8.size)
  go_wp2_with fail
  refine (refs5_any A0 n0 c0 l0 _ (HA0.out.below a9) HL0.out (by omega)).mono ?_
  rintro e w10 ⟨A10, c10, rfl, hb10, hI10, _⟩
  have a10 := a9.trans (hb10.mono a9.size)
  have b10 := b9.trans (hb10.mono b9.size)
  have HI10 := Lib.hid hI10; clear hI10
  go_wp2_with fail
  refine (is_yes K a l0 h A10 n0 c10 _ (K.below HT5.out b10) HI10.out HL0.out).mono ?_
  rintro e w11 ⟨rfl, hb11⟩
  have a11 := a10.trans (hb11.mono a10.size)
  have b11 := b10.trans (hb11.mono b10.size)
  go_wp2_with fail
  refine (refs5_any A1 n1 c1 l1 _ (HA1.out.below a11) HL1.out (by omega)).mono ?_
  rintro e w12 ⟨A12, c12, rfl, hb12, hI12, _⟩
  have a12 := a11.trans (hb12.mono a11.size)
  have b12 := b11.trans (hb12.mono b11.size)
  have HI12 := Lib.hid hI12; clear hI12
  go_wp2_with fail
  refine (is_yes K b l1 k A12 n1 c12 _ (K.below HU5.out b12) HI12.out HL1.out).mono ?_
  rintro e w13 ⟨rfl, hb13⟩
  have a13 := a12.trans (hb13.mono a12.size)
  go_wp2_with fail
  refine (T3.out _).mono ?_
  rintro e w14 ⟨rfl, hb14⟩
  go_wp2_with fail
  go_ret
  exact ⟨rfl, a13.trans (hb14.mono a13.size)⟩
end
end Go.Proofs.Ytklghlaagoaadaa
