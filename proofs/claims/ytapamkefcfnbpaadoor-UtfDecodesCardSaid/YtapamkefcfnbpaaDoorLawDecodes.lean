/- The walk of the law on a text's runes, how many, and whether it is good. -/
import Derived.Test.YtapamkefcfnbpaaDoorRefDec
namespace Go.Proofs.YtapamkefcfnbpaaDoor
open Go.RowKit
set_option maxHeartbeats 1000000 in
theorem utfDecodes_walk (s : ByteArray) (w : World) (h : UTabs w) (hs : s.size ≤ maxLen) :
    Calls Tryd.prog 3 #[.string s] w fun e w' => e = .returned (.bool true) ∧ Below w.heap.size w w' := by
  unfold maxLen at hs
  have H := Lib.hid h; clear h
  have out : ∀ W : World, Below w.heap.size w W → Calls Tryd.prog 14 #[] W fun e w' => e = .returned (.bool true) ∧ Below w.heap.size w w' :=
    fun W hW => (acute_any W (H.out.below hW)).mono fun e w' ⟨he, hb⟩ => ⟨he, hW.trans (hb.mono hW.size)⟩
  have HO := Lib.hid out; clear out
  by_cases g1 : 4000 < s.size
  · go_enter Tryd.func3, Tryd.ntmps3
    go_wp2_with fail
    refine (HO.out _ (Below.refl _ _)).mono ?_
    rintro e w1 ⟨rfl, hb1⟩
    go_wp2_with fail
    go_ret
    exact ⟨rfl, hb1⟩
  · have hl := dec_len s
    have C1 := Lib.hid fun (W : World) => rdecode_any s W (by omega)
    have C2 := Lib.hid fun (W : World) => decode_any s W (by omega)
    have C3 := Lib.hid fun (W : World) => count_any s W (by omega)
    have C4 := Lib.hid fun (W : World) (hW : Below w.heap.size w W) => good_any s W (by omega) (H.out.below hW)
    have C5 := Lib.hid fun (W : World) => rgood_any s W (by omega)
    generalize Lib.validD s.data.toList = v at *
    obtain ⟨D, hD⟩ : ∃ D, D = dec s := ⟨_, rfl⟩
    simp only [← hD] at C1 C2 C3 hl
    clear hD
    obtain ⟨N, hN⟩ : ∃ N, N = D.length := ⟨_, rfl⟩
    simp only [← hN] at C1 C2 C3 hl
    have HN := Lib.hid hN; clear hN
    go_enter Tryd.func3, Tryd.ntmps3
    go_wp2_with fail
    refine (C1.out _).mono ?_
    rintro e w1 ⟨A1, c1, rfl, hb1, hI1, hC1⟩
    go_wp2_with fail
    refine (C2.out _).mono ?_
    rintro e w2 ⟨A2, c2, rfl, hb2, hI2, hC2⟩
    have a2 := hb1.trans (hb2.mono hb1.size)
    go_wp2_with fail
    refine (runes_same A2 A1 _ c2 c1 D _ hI2 (hI1.below hb2) HN.out.symm (by omega)).mono ?_
    rintro e w3 ⟨rfl, hb3⟩
    have a3 := a2.trans (hb3.mono a2.size)
    go_wp2_with fail
    refine (C3.out _).mono ?_
    rintro e w4 ⟨rfl, hb4⟩
    have a4 := a3.trans (hb4.mono a3.size)
    go_wp2_with fail
    refine (C4.out _ a4).mono ?_
    rintro e w5 ⟨rfl, hb5⟩
    have a5 := a4.trans (hb5.mono a4.size)
    go_wp2_with fail
    refine (C5.out _).mono ?_
    rintro e w6 ⟨rfl, hb6⟩
    have a6 := a5.trans (hb6.mono a5.size)
    go_wp2_with fail
    refine (HO.out _ a6).mono ?_
    rintro e w7 ⟨rfl, hb7⟩
    go_wp2_with fail
    go_ret
    exact ⟨rfl, hb7⟩
end Go.Proofs.YtapamkefcfnbpaaDoor
