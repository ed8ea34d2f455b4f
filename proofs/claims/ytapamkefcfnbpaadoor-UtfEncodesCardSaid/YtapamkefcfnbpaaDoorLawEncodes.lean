/- The walk of the law on the text of any runes. -/
import Derived.Test.YtapamkefcfnbpaaDoorRefEnc
namespace Go.Proofs.YtapamkefcfnbpaaDoor
open Go.RowKit
theorem uSize_bd (r : Int) : 1 ≤ uSize r ∧ uSize r ≤ 4 := by
  have := Lib.encodeRuneZ_length r
  unfold uSize
  omega
theorem enc_sum (l : List Int) : ((encAll l).length : Int) = (l.map uSize).sum := by
  induction l with
  | nil => rfl
  | cons r l ih =>
    have e : (Lib.encodeRune r).length = (Lib.encodeRuneZ r).length := by simp [Lib.encodeRune]
    simp only [encAll, List.flatMap_cons, List.length_append, List.map_cons, List.sum_cons] at ih ⊢
    rw [← ih]
    unfold uSize
    omega
theorem usum_bd (l : List Int) : ∀ k, k ≤ l.length → 0 ≤ sumTo uSize l k ∧ sumTo uSize l k ≤ 4 * k
  | 0, _ => by simp [sumTo_zero]
  | k + 1, h => by
    have := usum_bd l k (by omega)
    have := uSize_bd (nth l k)
    rw [sumTo_succ _ l (by omega)]
    omega
set_option maxHeartbeats 2000000 in
set_option maxRecDepth 100000 in
theorem utfEncodes_walk (A : Option Addr) (n c : Nat) (l : List Int) (w : World) (h : UTabs w) (hA : IntsAt .i32 w A l) (hl : l.length = n) (hn : n ≤ maxLen) (_ : Caps A n c) (hf : Fit l) :
    Calls Tryd.prog 5 #[.slice A n c] w fun e w' => e = .returned (.bool true) ∧ Below w.heap.size w w' := by
  unfold maxLen at hn
  have H := Lib.hid h; clear h
  have HL := Lib.hid hl; clear hl
  have HA := Lib.hid hA; clear hA
  have HF := Lib.hid hf; clear hf
  have out : ∀ W : World, Below w.heap.size w W → Calls Tryd.prog 14 #[] W fun e w' => e = .returned (.bool true) ∧ Below w.heap.size w w' :=
    fun W hW => (acute_any W (H.out.below hW)).mono fun e w' ⟨he, hb⟩ => ⟨he, hW.trans (hb.mono hW.size)⟩
  have HO := Lib.hid out; clear out
  by_cases g1 : 1000 < n
  · go_enter Tryd.func5, Tryd.ntmps5
    go_wp2_with fail
    refine (HO.out _ (Below.refl _ _)).mono ?_
    rintro e w1 ⟨rfl, hb1⟩
    go_wp2_with fail
    go_ret
    exact ⟨rfl, hb1⟩
  · go_enter Tryd.func5, Tryd.ntmps5
    go_wp2
    go_loopg [3, 5, 13] n (fun k v x i wr => ∃ j : Nat, i = .int .i64 j ∧ v = .int .i64 (sumTo uSize l j) ∧ j ≤ n ∧ n - j ≤ k ∧ Below w.heap.size w wr)
    case atStart => exact ⟨0, rfl, by rw [sumTo_zero], by omega, by omega, Below.refl _ _⟩
    case round =>
      obtain ⟨j, rfl, rfl, i1, i2, hb⟩ := hrel
      by_cases hlt : j < n
      · have hm : j < l.length := by rw [HL.out]; omega
        obtain ⟨b, off, rfl, hbs, hc⟩ := HA.out (by omega)
        have q1 := hc j hm
        clear hc
        obtain ⟨H1, H2⟩ := old_cells hb
        have hsb := usum_bd l j (by omega)
        have hss := sumTo_succ uSize l hm
        have hub := uSize_bd (nth l j)
        have HM := Lib.hid hm; clear hm
        have HS := Lib.hid hss; clear hss
        have C := Lib.hid fun W => size_any (nth l j) W
        have D := Lib.hid fun W => rSize_any (nth l j) W
        generalize nth l j = r at *
        generalize uSize r = u at *
        generalize sumTo uSize l j = S at *
        go_wp2_with fail
        refine (C.out _).mono ?_
        rintro e w1 ⟨rfl, hb1⟩
        go_wp2_with fail
        refine (D.out _).mono ?_
        rintro e w2 ⟨rfl, rfl⟩
        go_wp2_with fail
        refine (C.out _).mono ?_
        rintro e w3 ⟨rfl, hb3⟩
        have a1 := hb.trans (hb1.mono hb.size)
        go_wp2_with fail
        go_roundg (gk - 1)
        case measure => omega
        case rel => exact ⟨j + 1, by go_num, by rw [HS.out], by omega, by omega, a1.trans (hb3.mono a1.size)⟩
      · have hj : j = n := by omega
        have hS : sumTo uSize l j = ((encAll l).length : Int) := by rw [enc_sum, sumTo_all uSize l (by rw [HL.out]; omega)]
        rw [hS]
        have zl : (encAll l).length ≤ 4000 := by have := encAll_len l; have := HL.out; omega
        clear hS hj
        go_wp2_with fail
        refine (encode_any A n c l _ (HA.out.below hb) HL.out (by omega) HF.out).mono ?_
        rintro e w4 ⟨rfl, hb4⟩
        have a4 := hb.trans (hb4.mono hb.size)
        go_wp2_with fail
        refine (rencode_any A n c l _ (HA.out.below a4) HL.out (by omega)).mono ?_
        rintro e w5 ⟨rfl, hb5⟩
        have a5 := a4.trans (hb5.mono a4.size)
        go_wp2_with fail
        refine (HO.out _ a5).mono ?_
        rintro e w8 ⟨rfl, hb8⟩
        go_wp2_with fail
        go_ret
        exact ⟨rfl, hb8⟩
end Go.Proofs.YtapamkefcfnbpaaDoor
