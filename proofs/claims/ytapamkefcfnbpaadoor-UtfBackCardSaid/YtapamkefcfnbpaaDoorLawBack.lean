/- The walk of the law that what was encoded is decoded. -/
import Derived.Test.YtapamkefcfnbpaaDoorAcute
namespace Go.Proofs.YtapamkefcfnbpaaDoor
open Go.RowKit
theorem encS_dec (l : List Int) : dec ⟨(encAll l).toArray⟩ = l.map cleanR := by
  rw [dec_list]
  have e : (ByteArray.mk (encAll l).toArray).data.toList = encAll l := by simp
  rw [e, decD_encAll]
theorem encS_size (l : List Int) : (ByteArray.mk (encAll l).toArray).size ≤ 4 * l.length := by
  have h1 := encAll_len l
  have h3 : (ByteArray.mk (encAll l).toArray).size = (encAll l).length := by simp [ByteArray.size]
  omega
theorem nth_map (l : List Int) {j : Nat} (h : j < l.length) : nth (l.map cleanR) j = cleanR (nth l j) := by
  simp [nth, List.getD, h]
theorem clean_yes {r : Int} (h : 0 ≤ r ∧ r ≤ 1114111 ∧ (r < 55296 ∨ 57343 < r)) : cleanR r = r := by
  unfold cleanR hasR
  rw [decide_eq_true h]
  rfl
theorem clean_no {r : Int} (h : ¬ (0 ≤ r ∧ r ≤ 1114111 ∧ (r < 55296 ∨ 57343 < r))) : cleanR r = 65533 := by
  unfold cleanR hasR
  rw [decide_eq_false h]
  rfl
set_option maxHeartbeats 2000000 in
set_option maxRecDepth 100000 in
theorem utfBack_walk (A : Option Addr) (n c : Nat) (l : List Int) (w : World) (h : UTabs w) (hA : IntsAt .i32 w A l) (hl : l.length = n) (hn : n ≤ maxLen) (_ : Caps A n c) (hf : Fit l) :
    Calls Tryd.prog 6 #[.slice A n c] w fun e w' => e = .returned (.bool true) ∧ Below w.heap.size w w' := by
  unfold maxLen at hn
  have H := Lib.hid h; clear h
  have HL := Lib.hid hl; clear hl
  have HA := Lib.hid hA; clear hA
  have HF := Lib.hid hf; clear hf
  have out : ∀ W : World, Below w.heap.size w W → Calls Tryd.prog 14 #[] W fun e w' => e = .returned (.bool true) ∧ Below w.heap.size w w' :=
    fun W hW => (acute_any W (H.out.below hW)).mono fun e w' ⟨he, hb⟩ => ⟨he, hW.trans (hb.mono hW.size)⟩
  have HO := Lib.hid out; clear out
  by_cases g1 : 1000 < n
  · go_enter Tryd.func6, Tryd.ntmps6
    go_wp2_with fail
    refine (HO.out _ (Below.refl _ _)).mono ?_
    rintro e w1 ⟨rfl, hb1⟩
    go_wp2_with fail
    go_ret
    exact ⟨rfl, hb1⟩
  · have hsz := encS_size l
    have C1 := Lib.hid fun (W : World) => decode_any ⟨(encAll l).toArray⟩ W (by rw [HL.out] at hsz; omega)
    rw [encS_dec, List.length_map, HL.out] at C1
    clear hsz
    go_enter Tryd.func6, Tryd.ntmps6
    go_wp2_with fail
    refine (encode_any A n c l _ HA.out HL.out (by omega) HF.out).mono ?_
    rintro e w1 ⟨rfl, hb1⟩
    go_wp2_with fail
    refine (C1.out _).mono ?_
    rintro e w2 ⟨A2, c2, rfl, hb2, hI2, hC2⟩
    have a2 := hb1.trans (hb2.mono hb1.size)
    have HI2 := Lib.hid hI2; clear hI2
    have HA2 := Lib.hid (HA.out.below a2)
    go_wp2_with fail
    go_loopg [4, 5, 6, 21] n (fun k x y z i wr => ∃ j : Nat, i = .int .i64 j ∧ j ≤ n ∧ n - j ≤ k ∧ Below w2.heap.size w2 wr)
    case atStart => exact ⟨0, rfl, by omega, by omega, Below.refl _ _⟩
    case round =>
      obtain ⟨j, rfl, i1, i2, hb⟩ := hrel
      by_cases hlt : j < n
      · have hm : j < l.length := by rw [HL.out]; omega
        obtain ⟨b, off, rfl, hbs, hc⟩ := HA2.out (by omega)
        have q1 := hc j hm
        obtain ⟨b', off', rfl, hbs', hc'⟩ := HI2.out (by rw [List.length_map]; omega)
        have q2 := hc' j (by rw [List.length_map]; omega)
        rw [nth_map l hm] at q2
        clear hc hc'
        obtain ⟨H1, H2⟩ := old_cells hb
        have HM := Lib.hid hm; clear hm
        by_cases hr : 0 ≤ nth l j ∧ nth l j ≤ 1114111 ∧ (nth l j < 55296 ∨ 57343 < nth l j)
        · rw [clean_yes hr] at q2
          obtain ⟨r1, r2, r3⟩ := hr
          generalize nth l j = r at *
          by_cases r4 : r < 55296
          · go_wp2
            go_roundg (gk - 1)
            case measure => omega
            case rel => exact ⟨j + 1, by go_num, by omega, by omega, hb⟩
          · have r5 : 57343 < r := by omega
            go_wp2
            go_roundg (gk - 1)
            case measure => omega
            case rel => exact ⟨j + 1, by go_num, by omega, by omega, hb⟩
        · rw [clean_no hr] at q2
          generalize nth l j = r at *
          by_cases r1 : r < 0
          · go_wp2
            go_roundg (gk - 1)
            case measure => omega
            case rel => exact ⟨j + 1, by go_num, by omega, by omega, hb⟩
          · by_cases r2 : 1114111 < r
            · go_wp2
              go_roundg (gk - 1)
              case measure => omega
              case rel => exact ⟨j + 1, by go_num, by omega, by omega, hb⟩
            · have r3 : 55296 ≤ r := by omega
              have r4 : r ≤ 57343 := by omega
              have r6 : 0 ≤ r := by omega
              have r7 : r ≤ 1114111 := by omega
              clear hr
              go_wp2
              go_roundg (gk - 1)
              case measure => omega
              case rel => exact ⟨j + 1, by go_num, by omega, by omega, hb⟩
      · go_wp2_with fail
        refine (HO.out _ (a2.trans (hb.mono a2.size))).mono ?_
        rintro e w8 ⟨rfl, hb8⟩
        go_wp2_with fail
        go_ret
        exact ⟨rfl, hb8⟩
end Go.Proofs.YtapamkefcfnbpaaDoor
