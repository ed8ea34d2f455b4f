/- The walk of the law that what is clean is good, and stays; what is good is clean as it is. -/
import Derived.Test.YtapamkefcfnbpaaDoorAcute
namespace Go.Proofs.YtapamkefcfnbpaaDoor
open Go.RowKit
/-- The clean text. -/
def cleanS (s : ByteArray) : ByteArray := ⟨(encAll (dec s)).toArray⟩
theorem cleanS_list (s : ByteArray) : (cleanS s).data.toList = encAll (dec s) := by simp [cleanS]
theorem cleanS_dec (s : ByteArray) : dec (cleanS s) = dec s := by
  rw [dec_list (cleanS s), cleanS_list, decD_encAll, dec_list]
  exact decoded_clean _ _
theorem cleanS_valid (s : ByteArray) : Lib.validD (cleanS s).data.toList = true := by rw [cleanS_list]; exact valid_encAll _
theorem cleanS_again (s : ByteArray) : cleanS (cleanS s) = cleanS s := by
  unfold cleanS
  rw [show dec ⟨(encAll (dec s)).toArray⟩ = dec s from cleanS_dec s]
theorem cleanS_good (s : ByteArray) (h : Lib.validD s.data.toList = true) : cleanS s = s := by
  have e : (cleanS s).data.toList = s.data.toList := by
    rw [cleanS_list, dec_list]
    exact encAll_dec _ _ (Nat.le_refl _) h
  cases s with
  | mk d => exact congrArg ByteArray.mk (Array.toList_inj.1 e)
theorem cleanS_bad (s : ByteArray) (h : Lib.validD s.data.toList = false) : ¬ cleanS s = s := by
  intro e
  have := cleanS_valid s
  rw [e, h] at this
  cases this
theorem cleanS_size (s : ByteArray) : (cleanS s).size ≤ 4 * s.size := by
  have h1 := encAll_len (dec s)
  have h2 := dec_len s
  have h3 : (cleanS s).size = (encAll (dec s)).length := by rw [← cleanS_list]; exact Array.length_toList.symm
  omega
set_option maxHeartbeats 1000000 in
set_option maxRecDepth 100000 in
theorem utfClean_walk (s : ByteArray) (w : World) (h : UTabs w) (hs : s.size ≤ maxLen) :
    Calls Tryd.prog 7 #[.string s] w fun e w' => e = .returned (.bool true) ∧ Below w.heap.size w w' := by
  unfold maxLen at hs
  have H := Lib.hid h; clear h
  have out : ∀ W : World, Below w.heap.size w W → Calls Tryd.prog 14 #[] W fun e w' => e = .returned (.bool true) ∧ Below w.heap.size w w' :=
    fun W hW => (acute_any W (H.out.below hW)).mono fun e w' ⟨he, hb⟩ => ⟨he, hW.trans (hb.mono hW.size)⟩
  have HO := Lib.hid out; clear out
  by_cases g1 : 4000 < s.size
  · go_enter Tryd.func7, Tryd.ntmps7
    go_wp2_with fail
    refine (HO.out _ (Below.refl _ _)).mono ?_
    rintro e w1 ⟨rfl, hb1⟩
    go_wp2_with fail
    go_ret
    exact ⟨rfl, hb1⟩
  · have cs : (cleanS s).size ≤ 16000 := by have := cleanS_size s; omega
    have C1 := Lib.hid fun (W : World) => clean_any s W (by omega)
    have C2 := Lib.hid fun (W : World) => clean_any (cleanS s) W (by omega)
    have C3 := Lib.hid fun (W : World) (hW : Below w.heap.size w W) => good_any (cleanS s) W (by omega) (H.out.below hW)
    have C4 := Lib.hid fun (W : World) (hW : Below w.heap.size w W) => good_any s W (by omega) (H.out.below hW)
    have C5 := Lib.hid fun (W : World) => decode_any (cleanS s) W (by omega)
    have C6 := Lib.hid fun (W : World) => decode_any s W (by omega)
    change Hid (∀ W : World, Calls Tryd.prog _ _ W fun e w' => e = .returned (.string (cleanS s)) ∧ _) at C1
    change Hid (∀ W : World, Calls Tryd.prog _ _ W fun e w' => e = .returned (.string (cleanS (cleanS s))) ∧ _) at C2
    rw [cleanS_again] at C2
    rw [cleanS_valid] at C3
    rw [cleanS_dec] at C5
    have hl := dec_len s
    cases hv : Lib.validD s.data.toList
    · have hne := cleanS_bad s hv
      rw [hv] at C4
      generalize cleanS s = c at *
      have HV := Lib.hid hv; clear hv
      have hne' : ¬ c.toList = s.toList := fun e => hne (Go.WideShapes.bytes_inj (by rw [ByteArray.toList_eq, ByteArray.toList_eq] at e; exact e))
      have hneB : (c.toList == s.toList) = false := by simpa using hne'
      go_enter Tryd.func7, Tryd.ntmps7
      go_wp2_with fail
      refine (C1.out _).mono ?_
      rintro e w1 ⟨rfl, hb1⟩
      go_wp2_with fail
      refine (C3.out _ hb1).mono ?_
      rintro e w2 ⟨rfl, hb2⟩
      have a2 := hb1.trans (hb2.mono hb1.size)
      go_wp2_with fail
      refine (C2.out _).mono ?_
      rintro e w3 ⟨rfl, hb3⟩
      have a3 := a2.trans (hb3.mono a2.size)
      go_wp2_with fail
      refine (C4.out _ a3).mono ?_
      rintro e w4 ⟨rfl, hb4⟩
      have a4 := a3.trans (hb4.mono a3.size)
      go_wp2_with fail
      refine (C5.out _).mono ?_
      rintro e w5 ⟨A5, c5, rfl, hb5, hI5, hC5⟩
      have a5 := a4.trans (hb5.mono a4.size)
      go_wp2_with fail
      refine (C6.out _).mono ?_
      rintro e w6 ⟨A6, c6, rfl, hb6, hI6, hC6⟩
      have a6 := a5.trans (hb6.mono a5.size)
      go_wp2_with fail
      refine (runes_same A5 A6 _ c5 c6 (dec s) _ (hI5.below hb6) hI6 rfl (by omega)).mono ?_
      rintro e w7 ⟨rfl, hb7⟩
      have a7 := a6.trans (hb7.mono a6.size)
      go_wp2_with fail
      refine (HO.out _ a7).mono ?_
      rintro e w8 ⟨rfl, hb8⟩
      go_wp2_with fail
      go_ret
      exact ⟨rfl, hb8⟩
    · have heq := cleanS_good s hv
      rw [hv] at C4
      rw [heq] at C1 C2 C3 C5
      have HV := Lib.hid hv; clear hv heq cs
      go_enter Tryd.func7, Tryd.ntmps7
      go_wp2_with fail
      refine (C1.out _).mono ?_
      rintro e w1 ⟨rfl, hb1⟩
      go_wp2_with fail
      refine (C3.out _ hb1).mono ?_
      rintro e w2 ⟨rfl, hb2⟩
      have a2 := hb1.trans (hb2.mono hb1.size)
      go_wp2_with fail
      refine (C2.out _).mono ?_
      rintro e w3 ⟨rfl, hb3⟩
      have a3 := a2.trans (hb3.mono a2.size)
      go_wp2_with fail
      refine (C4.out _ a3).mono ?_
      rintro e w4 ⟨rfl, hb4⟩
      have a4 := a3.trans (hb4.mono a3.size)
      go_wp2_with fail
      refine (C5.out _).mono ?_
      rintro e w5 ⟨A5, c5, rfl, hb5, hI5, hC5⟩
      have a5 := a4.trans (hb5.mono a4.size)
      go_wp2_with fail
      refine (C6.out _).mono ?_
      rintro e w6 ⟨A6, c6, rfl, hb6, hI6, hC6⟩
      have a6 := a5.trans (hb6.mono a5.size)
      go_wp2_with fail
      refine (runes_same A5 A6 _ c5 c6 (dec s) _ (hI5.below hb6) hI6 rfl (by omega)).mono ?_
      rintro e w7 ⟨rfl, hb7⟩
      have a7 := a6.trans (hb7.mono a6.size)
      go_wp2_with fail
      refine (HO.out _ a7).mono ?_
      rintro e w8 ⟨rfl, hb8⟩
      go_wp2_with fail
      go_ret
      exact ⟨rfl, hb8⟩
end Go.Proofs.YtapamkefcfnbpaaDoor
