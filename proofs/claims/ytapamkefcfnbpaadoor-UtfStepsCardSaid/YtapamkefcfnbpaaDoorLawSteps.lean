/- The walk of the law on the rune at each place of a text. -/
import Derived.Test.YtapamkefcfnbpaaDoorRefStep
namespace Go.Proofs.YtapamkefcfnbpaaDoor
open Go.RowKit
theorem decodeGo_at (s : ByteArray) (p : Nat) (hp : p < s.size) : Lib.decodeGo (s.extract p s.size) = Utf8.decode s p := by
  have hs : (s.extract p s.size).size = s.size - p := by rw [ByteArray.size_extract]; omega
  unfold Lib.decodeGo
  rw [if_neg (by omega), ← Lib.decodeL_drop, ← Lib.decodeL_drop, List.drop_zero]
  have e : (s.extract p s.size).data.toList = s.data.toList.drop p := by
    rw [ByteArray.data_extract, Array.toList_extract]
    have hl : s.data.toList.length = s.size := size_list s
    rw [List.extract_eq_take_drop]
    exact List.take_of_length_le (by rw [List.length_drop, hl]; omega)
  rw [e]
set_option maxHeartbeats 400000 in
theorem ustep_in (s : ByteArray) (p : Nat) (w : World) (_ : s.size ≤ 1000000000) (hp : p < s.size) (h : UTabs w) :
    Calls Tryd.prog 21 #[.string s, .int .i64 p] w fun e w' => e = .returned (.tuple #[.int .i32 (Utf8.decode s p).1, .int .i64 (Utf8.decode s p).2]) ∧ Below w.heap.size w w' := by
  have H := Lib.hid h; clear h
  have HD := Lib.hid (decodeGo_at s p hp)
  have z3 : (0 : Int) ≤ p := by omega
  have z4 : (p : Int) ≤ s.size := by omega
  go_enter Tryd.func21, Tryd.ntmps21
  go_wp2_with fail
  refine (Tryd.utf8_DecodeRuneInString (s.extract p s.size) _ H.out).mono ?_
  rintro e w1 ⟨rfl, hb1⟩
  rw [HD.out]
  go_wp2_with fail
  go_ret2
  exact ⟨rfl, hb1⟩
set_option maxHeartbeats 400000 in
theorem ustep_out (s : ByteArray) (p : Int) (w : World) (_ : s.size ≤ 1000000000) (h1 : -9223372036854775808 ≤ p) (h2 : p ≤ 9223372036854775807) (ho : p < 0 ∨ (s.size : Int) ≤ p) :
    Calls Tryd.prog 21 #[.string s, .int .i64 p] w fun e w' => e = .returned (.tuple #[.int .i32 0, .int .i64 0]) ∧ Below w.heap.size w w' := by
  by_cases g : p < 0
  · go_enter Tryd.func21, Tryd.ntmps21
    go_wp2_with fail
    go_ret2
    exact ⟨rfl, Below.refl _ _⟩
  · have g' : (s.size : Int) ≤ p := by omega
    go_enter Tryd.func21, Tryd.ntmps21
    go_wp2_with fail
    go_ret2
    exact ⟨rfl, Below.refl _ _⟩
set_option maxHeartbeats 1000000 in
theorem utfSteps_same (s : ByteArray) (p r n : Int) (w : World) (h : UTabs w) (hs : s.size ≤ 4000)
    (hC : ∀ W, Below w.heap.size w W → Calls Tryd.prog 21 #[.string s, .int .i64 p] W fun e w' => e = .returned (.tuple #[.int .i32 r, .int .i64 n]) ∧ Below W.heap.size W w')
    (hD : ∀ W, Calls Tryd.prog 22 #[.string s, .int .i64 p] W fun e w' => e = .returned (.agg #[.int .i32 r, .int .i64 n]) ∧ Below W.heap.size W w') :
    Calls Tryd.prog 4 #[.string s, .int .i64 p] w fun e w' => e = .returned (.bool true) ∧ Below w.heap.size w w' := by
  have H := Lib.hid h; clear h
  have C := Lib.hid hC; clear hC
  have D := Lib.hid hD; clear hD
  go_enter Tryd.func4, Tryd.ntmps4
  go_wp2_with fail
  refine (C.out _ (Below.refl _ _)).mono ?_
  rintro e w1 ⟨rfl, hb1⟩
  go_wp2_with fail
  refine (D.out _).mono ?_
  rintro e w2 ⟨rfl, hb2⟩
  have a2 := hb1.trans (hb2.mono hb1.size)
  go_wp2_with fail
  refine (acute_any _ (H.out.below (a2.alloc a2.size _))).mono ?_
  rintro e w3 ⟨rfl, hb3⟩
  go_wp2_with fail
  go_ret
  have a3 := a2.alloc a2.size (.cells #[.int .i32 r, .int .i64 n] 31)
  exact ⟨rfl, a3.trans (hb3.mono a3.size)⟩
theorem utfSteps_walk (s : ByteArray) (p : Int) (w : World) (h : UTabs w) (hs : s.size ≤ maxLen) (hp : (Lit.int .i64 p).wf = true) :
    Calls Tryd.prog 4 #[.string s, .int .i64 p] w fun e w' => e = .returned (.bool true) ∧ Below w.heap.size w w' := by
  unfold maxLen at hs
  have hb := bounds_i64 hp
  by_cases g1 : 4000 < s.size
  · have H := Lib.hid h; clear h
    go_enter Tryd.func4, Tryd.ntmps4
    go_wp2_with fail
    refine (acute_any _ H.out).mono ?_
    rintro e w1 ⟨rfl, hb1⟩
    go_wp2_with fail
    go_ret
    exact ⟨rfl, hb1⟩
  · by_cases g2 : p < 0 ∨ (s.size : Int) ≤ p
    · exact utfSteps_same s p 0 0 w h (by omega) (fun W _ => ustep_out s p W (by omega) hb.1 hb.2 g2) (fun W => step_out s p W (by omega) hb.1 hb.2 g2)
    · obtain ⟨k, rfl⟩ : ∃ k : Nat, p = k := ⟨p.toNat, by omega⟩
      exact utfSteps_same s k _ _ w h (by omega) (fun W hW => ustep_in s k W (by omega) (by omega) (h.below hW)) (fun W => step_in s k W (by omega) (by omega))
end Go.Proofs.YtapamkefcfnbpaaDoor
