/- The walk of the law on the rune at each place of a text. -/
import Derived.Test.YtglalmhpgdgeeaaGreatDoorRDec
import Derived.Test.YtglalmhpgdgeeaaGreatDoorShelfU
import Derived.Test.YtglalmhpgdgeeaaGreatDoorAcute
namespace Go.Proofs.YtglalmhpgdgeeaaGreatDoor
open Go.RowKit
theorem decodeGo_at (s : ByteArray) (p : Nat) (hp : p < s.size) : Lib.decodeGo (s.extract p s.size) = Utf8.decode s p := by
  have hs : (s.extract p s.size).size = s.size - p := by rw [ByteArray.size_extract]; omega
  unfold Lib.decodeGo
  rw [if_neg (by omega), ← Lib.decodeL_drop, ← Lib.decodeL_drop, List.drop_zero]
  have e : (s.extract p s.size).data.toList = s.data.toList.drop p := by
    rw [ByteArray.data_extract, Array.toList_extract]
    have hl : s.data.toList.length = s.size := size_list s
    rw [List.extract_eq_take_drop]
    exact List.take_of_length_le (by rw [List.length_drop, hl]; omega)
  rw [e]
set_option maxHeartbeats 400000 in
theorem ustep_in (s : ByteArray) (p : Nat) (w : World) (_ : s.size ≤ 1000000000) (hp : p < s.size) (h : UTabs w) :
    Calls Tryz.prog 26 #[.string s, .int .i64 p] w fun e w' => e = .returned (.tuple #[.int .i32 (Utf8.decode s p).1, .int .i64 (Utf8.decode s p).2]) ∧ Below w.heap.size w w' := by
  have H := Lib.hid h; clear h
  have HD := Lib.hid (decodeGo_at s p hp)
  have z3 : (0 : Int) ≤ p := by omega
  have z4 : (p : Int) ≤ s.size := by omega
  go_enter Tryz.func26, Tryz.ntmps26
  go_wp2_with fail
  refine (Tryz.utf8_DecodeRuneInString (s.extract p s.size) _ H.out).mono ?_
  rintro e w1 ⟨rfl, hb1⟩
  rw [HD.out]
  go_wp2_with fail
  go_ret2
  exact ⟨rfl, hb1⟩
set_option maxHeartbeats 400000 in
theorem ustep_out (s : ByteArray) (p : Int) (w : World) (_ : s.size ≤ 1000000000) (h1 : -9223372036854775808 ≤ p) (h2 : p ≤ 9223372036854775807) (ho : p < 0 ∨ (s.size : Int) ≤ p) :
    Calls Tryz.prog 26 #[.string s, .int .i64 p] w fun e w' => e = .returned (.tuple #[.int .i32 0, .int .i64 0]) ∧ Below w.heap.size w w' := by
  by_cases g : p < 0
  · go_enter Tryz.func26, Tryz.ntmps26
    go_wp2_with fail
    go_ret2
    exact ⟨rfl, Below.refl _ _⟩
  · have g' : (s.size : Int) ≤ p := by omega
    go_enter Tryz.func26, Tryz.ntmps26
    go_wp2_with fail
    go_ret2
    exact ⟨rfl, Below.refl _ _⟩
end Go.Proofs.YtglalmhpgdgeeaaGreatDoor
