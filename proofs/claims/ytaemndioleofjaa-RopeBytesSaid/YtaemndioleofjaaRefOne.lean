/- The right encoding of a number, as the document's own answer writes it: the contract of bodkinref01.one. -/
import Derived.Test.YtaemndioleofjaaRefU
import Derived.Laws.BytesArg
namespace Go.Proofs.Ytaemndioleofjaa
open Go.RowKit
/-- Bytes just laid, turned into a text. -/
theorem conv_new (w : World) (xs : List Int) (n c : Nat) (hn : xs.length = n) :
    (convert 98 9 (.slice (some ⟨w.heap.size, 0, none⟩) n c)).run Try.prog (w.alloc (.cells (xs.map (Value.int .u8)).toArray 5)) = .ok (.string (strOfNums xs)) (w.alloc (.cells (xs.map (Value.int .u8)).toArray 5)) :=
  run_convert_bytes_arg _ 98 5 Try.underlying98 Try.underlying5 w.heap.size 0 n c xs hn (fun i hi => by
    rw [cell_of_row _ _ _ _ 5 _ (heap_alloc_new w _), ← Array.getElem?_toList, Nat.zero_add]
    have hi' : i < xs.length := by omega
    simp [List.getD, hi']) 9 Try.underlying9
theorem str_enc {r : Int} {xs : List Int} (h : Lib.encodeRuneZ r = xs) : Ending.returned (.string (strOfNums xs)) = .returned (.string ⟨(Lib.encodeRune r).toArray⟩) := by
  subst h
  rfl
set_option maxHeartbeats 1000000 in
theorem one_1 (r : Int) (w : World) (h0 : 0 ≤ r) (h1 : r < 128) :
    Calls Try.prog 53 #[.int .i32 r, .int .i64 1] w fun e w' => e = .returned (.string ⟨(Lib.encodeRune r).toArray⟩) ∧ Below w.heap.size w w' := by
  have e1 := conv_new w [r] 1 1 rfl
  simp only [List.map_cons, List.map_nil] at e1
  have HE := Lib.hid (Lib.encodeRuneZ_one (r := r) h0 (by omega))
  go_enter Try.func53, Try.ntmps53
  go_wp2
  go_ret
  exact ⟨str_enc HE.out, (Below.refl _ _).alloc (Nat.le_refl _) _⟩
set_option maxHeartbeats 1000000 in
theorem one_2 (r : Int) (w : World) (h0 : 128 ≤ r) (h1 : r < 2048) :
    Calls Try.prog 53 #[.int .i32 r, .int .i64 2] w fun e w' => e = .returned (.string ⟨(Lib.encodeRune r).toArray⟩) ∧ Below w.heap.size w w' := by
  have e1 := conv_new w [192 + r / 64, 128 + r % 64] 2 2 rfl
  simp only [List.map_cons, List.map_nil] at e1
  have HE := Lib.hid (Lib.encodeRuneZ_two (r := r) h0 (by omega))
  have h2 : 0 ≤ r := by omega
  go_enter Try.func53, Try.ntmps53
  go_wp2
  go_ret
  exact ⟨str_enc HE.out, (Below.refl _ _).alloc (Nat.le_refl _) _⟩
set_option maxHeartbeats 1000000 in
theorem one_3 (r : Int) (w : World) (h0 : 2048 ≤ r) (h1 : r < 65536) (hs : r < 55296 ∨ 57343 < r) :
    Calls Try.prog 53 #[.int .i32 r, .int .i64 3] w fun e w' => e = .returned (.string ⟨(Lib.encodeRune r).toArray⟩) ∧ Below w.heap.size w w' := by
  have e1 := conv_new w [224 + r / 4096, 128 + r / 64 % 64, 128 + r % 64] 3 3 rfl
  simp only [List.map_cons, List.map_nil] at e1
  have HE := Lib.hid (Lib.encodeRuneZ_three (r := r) (by omega))
  have h2 : 0 ≤ r := by omega
  clear hs
  go_enter Try.func53, Try.ntmps53
  go_wp2
  go_ret
  exact ⟨str_enc HE.out, (Below.refl _ _).alloc (Nat.le_refl _) _⟩
set_option maxHeartbeats 1000000 in
theorem one_4 (r : Int) (w : World) (h0 : 65536 ≤ r) (h1 : r ≤ 1114111) :
    Calls Try.prog 53 #[.int .i32 r, .int .i64 4] w fun e w' => e = .returned (.string ⟨(Lib.encodeRune r).toArray⟩) ∧ Below w.heap.size w w' := by
  have e1 := conv_new w [240 + r / 262144, 128 + r / 4096 % 64, 128 + r / 64 % 64, 128 + r % 64] 4 4 rfl
  simp only [List.map_cons, List.map_nil] at e1
  have HE := Lib.hid (Lib.encodeRuneZ_four (r := r) h0 h1)
  have h2 : 0 ≤ r := by omega
  go_enter Try.func53, Try.ntmps53
  go_wp2
  go_ret
  exact ⟨str_enc HE.out, (Below.refl _ _).alloc (Nat.le_refl _) _⟩
theorem one_any (r n : Int) (w : World) (h : rsz r = n) (hn : n ≠ 0) :
    Calls Try.prog 53 #[.int .i32 r, .int .i64 n] w fun e w' => e = .returned (.string ⟨(Lib.encodeRune r).toArray⟩) ∧ Below w.heap.size w w' := by
  by_cases hr : 0 ≤ r ∧ r ≤ 1114111 ∧ (r < 55296 ∨ 57343 < r)
  · have hz := rsz_yes hr
    rw [h] at hz
    subst hz
    split
    · exact one_1 r w hr.1 (by assumption)
    · split
      · exact one_2 r w (by omega) (by assumption)
      · split
        · exact one_3 r w (by omega) (by assumption) hr.2.2
        · exact one_4 r w (by omega) hr.2.1
  · exact absurd (h.symm.trans (rsz_no hr)) hn
end Go.Proofs.Ytaemndioleofjaa
