/- The contract of utf.Encode: the encodings of all runes, one behind the other. -/
import Derived.Test.YtaemndioleofjaaGreatBuilder
import Derived.Test.YtaemndioleofjaaGreatUtfPure
import Derived.OpenShut
namespace Go.Proofs.YtaemndioleofjaaGreat
open Go.RowKit
set_option maxHeartbeats 1000000 in
set_option maxRecDepth 100000 in
theorem encode_any (A : Option Addr) (n c : Nat) (l : List Int) (w : World) (hA : IntsAt .i32 w A l) (hl : l.length = n) (hn : n ≤ 100000000) (hf : Fit l) :
    Calls Tryz.prog 79 #[.slice A n c] w fun e w' => e = .returned (.string ⟨(encAll l).toArray⟩) ∧ Below w.heap.size w w' := by
  have HL := Lib.hid hl; clear hl
  have HA := Lib.hid hA; clear hA
  have HF := Lib.hid hf; clear hf
  go_enter Tryz.func79, Tryz.ntmps79
  go_wp2_with fail
  refine (Tryz.Builder_Grow_fresh w.heap.size w.heap.size n _ (Nat.le_refl _) (heap_alloc_new w _) (by simp) (by omega)).mono ?_
  rintro e w1 ⟨rfl, hB1, hb1⟩
  have hbw1 : Below w.heap.size w w1 := ((Below.refl _ _).alloc (Nat.le_refl _) _).trans hb1
  clear hb1
  go_wp2_with fail
  go_loopg [5, 11] n (fun k x i wr => ∃ j : Nat, i = .int .i64 j ∧ j ≤ n ∧ n - j ≤ k ∧ Below w.heap.size w wr ∧ Lib.BuilderAt 116 5 w.heap.size w.heap.size (.pointer (some ⟨w.heap.size, 0, none⟩)) (Lib.byteCells (encAll (l.take j))) wr)
  case atStart => exact ⟨0, rfl, by omega, by omega, hbw1, hB1⟩
  case round =>
    obtain ⟨j, rfl, h1, h2, hb, hB⟩ := hrel
    by_cases hlt : j < n
    · have hm : j < l.length := by rw [HL.out]; exact hlt
      obtain ⟨b, off, rfl, hbs, hc⟩ := HA.out (by omega)
      have q := hc j hm
      clear hc
      obtain ⟨H1, H2⟩ := old_cells hb
      have HM := Lib.hid hm; clear hm
      have hr := HF.out.nth_ HM.out
      have hlen : (Lib.byteCells (encAll (l.take j))).length + 4 ≤ 1000000000 := by
        rw [Lib.byteCells_length]
        have := encAll_len (l.take j)
        have := List.length_take_le' j l
        have := HL.out
        omega
      go_wp2_with fail
      refine (writeRune_any _ _ _ _ hr.1 hr.2 _ hB hlen hb.size).mono ?_
      rintro e w2 ⟨⟨x, rfl⟩, hB2, hb2⟩
      rw [← Lib.byteCells_encodeRune, ← Lib.byteCells_append, ← encAll_snoc HM.out] at hB2
      go_wp2_with fail
      go_roundg (gk - 1)
      case measure => omega
      case rel => exact ⟨j + 1, by go_num, by omega, by omega, hb.trans hb2, hB2⟩
    · go_wp2_with fail
      rw [List.take_of_length_le (by rw [HL.out]; omega)] at hB
      refine (Tryz.Builder_String_any _ _ _ _ (.inr hB) hb.size).mono ?_
      rintro e w2 ⟨rfl, hb2⟩
      go_wp2_with fail
      go_ret
      exact ⟨rfl, hb.trans hb2⟩
end Go.Proofs.YtaemndioleofjaaGreat
