/- The laws' own on rows: a line with an indent, in two rows. -/
import Derived.Test.YtnlhpbnonmdkdaaWrG
namespace Go.Proofs.Ytnlhpbnonmdkdaa
open Go.RowKit
set_option linter.unusedVariables false
def L5 : List Cl := [⟨32, 0, 1, 0⟩, ⟨97, 0, 1, 0⟩, ⟨32, 0, 1, 2⟩, ⟨99, 0, 1, 3⟩, ⟨100, 0, 1, 4⟩]
def C5 : Array Value := #[.int .i32 32, .int .i64 0, .int .i64 1, .int .i64 0, .int .i32 97, .int .i64 0, .int .i64 1, .int .i64 0, .int .i32 32, .int .i64 0, .int .i64 1, .int .i64 2, .int .i32 99, .int .i64 0, .int .i64 1, .int .i64 3, .int .i32 100, .int .i64 0, .int .i64 1, .int .i64 4]
def R0 : List Cl := [⟨32, 0, 1, 0⟩, ⟨97, 0, 1, 0⟩, ⟨32, 0, 1, 2⟩]
def R1 : List Cl := [⟨32, 5, 1, 3⟩, ⟨99, 0, 1, 3⟩, ⟨100, 0, 1, 4⟩]
theorem L5w : W02 L5 := by intro x hx; simp [L5] at hx; rcases hx with rfl | rfl | rfl | rfl | rfl <;> simp
theorem L5r : wrapN L5 4 = [R0, R1] := by rfl
set_option maxHeartbeats 4000000 in
set_option maxRecDepth 100000 in
theorem hangs20_any (w : World) : Calls Try.prog 27 #[] w fun e w' => e = .returned (.bool true) ∧ Below w.heap.size w w' := by
  obtain ⟨w1, hw1⟩ : ∃ w1, w.alloc (.cells #[.int .i32 32, .int .i64 0, .int .i64 1, .int .i64 0, .int .i32 97, .int .i64 0, .int .i64 1, .int .i64 0, .int .i32 32, .int .i64 0, .int .i64 1, .int .i64 2, .int .i32 99, .int .i64 0, .int .i64 1, .int .i64 3, .int .i32 100, .int .i64 0, .int .i64 1, .int .i64 4] 35) = w1 := ⟨_, rfl⟩
  have x1 : Below w.heap.size w w1 := by rw [← hw1]; exact (Below.refl _ _).alloc (Nat.le_refl _) _
  have hR : RowsAt encC 4 w1 (some ⟨w.heap.size, 0, none⟩) L5 := by rw [← hw1]; exact row_new encC_len w L5 C5 _ rfl
  have hcap : Caps (some ⟨w.heap.size, 0, none⟩) 5 5 := ⟨Nat.le_refl _, fun h => by cases h⟩
  have HX1 := Lib.hid x1
  have CR := Lib.hid fun (W : World) (hW : Below w1.heap.size w1 W) => wRows_yes (some ⟨w.heap.size, 0, none⟩) 5 5 4 L5 W (hR.below hW) rfl hcap (by omega) L5w (by omega) (by omega)
  have CC := Lib.hid fun (W : World) (hW : Below w1.heap.size w1 W) => wCount_yes (some ⟨w.heap.size, 0, none⟩) 5 5 4 L5 W (hR.below hW) rfl hcap (by omega) L5w (by omega) (by omega)
  have CH := Lib.hid fun (W : World) (hW : Below w1.heap.size w1 W) => wHang_any (some ⟨w.heap.size, 0, none⟩) 5 5 L5 4 W (hR.below hW) rfl hcap (by omega) L5w
  rw [L5r] at CR
  rw [L5r, show wmax [R0, R1] = 3 from by rfl, show (([R0, R1] : List (List Cl)).length : Int) = 2 from rfl] at CC
  rw [show hangN L5 4 = 1 from by rfl] at CH
  clear x1 hR hcap
  go_enter Try.func27, Try.ntmps27
  go_wp2_with (first | (go_at_call 28; refine (CR.out _ (Below.refl _ _)).mono ?_; rintro e w2 ⟨v2, ss, rfl, ho2, hrs2, hb2⟩; have HB2 := Lib.hid hb2; clear hb2; obtain ⟨s0, s1, rfl⟩ : ∃ s0 s1, ss = [s0, s1] := (by have := hrs2.length; match ss, this with | [a, b], _ => exact ⟨a, b, rfl⟩); have HRS2 := Lib.hid hrs2; have HO2 := Lib.hid ho2; obtain ⟨A2, c2, rfl, hA2, _, _⟩ := rows_of_own encS_len (by omega) ho2; have HA2 := Lib.hid hA2; clear hrs2 ho2 hA2) | (go_at_call 29; refine (CC.out _ HB2.out).mono ?_; rintro e w3 ⟨rfl, hb3⟩; have HB3 := Lib.hid (HB2.out.trans (hb3.mono HB2.out.size)); have HA3 := Lib.hid (HA2.out.below hb3); have hrs3 := RsAt.mono (fun s r h => RowO.below h hb3) HRS2.out; clear hb3; obtain ⟨h0, h1, _⟩ := hrs3; obtain ⟨Ax, nx, cx⟩ := s0; obtain ⟨Ay, ny, cy⟩ := s1; obtain rfl : nx = 3 := (RowO.len h0).symm; obtain rfl : ny = 3 := (RowO.len h1).symm; obtain ⟨bA, offA, rfl, hbA, hcs⟩ := HA3.out (by simp); have t0 := hcs 0 (by simp) 0 (by omega); have t1 := hcs 1 (by simp) 0 (by omega); simp [encS] at t0 t1; clear hcs; obtain ⟨bB, offB, hBe, hbB, d0, d1, d2, d3⟩ := (RowO.rows h1).cell4 (j := 0) (by simp [R1]); simp only at hBe; subst hBe; simp [R1] at d0 d1 d2 d3; clear h0 h1 HA3 HA2 HRS2 HO2) | (go_at_call 30; refine (CH.out _ HB3.out).mono ?_; rintro e w4 ⟨rfl, hb4⟩; have HB4 := Lib.hid (HB3.out.trans (hb4.mono HB3.out.size)); clear hb4))
  go_ret
  exact ⟨rfl, HX1.out.trans (HB4.out.mono HX1.out.size)⟩
end Go.Proofs.Ytnlhpbnonmdkdaa
