/- The walk of a law on cursors, over any tree and of this program's trees. -/
import Derived.Test.YtbbplppcabeojaaSeekB
import Derived.Test.YtbbplppcabeojaaEq3
import Derived.Test.YtbbplppcabeojaaSeekOpens
import Derived.Test.YtbbplppcabeojaaTreeKQ
namespace Go.Proofs.Ytbbplppcabeojaa
open Go.RowKit
set_option maxHeartbeats 1000000 in
theorem citem_nil (w : World) : Calls Try.prog 24 #[.pointer none] w fun e w' => e = .returned (.tuple #[.agg #[.int .i64 0, .int .i64 0, .int .i64 0, .int .i64 0, .int .i64 0, .int .i64 0, .string ⟨#[]⟩], .bool false]) ∧ Below w.heap.size w w' := by
  go_enter Try.func24, Try.ntmps24
  go_wp2
  refine bodyPost_ret (v := .tuple #[.agg #[.int .i64 0, .int .i64 0, .int .i64 0, .int .i64 0, .int .i64 0, .int .i64 0, .string ⟨#[]⟩], .bool false]) (by simp [results, Try.results24, go_sem]) rfl ⟨rfl, (Below.refl _ _).alloc (Nat.le_refl _) _⟩
set_option maxHeartbeats 1000000 in
theorem cstart_nil (w : World) : Calls Try.prog 25 #[.pointer none] w fun e w' => e = .returned (.agg #[.int .i64 0, .int .i64 0, .int .i64 0, .int .i64 0, .int .i64 0, .int .i64 0]) ∧ Below w.heap.size w w' := by
  go_enter Try.func25, Try.ntmps25
  go_wp2
  refine bodyPost_ret (v := .agg #[.int .i64 0, .int .i64 0, .int .i64 0, .int .i64 0, .int .i64 0, .int .i64 0]) (by simp [results, Try.results25, go_sem]) rfl ⟨rfl, (Below.refl _ _).alloc (Nat.le_refl _) _⟩
theorem cto_nil (d v b : Int) (w : World) : Calls Try.prog 29 #[.pointer none, .int .i64 d, .int .i64 v, .int .i64 b] w fun e w' => e = .returned (.int .i64 7) ∧ Below w.heap.size w w' := by
  go_enter Try.func29, Try.ntmps29
  go_wp2
  go_ret
  exact ⟨rfl, Below.refl _ _⟩
set_option maxHeartbeats 1000000 in
theorem cnext_nil (w : World) : Calls Try.prog 27 #[.pointer none] w fun e w' => e = .returned (.bool false) ∧ Below w.heap.size w w' := by
  go_enter Try.func27, Try.ntmps27
  go_wp2_with fail
  refine (citem_nil _).mono ?_
  rintro e w1 ⟨rfl, hb1⟩
  have a1 := hb1.alloc hb1.size (.cells #[.int .i64 0, .int .i64 0, .int .i64 0, .int .i64 0, .int .i64 0, .int .i64 0, .string ⟨#[]⟩] 54)
  go_wp2
  go_ret
  exact ⟨rfl, a1⟩
set_option maxHeartbeats 1000000 in
theorem cback_nil (w : World) : Calls Try.prog 30 #[.pointer none] w fun e w' => e = .returned (.bool false) ∧ Below w.heap.size w w' := by
  have tf := fld_n6
  go_enter Try.func30, Try.ntmps30
  go_wp2_with fail
  refine (cstart_nil _).mono ?_
  rintro e w1 ⟨rfl, hb1⟩
  go_wp2
  go_ret
  exact ⟨rfl, hb1⟩
set_option maxHeartbeats 4000000 in
set_option maxRecDepth 100000 in
theorem cend_nil (w : World) : Calls Try.prog 26 #[.pointer none] w fun e w' => e = .returned (.agg #[.int .i64 0, .int .i64 0, .int .i64 0, .int .i64 0, .int .i64 0, .int .i64 0]) ∧ Below w.heap.size w w' := by
  have h0 : Below w.heap.size w (w.alloc (.cells (scs s0) 52)) := (Below.refl _ _).alloc (Nat.le_refl _) _
  have R0 := Lib.hid (show RawAt 52 (w.alloc (.cells (scs s0) 52)) w.heap.size (scs s0) from heap_alloc_new w _)
  obtain ⟨W0, hW0⟩ : ∃ W0, W0 = w.alloc (.cells (scs s0) 52) := ⟨_, rfl⟩
  rw [← hW0] at h0 R0
  unfold scs s0 at hW0
  go_enter Try.func26, Try.ntmps26
  go_wp2_with fail
  rw [← hW0]
  clear hW0
  refine (citem_nil _).mono ?_
  rintro e w1 ⟨rfl, hb1⟩
  have q1 := hb1.alloc hb1.size (.cells #[.int .i64 0, .int .i64 0, .int .i64 0, .int .i64 0, .int .i64 0, .int .i64 0, .string ⟨#[]⟩] 54)
  have a1 := h0.trans (q1.mono h0.size)
  go_wp2_with fail
  refine (cstart_nil _).mono ?_
  rintro e w2 ⟨rfl, hb2⟩
  have a2 := a1.trans (hb2.mono a1.size)
  have R2 := RawAt.below R0.out (q1.trans (hb2.mono q1.size)) (RawAt.lt R0.out)
  have y0 := RawAt.free R2 0
  have y1 := RawAt.free R2 1
  have y2 := RawAt.free R2 2
  have y3 := RawAt.free R2 3
  have y4 := RawAt.free R2 4
  have y5 := RawAt.free R2 5
  obtain ⟨z0, z1, z2, z3, z4, z5⟩ := raw_scs R2
  clear R2 R0 hb1 hb2 q1 a1 h0
  go_wp2
  refine bodyPost_ret (v := .agg #[.int .i64 0, .int .i64 0, .int .i64 0, .int .i64 0, .int .i64 0, .int .i64 0]) (by simp [results, Try.results26, go_sem, z0, z1, z2, z3, z4, z5]) rfl ⟨rfl, ?_⟩
  (repeat' (first | (with_reducible exact a2) | (with_reducible refine Below.setCell ?_ ?_ _) | (with_reducible refine Below.drew ?_))) <;> first | exact Nat.le_refl _ | (simp; done)
set_option maxHeartbeats 4000000 in
set_option maxRecDepth 100000 in
theorem ctake_nil (dim v : Int) (w : World) : Calls Try.prog 31 #[.pointer none, .int .i64 dim, .int .i64 v] w fun e w' => e = .returned (.slice none 0 0) ∧ Below w.heap.size w w' := by
  by_cases hd : 0 ≤ dim ∧ dim ≤ 3
  · obtain ⟨d1, d2⟩ := hd
    have g1 : ¬ dim < 0 := by omega
    have g2 : ¬ 3 < dim := by omega
    go_enter Try.func31, Try.ntmps31
    go_wp2
    go_step3
    go_wp2
    go_step3
    go_wp2
    go_loopg [7] 1 (fun g vv wr => vv = .slice none 0 0 ∧ 1 ≤ g ∧ Below w.heap.size w wr)
    case atStart => exact ⟨rfl, Nat.le_refl _, Below.refl _ _⟩
    case round =>
      obtain ⟨rfl, _, hb⟩ := hrel
      go_wp2_with fail
      refine (citem_nil _).mono ?_
      rintro e w1 ⟨rfl, hb1⟩
      have a1 := hb.trans (hb1.mono hb.size)
      have a2 := a1.alloc a1.size (.cells #[.int .i64 0, .int .i64 0, .int .i64 0, .int .i64 0, .int .i64 0, .int .i64 0, .string ⟨#[]⟩] 54)
      go_wp2
      rw [Exit.noGoto_ret]
      go_ret
      exact ⟨rfl, a2⟩
  · exact ctake_none dim v none hd w
section
variable {T : World → Addr → List I7 → Nat → Prop}
set_option maxHeartbeats 4000000 in
set_option maxRecDepth 100000 in
theorem seekNil_any (K : TreeQ T) (st : SS) (w : World) : Calls Try.prog 7 #[.agg (stcs st)] w fun e w' => e = .returned (.bool true) ∧ Below w.heap.size w w' := by
  have HEQ := eq3
  have T3 := Lib.hid fun (W : World) => third_yes K W
  obtain ⟨sk, sd, sv, sb⟩ := st
  unfold stcs
  go_enter Try.func7, Try.ntmps7
  go_wp2_with fail
  have h0 : Below w.heap.size w (w.alloc (.cells #[.int .i64 sk, .int .i64 sd, .int .i64 sv, .int .i64 sb] 46)) := (Below.refl _ _).alloc (Nat.le_refl _) _
  have R0 := Lib.hid (show RawAt 46 (w.alloc (.cells #[.int .i64 sk, .int .i64 sd, .int .i64 sv, .int .i64 sb] 46)) w.heap.size #[.int .i64 sk, .int .i64 sd, .int .i64 sv, .int .i64 sb] from heap_alloc_new w _)
  refine (citem_nil _).mono ?_
  rintro e w1 ⟨rfl, hb1⟩
  have a1 := h0.trans (hb1.mono h0.size)
  have R1 := RawAt.below R0.out hb1 (RawAt.lt R0.out)
  have hlt := RawAt.lt R1
  have r1 : w1.cell? ⟨w.heap.size, 1, none⟩ = some (.int .i64 sd) := RawAt.cell R1 1
  have r2 : w1.cell? ⟨w.heap.size, 2, none⟩ = some (.int .i64 sv) := RawAt.cell R1 2
  have r3 : w1.cell? ⟨w.heap.size, 3, none⟩ = some (.int .i64 sb) := RawAt.cell R1 3
  have q2 : Below w1.heap.size w1 (w1.alloc (.cells #[.int .i64 0, .int .i64 0, .int .i64 0, .int .i64 0, .int .i64 0, .int .i64 0, .string ⟨#[]⟩] 54)) := (Below.refl _ _).alloc (Nat.le_refl _) _
  have a2 := a1.trans (q2.mono a1.size)
  have R2 := Lib.hid (RawAt.below R1 q2 hlt)
  clear R1 h0 hb1
  go_wp2_with fail
  refine (cto_nil _ _ _ _).mono ?_
  rintro e w3 ⟨rfl, hb3⟩
  have a3 := a2.trans (hb3.mono a2.size)
  have R3 := Lib.hid (RawAt.below R2.out hb3 (RawAt.lt R2.out))
  clear r1 r2 r3 hlt q2
  go_wp2_with fail
  refine (cnext_nil _).mono ?_
  rintro e w4 ⟨rfl, hb4⟩
  have a4 := a3.trans (hb4.mono a3.size)
  have R4 := Lib.hid (RawAt.below R3.out hb4 (RawAt.lt R3.out))
  go_wp2_with fail
  refine (cback_nil _).mono ?_
  rintro e w5 ⟨rfl, hb5⟩
  have a5 := a4.trans (hb5.mono a4.size)
  have R5 := RawAt.below R4.out hb5 (RawAt.lt R4.out)
  have r1 : w5.cell? ⟨w.heap.size, 1, none⟩ = some (.int .i64 sd) := RawAt.cell R5 1
  have r2 : w5.cell? ⟨w.heap.size, 2, none⟩ = some (.int .i64 sv) := RawAt.cell R5 2
  clear R5
  go_wp2_with fail
  refine (ctake_nil _ _ _).mono ?_
  rintro e w6 ⟨rfl, hb6⟩
  have a6 := a5.trans (hb6.mono a5.size)
  clear r1 r2
  go_wp2_with fail
  refine (cstart_nil _).mono ?_
  rintro e w7 ⟨rfl, hb7⟩
  have a7 := a6.trans (hb7.mono a6.size)
  go_wp2_with fail
  refine (cend_nil _).mono ?_
  rintro e w8 ⟨rfl, hb8⟩
  have a8 := a7.trans (hb8.mono a7.size)
  go_wp2_with fail
  refine (T3.out _).mono ?_
  rintro e w9 ⟨rfl, hb9⟩
  go_wp2
  go_ret
  exact ⟨rfl, a8.trans (hb9.mono a8.size)⟩
end
theorem seekNil_walk (st : SS) (w : World) : Calls Try.prog 7 #[.agg (stcs st)] w fun e w' => e = .returned (.bool true) ∧ Below w.heap.size w w' := seekNil_any treeQ st w
end Go.Proofs.Ytbbplppcabeojaa
