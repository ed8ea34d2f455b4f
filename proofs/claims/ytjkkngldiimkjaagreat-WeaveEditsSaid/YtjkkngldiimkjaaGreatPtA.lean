/- Patches: the contracts of size, spans, nothing, Normal. -/
import Derived.Test.YtjkkngldiimkjaaGreatChg
namespace Go.Proofs.YtjkkngldiimkjaaGreat
open Go.RowKit
theorem bt {b : Bool} {P : Prop} (h : b = true ↔ P) (g : P) : true = b := (h.2 g).symm
theorem bf {b : Bool} {P : Prop} (h : b = true ↔ P) (g : ¬ P) : false = b := by cases b with | true => exact absurd (h.1 rfl) g | false => rfl
/-- A span's numbers may be. -/
def spOk (a b : Int) : Prop := 0 ≤ a ∧ a ≤ b ∧ b ≤ 1099511627776
instance (a b : Int) : Decidable (spOk a b) := by unfold spOk; infer_instance
set_option maxHeartbeats 2000000 in
theorem pspans_any (a b : Int) (w : World) (r : Bool) (hr : r = true ↔ spOk a b) : Calls Tryz.prog 136 #[.agg #[.int .i64 a, .int .i64 b]] w fun e w' => e = .returned (.bool r) ∧ Below w.heap.size w w' := by
  have HF := Lib.hid hr; clear hr
  by_cases g1 : 0 ≤ a
  · by_cases g2 : a ≤ b
    · by_cases g3 : b ≤ 1099511627776
      · have HX := Lib.hid (bt HF.out ⟨g1, g2, g3⟩)
        go_enter Tryz.func136, Tryz.ntmps136
        go_wp2
        go_ret
        exact ⟨ret_bool (by first | exact HX.out | simpa using HX.out), (Below.refl _ _).alloc (Nat.le_refl _) _⟩
      · have HX := Lib.hid (bf HF.out (fun h => g3 h.2.2))
        go_enter Tryz.func136, Tryz.ntmps136
        go_wp2
        go_ret
        exact ⟨ret_bool (by first | exact HX.out | exact (decide_eq_false (by omega)).trans HX.out), (Below.refl _ _).alloc (Nat.le_refl _) _⟩
    · have HX := Lib.hid (bf HF.out (fun h => g2 h.2.1))
      go_enter Tryz.func136, Tryz.ntmps136
      go_wp2
      go_ret
      exact ⟨ret_bool (by first | exact HX.out | exact (decide_eq_false (by omega)).trans HX.out), (Below.refl _ _).alloc (Nat.le_refl _) _⟩
  · have HX := Lib.hid (bf HF.out (fun h => g1 h.1))
    go_enter Tryz.func136, Tryz.ntmps136
    go_wp2
    go_ret
    exact ⟨ret_bool (by first | exact HX.out | exact (decide_eq_false (by omega)).trans HX.out), (Below.refl _ _).alloc (Nat.le_refl _) _⟩
set_option maxHeartbeats 2000000 in
theorem psize_any (a b : Int) (w : World) (h1 : -4000000000000 ≤ a) (h2 : a ≤ 4000000000000) (h3 : -4000000000000 ≤ b) (h4 : b ≤ 4000000000000) : Calls Tryz.prog 138 #[.agg #[.int .i64 a, .int .i64 b]] w fun e w' => e = .returned (.int .i64 (b - a)) ∧ Below w.heap.size w w' := by
  have w1 : IntKind.i64.wrap (b - a) = b - a := IntWalk.i64_in _ (by omega)
  go_enter Tryz.func138, Tryz.ntmps138
  go_wp2
  go_ret
  exact ⟨by simp, (Below.refl _ _).alloc (Nat.le_refl _) _⟩
theorem change_info : (Tryz.prog.info? 64).map (fun i => (i.zero, i.size, i.bytes)) = some (some (.agg #[.int .i64 0, .int .i64 0, .int .i64 0, .int .i64 0]), 4, 32) := by kernel_rfl
set_option maxHeartbeats 2000000 in
theorem pnothing_any (c : Ch) (w : World) (r : Bool) (h1 : spOk c.oa c.ob) (h2 : spOk c.na c.nb) (hr : r = true ↔ c.oa = c.ob ∧ c.na = c.nb) : Calls Tryz.prog 137 #[.agg #[.int .i64 c.oa, .int .i64 c.ob, .int .i64 c.na, .int .i64 c.nb]] w fun e w' => e = .returned (.bool r) ∧ Below w.heap.size w w' := by
  have HF := Lib.hid hr; clear hr
  obtain ⟨a, b, x, y⟩ := c
  dsimp only at *
  obtain ⟨a1, a2, a3⟩ := h1
  obtain ⟨b1, b2, b3⟩ := h2
  have CO := Lib.hid fun W => psize_any a b W (by omega) (by omega) (by omega) (by omega)
  have CN := Lib.hid fun W => psize_any x y W (by omega) (by omega) (by omega) (by omega)
  obtain ⟨z1, hz1⟩ : ∃ z, z = b - a := ⟨_, rfl⟩
  obtain ⟨z2, hz2⟩ : ∃ z, z = y - x := ⟨_, rfl⟩
  rw [← hz1] at CO
  rw [← hz2] at CN
  have x3 : Below w.heap.size w (w.alloc (.cells #[.int .i64 a, .int .i64 b, .int .i64 x, .int .i64 y] 64)) := (Below.refl _ _).alloc (Nat.le_refl _) _
  have R3 : RawAt 64 (w.alloc (.cells #[.int .i64 a, .int .i64 b, .int .i64 x, .int .i64 y] 64)) w.heap.size #[.int .i64 a, .int .i64 b, .int .i64 x, .int .i64 y] := heap_alloc_new w _
  have HR3 := Lib.hid R3
  clear R3
  by_cases g1 : a = b
  · obtain rfl : z1 = 0 := by omega
    by_cases g2 : x = y
    · have HX := Lib.hid (bt HF.out ⟨g1, g2⟩)
      obtain rfl : z2 = 0 := by omega
      clear g1 g2 hz1 hz2
      go_enter Tryz.func137, Tryz.ntmps137
      go_wp2_with fail
      refine (CO.out _).mono ?_
      rintro e w4 ⟨rfl, hb4⟩
      have R4 := RawAt.below HR3.out hb4 (RawAt.lt HR3.out)
      have q2 := RawAt.cell R4 2
      have q3 := RawAt.cell R4 3
      simp at q2 q3
      clear R4
      go_wp2_with fail
      refine (CN.out _).mono ?_
      rintro e w5 ⟨rfl, hb5⟩
      go_wp2
      go_ret
      exact ⟨ret_bool (by first | exact HX.out | exact (beq_eq_false_iff_ne.2 k2).trans HX.out | exact (beq_eq_false_iff_ne.2 k1).trans HX.out), (x3.trans (hb4.mono x3.size)).trans (hb5.mono (x3.trans (hb4.mono x3.size)).size)⟩
    · have HX := Lib.hid (bf HF.out (fun h => g2 h.2))
      have k2 : ¬ z2 = 0 := by omega
      clear g1 g2 hz1 hz2
      go_enter Tryz.func137, Tryz.ntmps137
      go_wp2_with fail
      refine (CO.out _).mono ?_
      rintro e w4 ⟨rfl, hb4⟩
      have R4 := RawAt.below HR3.out hb4 (RawAt.lt HR3.out)
      have q2 := RawAt.cell R4 2
      have q3 := RawAt.cell R4 3
      simp at q2 q3
      clear R4
      go_wp2_with fail
      refine (CN.out _).mono ?_
      rintro e w5 ⟨rfl, hb5⟩
      go_wp2
      go_ret
      exact ⟨ret_bool (by first | exact HX.out | exact (beq_eq_false_iff_ne.2 k2).trans HX.out | exact (beq_eq_false_iff_ne.2 k1).trans HX.out), (x3.trans (hb4.mono x3.size)).trans (hb5.mono (x3.trans (hb4.mono x3.size)).size)⟩
  · have HX := Lib.hid (bf HF.out (fun h => g1 h.1))
    have k1 : ¬ z1 = 0 := by omega
    clear g1 hz1 hz2
    go_enter Tryz.func137, Tryz.ntmps137
    go_wp2_with fail
    refine (CO.out _).mono ?_
    rintro e w4 ⟨rfl, hb4⟩
    have R4 := RawAt.below HR3.out hb4 (RawAt.lt HR3.out)
    have q2 := RawAt.cell R4 2
    have q3 := RawAt.cell R4 3
    simp at q2 q3
    clear R4
    go_wp2
    go_ret
    exact ⟨ret_bool (by first | exact HX.out | exact (decide_eq_false (by omega)).trans HX.out), x3.trans (hb4.mono x3.size)⟩
theorem raw4 {t : TypeId} {W : World} {b : Nat} {v0 v1 v2 v3 : Value} (h : RawAt t W b #[v0, v1, v2, v3]) : W.cell? ⟨b, 0, none⟩ = some v0 ∧ W.cell? ⟨b, 1, none⟩ = some v1 ∧ W.cell? ⟨b, 2, none⟩ = some v2 ∧ W.cell? ⟨b, 3, none⟩ = some v3 :=
  ⟨RawAt.cell h 0, RawAt.cell h 1, RawAt.cell h 2, RawAt.cell h 3⟩
/-- The patch's block that tells of the change ahead; what it says. -/
def M40 : Int := 1099511627776
set_option maxHeartbeats 8000000 in
set_option maxRecDepth 100000 in
theorem pNormal_any (A : Option Addr) (m cp : Nat) (l : List Ch) (w : World) (r : Bool) (hA : ChsAt w A l) (hl : l.length = m) (hm : m ≤ 1000000) (hr : r = true ↔ nrm M40 0 0 true l) :
    Calls Tryz.prog 87 #[.slice A m cp] w fun e w' => e = .returned (.bool r) ∧ Below w.heap.size w w' := by
  have HA := Lib.hid hA; clear hA
  have HL := Lib.hid hl; clear hl
  have HF := Lib.hid hr; clear hr
  have x0 : Below w.heap.size w (w.alloc (.cells #[.int .i64 0, .int .i64 0, .int .i64 0, .int .i64 0] 64)) := (Below.refl _ _).alloc (Nat.le_refl _) _
  have hR0 : RawAt 64 (w.alloc (.cells #[.int .i64 0, .int .i64 0, .int .i64 0, .int .i64 0] 64)) w.heap.size #[.int .i64 0, .int .i64 0, .int .i64 0, .int .i64 0] := heap_alloc_new w _
  have HR0 := Lib.hid hR0
  clear hR0
  obtain ⟨i0, hi0, hz0, hz1, hz2⟩ := info_parts change_info
  go_enter Tryz.func87, Tryz.ntmps87
  go_wp2_with fail
  go_loopg [9] m (fun g i wr => ∃ (j : Nat) (p : Ch), i = .int .i64 j ∧ j ≤ m ∧ m - j ≤ g ∧ Below w.heap.size w wr ∧ w.heap.size < wr.heap.size ∧ Hid (RawAt 64 wr w.heap.size (chcs p)) ∧ Hid (0 ≤ p.ob ∧ p.ob ≤ M40 ∧ 0 ≤ p.nb ∧ p.nb ≤ M40 ∧ (j = 0 → p.ob = 0)) ∧ Hid (nrm M40 0 0 true l ↔ nrm M40 p.ob p.nb (decide (j = 0)) (l.drop j)))
  case atStart => exact ⟨0, ⟨0, 0, 0, 0⟩, rfl, by omega, by omega, x0, by simp, HR0, Lib.hid ⟨by decide, by decide, by decide, by decide, fun _ => rfl⟩, Lib.hid (by simp)⟩
  case round =>
    obtain ⟨j, ⟨p0, pb, p1, pd⟩, rfl, h1, h2, hb, hwr, hold, hpb, hck⟩ := hrel
    by_cases hlt : j < m
    · have hjl : j < l.length := by rw [HL.out]; exact hlt
      obtain ⟨bA, off, rfl, hbA, d0, d1, d2, d3⟩ := (HA.out.below hb).at1 hjl
      have hst := hck.out
      rw [cth_drop hjl, nrm] at hst
      have HST := Lib.hid hst; clear hst hck
      generalize cth l j = c at *
      have i1 : (0 : Int) ≤ j := by omega
      have i2 : (j : Int) < m := by omega
      have x3 : Below wr.heap.size wr (wr.alloc (.cells #[.int .i64 c.oa, .int .i64 c.ob, .int .i64 c.na, .int .i64 c.nb] 64)) := (Below.refl _ _).alloc (Nat.le_refl _) _
      have hR3 : RawAt 64 (wr.alloc (.cells #[.int .i64 c.oa, .int .i64 c.ob, .int .i64 c.na, .int .i64 c.nb] 64)) wr.heap.size #[.int .i64 c.oa, .int .i64 c.ob, .int .i64 c.na, .int .i64 c.nb] := heap_alloc_new wr _
      have HR3 := Lib.hid hR3
      have HP3 := Lib.hid (RawAt.below hold.out x3 hwr)
      have a3 := hb.trans (x3.mono hb.size)
      have hsz3 : wr.heap.size < (wr.alloc (.cells #[.int .i64 c.oa, .int .i64 c.ob, .int .i64 c.na, .int .i64 c.nb] 64)).heap.size := by simp
      clear hR3
      obtain ⟨p0b, p1b, p2b, p3b, p4b⟩ := hpb.out
      by_cases o1 : spOk c.oa c.ob
      · have C1 := Lib.hid fun W => pspans_any c.oa c.ob W true ⟨fun _ => o1, fun _ => rfl⟩
        by_cases o2 : spOk c.na c.nb
        · have C2 := Lib.hid fun W => pspans_any c.na c.nb W true ⟨fun _ => o2, fun _ => rfl⟩
          by_cases o3 : c.oa = c.ob ∧ c.na = c.nb
          · have HX := Lib.hid (bf HF.out (fun h => (HST.out.1 h).1.2.2.2.2.2.2.1 o3))
            have C3 := Lib.hid fun W => pnothing_any c W true o1 o2 ⟨fun _ => o3, fun _ => rfl⟩
            clear o3
            go_wp2_with fail
            refine (C1.out _).mono ?_
            rintro e w4 ⟨rfl, hb4⟩
            have q4 := a3.trans (hb4.mono a3.size)
            have R4 := RawAt.below HR3.out hb4 (RawAt.lt HR3.out)
            have P4 := RawAt.below HP3.out hb4 (RawAt.lt HP3.out)
            obtain ⟨r0_4, r1_4, r2_4, r3_4⟩ := raw4 R4
            go_wp2_with fail
            refine (C2.out _).mono ?_
            rintro e w5 ⟨rfl, hb5⟩
            have q5 := q4.trans (hb5.mono q4.size)
            have R5 := RawAt.below R4 hb5 (RawAt.lt R4)
            have P5 := RawAt.below P4 hb5 (RawAt.lt P4)
            obtain ⟨r0_5, r1_5, r2_5, r3_5⟩ := raw4 R5
            go_wp2_with fail
            refine (C3.out _).mono ?_
            rintro e w6 ⟨rfl, hb6⟩
            have q6 := q5.trans (hb6.mono q5.size)
            have R6 := RawAt.below R5 hb6 (RawAt.lt R5)
            have P6 := RawAt.below P5 hb6 (RawAt.lt P5)
            obtain ⟨r0_6, r1_6, r2_6, r3_6⟩ := raw4 R6
            go_wp2
            go_ret
            exact ⟨ret_bool HX.out, q6⟩
          · have C3 := Lib.hid fun W => pnothing_any c W false o1 o2 ⟨fun h => absurd h (by decide), fun h => absurd h o3⟩
            have o1' := o1
            have o2' := o2
            obtain ⟨s1, s2, s3⟩ := o1'
            obtain ⟨s4, s5, s6⟩ := o2'
            unfold M40 at *
            obtain ⟨g1, hg1⟩ : ∃ g, g = c.oa - pb := ⟨_, rfl⟩
            obtain ⟨g2, hg2⟩ : ∃ g, g = c.na - pd := ⟨_, rfl⟩
            dsimp only at p0b p1b p2b p3b p4b HST
            have w1 : IntKind.i64.wrap (c.oa - pb) = g1 := by rw [hg1]; exact IntWalk.i64_in _ (by omega)
            have w2 : IntKind.i64.wrap (c.na - pd) = g2 := by rw [hg2]; exact IntWalk.i64_in _ (by omega)
            by_cases e1 : g1 = g2
            · subst e1
              by_cases e2 : 0 < j ∧ g1 < 1
              · have HX := Lib.hid (bf HF.out (fun h => by have := (HST.out.1 h).1.2.2.2.2.2.2.2.2.2 (decide_eq_false (by omega)); omega))
                have k3 : decide ((0 : Int) < j) = true := decide_eq_true (by omega)
                have k4 : decide (c.oa - pb < 1) = true := decide_eq_true (by omega)
                go_wp2_with fail
                refine (C1.out _).mono ?_
                rintro e w4 ⟨rfl, hb4⟩
                have q4 := a3.trans (hb4.mono a3.size)
                have R4 := RawAt.below HR3.out hb4 (RawAt.lt HR3.out)
                have P4 := RawAt.below HP3.out hb4 (RawAt.lt HP3.out)
                obtain ⟨r0_4, r1_4, r2_4, r3_4⟩ := raw4 R4
                go_wp2_with fail
                refine (C2.out _).mono ?_
                rintro e w5 ⟨rfl, hb5⟩
                have q5 := q4.trans (hb5.mono q4.size)
                have R5 := RawAt.below R4 hb5 (RawAt.lt R4)
                have P5 := RawAt.below P4 hb5 (RawAt.lt P4)
                obtain ⟨r0_5, r1_5, r2_5, r3_5⟩ := raw4 R5
                go_wp2_with fail
                refine (C3.out _).mono ?_
                rintro e w6 ⟨rfl, hb6⟩
                have q6 := q5.trans (hb6.mono q5.size)
                have R6 := RawAt.below R5 hb6 (RawAt.lt R5)
                have P6 := RawAt.below P5 hb6 (RawAt.lt P5)
                obtain ⟨r0_6, r1_6, r2_6, r3_6⟩ := raw4 R6
                obtain ⟨y0, y1, y2, y3⟩ := raw4 P6
                go_wp2
                go_ret
                exact ⟨ret_bool HX.out, q6⟩
              · have HN := Lib.hid (show nrm 1099511627776 0 0 true l ↔ nrm 1099511627776 c.ob c.nb (decide (j + 1 = 0)) (l.drop (j + 1)) from by
                  rw [HST.out, decide_eq_false (show ¬ (j + 1 = 0) by omega)]
                  exact ⟨fun h => h.2, fun h => ⟨⟨s1, s2, s3, s4, s5, s6, o3, by omega, by rcases Nat.eq_zero_or_pos j with hj0 | hj0; (have := p4b hj0; omega); omega, fun hf => by have := of_decide_eq_false hf; omega⟩, h⟩⟩)
                go_wp2_with fail
                refine (C1.out _).mono ?_
                rintro e w4 ⟨rfl, hb4⟩
                have q4 := a3.trans (hb4.mono a3.size)
                have R4 := RawAt.below HR3.out hb4 (RawAt.lt HR3.out)
                have P4 := RawAt.below HP3.out hb4 (RawAt.lt HP3.out)
                obtain ⟨r0_4, r1_4, r2_4, r3_4⟩ := raw4 R4
                go_wp2_with fail
                refine (C2.out _).mono ?_
                rintro e w5 ⟨rfl, hb5⟩
                have q5 := q4.trans (hb5.mono q4.size)
                have R5 := RawAt.below R4 hb5 (RawAt.lt R4)
                have P5 := RawAt.below P4 hb5 (RawAt.lt P4)
                obtain ⟨r0_5, r1_5, r2_5, r3_5⟩ := raw4 R5
                go_wp2_with fail
                refine (C3.out _).mono ?_
                rintro e w6 ⟨rfl, hb6⟩
                have q6 := q5.trans (hb6.mono q5.size)
                have R6 := RawAt.below R5 hb6 (RawAt.lt R5)
                have P6 := RawAt.below P5 hb6 (RawAt.lt P5)
                obtain ⟨r0_6, r1_6, r2_6, r3_6⟩ := raw4 R6
                obtain ⟨y0, y1, y2, y3⟩ := raw4 P6
                have f0 := RawAt.free P6 0
                have f1 := RawAt.free P6 1
                have f2 := RawAt.free P6 2
                have f3 := RawAt.free P6 3
                go_wp2
                all_goals first
                  | (exfalso; omega)
                  | (go_roundg (gk - 1)
                     case measure => omega
                     case rel => exact ⟨j + 1, c, by go_num, by omega, by omega, (((q6.setCell (p := ⟨w.heap.size, _, none⟩) (Nat.le_refl _) _).setCell (p := ⟨w.heap.size, _, none⟩) (Nat.le_refl _) _).setCell (p := ⟨w.heap.size, _, none⟩) (Nat.le_refl _) _).setCell (p := ⟨w.heap.size, _, none⟩) (Nat.le_refl _) _, RawAt.lt ((((P6.set_ 0 _).set_ 1 _).set_ 2 _).set_ 3 _), Lib.hid (((((P6.set_ 0 (.int .i64 c.oa)).set_ 1 (.int .i64 c.ob)).set_ 2 (.int .i64 c.na)).set_ 3 (.int .i64 c.nb)).of_eq (by simp [chcs])), Lib.hid ⟨by omega, by omega, by omega, by omega, fun h => by omega⟩, HN⟩)
            · have HX := Lib.hid (bf HF.out (fun h => by have := (HST.out.1 h).1.2.2.2.2.2.2.2.1; omega))
              go_wp2_with fail
              refine (C1.out _).mono ?_
              rintro e w4 ⟨rfl, hb4⟩
              have q4 := a3.trans (hb4.mono a3.size)
              have R4 := RawAt.below HR3.out hb4 (RawAt.lt HR3.out)
              have P4 := RawAt.below HP3.out hb4 (RawAt.lt HP3.out)
              obtain ⟨r0_4, r1_4, r2_4, r3_4⟩ := raw4 R4
              go_wp2_with fail
              refine (C2.out _).mono ?_
              rintro e w5 ⟨rfl, hb5⟩
              have q5 := q4.trans (hb5.mono q4.size)
              have R5 := RawAt.below R4 hb5 (RawAt.lt R4)
              have P5 := RawAt.below P4 hb5 (RawAt.lt P4)
              obtain ⟨r0_5, r1_5, r2_5, r3_5⟩ := raw4 R5
              go_wp2_with fail
              refine (C3.out _).mono ?_
              rintro e w6 ⟨rfl, hb6⟩
              have q6 := q5.trans (hb6.mono q5.size)
              have R6 := RawAt.below R5 hb6 (RawAt.lt R5)
              have P6 := RawAt.below P5 hb6 (RawAt.lt P5)
              obtain ⟨r0_6, r1_6, r2_6, r3_6⟩ := raw4 R6
              obtain ⟨y0, y1, y2, y3⟩ := raw4 P6
              go_wp2
              go_ret
              exact ⟨ret_bool HX.out, q6⟩
        · have HX := Lib.hid (bf HF.out (fun h => o2 ⟨(HST.out.1 h).1.2.2.2.1, (HST.out.1 h).1.2.2.2.2.1, (HST.out.1 h).1.2.2.2.2.2.1⟩))
          have C2 := Lib.hid fun W => pspans_any c.na c.nb W false ⟨fun h => absurd h (by decide), fun h => absurd h o2⟩
          go_wp2_with fail
          refine (C1.out _).mono ?_
          rintro e w4 ⟨rfl, hb4⟩
          have q4 := a3.trans (hb4.mono a3.size)
          have R4 := RawAt.below HR3.out hb4 (RawAt.lt HR3.out)
          have P4 := RawAt.below HP3.out hb4 (RawAt.lt HP3.out)
          obtain ⟨r0_4, r1_4, r2_4, r3_4⟩ := raw4 R4
          go_wp2_with fail
          refine (C2.out _).mono ?_
          rintro e w5 ⟨rfl, hb5⟩
          have q5 := q4.trans (hb5.mono q4.size)
          have R5 := RawAt.below R4 hb5 (RawAt.lt R4)
          have P5 := RawAt.below P4 hb5 (RawAt.lt P4)
          obtain ⟨r0_5, r1_5, r2_5, r3_5⟩ := raw4 R5
          go_wp2
          go_ret
          exact ⟨ret_bool HX.out, q5⟩
      · have HX := Lib.hid (bf HF.out (fun h => o1 ⟨(HST.out.1 h).1.1, (HST.out.1 h).1.2.1, (HST.out.1 h).1.2.2.1⟩))
        have C1 := Lib.hid fun W => pspans_any c.oa c.ob W false ⟨fun h => absurd h (by decide), fun h => absurd h o1⟩
        go_wp2_with fail
        refine (C1.out _).mono ?_
        rintro e w4 ⟨rfl, hb4⟩
        have q4 := a3.trans (hb4.mono a3.size)
        have R4 := RawAt.below HR3.out hb4 (RawAt.lt HR3.out)
        have P4 := RawAt.below HP3.out hb4 (RawAt.lt HP3.out)
        obtain ⟨r0_4, r1_4, r2_4, r3_4⟩ := raw4 R4
        go_wp2
        go_ret
        exact ⟨ret_bool HX.out, q4⟩
    · have hj : j = m := by omega
      have hst := hck.out
      rw [List.drop_of_length_le (by rw [HL.out]; omega), nrm] at hst
      have HX := Lib.hid (bt HF.out (hst.2 trivial))
      go_wp2
      go_ret
      exact ⟨ret_bool HX.out, hb⟩
end Go.Proofs.YtjkkngldiimkjaaGreat
