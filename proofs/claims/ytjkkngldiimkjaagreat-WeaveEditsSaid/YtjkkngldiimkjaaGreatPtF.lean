/- Patches: the contract of the document's Normal. -/
import Derived.Test.YtjkkngldiimkjaaGreatPtC
namespace Go.Proofs.YtjkkngldiimkjaaGreat
open Go.RowKit
set_option maxHeartbeats 8000000 in
set_option maxRecDepth 100000 in
theorem rNormal_any (A : Option Addr) (m cp : Nat) (l : List Ch) (w : World) (r : Bool) (hA : ChsAt w A l) (hl : l.length = m) (hm : m ≤ 1000000) (hr : r = true ↔ nrm M40 0 0 true l) :
    Calls Tryz.prog 91 #[.slice A m cp] w fun e w' => e = .returned (.bool r) ∧ Below w.heap.size w w' := by
  have HA := Lib.hid hA; clear hA
  have HL := Lib.hid hl; clear hl
  have HF := Lib.hid hr; clear hr
  obtain ⟨i0, hi0, hz0, hz1, hz2⟩ := info_parts rchange_info
  go_enter Tryz.func91, Tryz.ntmps91
  go_wp2_with fail
  go_loopg [9] m (fun g i wr => ∃ (j : Nat) (p : Ch), i = .int .i64 j ∧ j ≤ m ∧ m - j ≤ g ∧ Below w.heap.size w wr ∧ Hid (p = if j = 0 then ⟨0, 0, 0, 0⟩ else cth l (j - 1)) ∧ Hid (0 ≤ p.ob ∧ p.ob ≤ M40 ∧ 0 ≤ p.nb ∧ p.nb ≤ M40) ∧ Hid (nrm M40 0 0 true l ↔ nrm M40 p.ob p.nb (decide (j = 0)) (l.drop j)))
  case atStart => exact ⟨0, ⟨0, 0, 0, 0⟩, rfl, by omega, by omega, Below.refl _ _, Lib.hid rfl, Lib.hid ⟨by decide, by decide, by decide, by decide⟩, Lib.hid (by simp)⟩
  case round =>
    obtain ⟨j, d, rfl, h1, h2, hb, hd, hpb, hck⟩ := hrel
    by_cases hlt : j < m
    · have hjl : j < l.length := by rw [HL.out]; exact hlt
      obtain ⟨bA, off, rfl, hbA, hcell⟩ := HA.out.below hb (by omega)
      obtain ⟨d0, d1, d2, d3⟩ := hcell j hjl
      have hprev : 0 < j → wr.cell? ⟨bA, off + (j - 1) * 4, none⟩ = some (.int .i64 d.oa) ∧ wr.cell? ⟨bA, off + (j - 1) * 4 + 1, none⟩ = some (.int .i64 d.ob) ∧ wr.cell? ⟨bA, off + (j - 1) * 4 + 2, none⟩ = some (.int .i64 d.na) ∧ wr.cell? ⟨bA, off + (j - 1) * 4 + 3, none⟩ = some (.int .i64 d.nb) := fun hj => by
        have := hcell (j - 1) (by omega)
        rw [hd.out, if_neg (by omega)]
        exact this
      have hzero : j = 0 → d = ⟨0, 0, 0, 0⟩ := fun hj => by rw [hd.out, if_pos hj]
      have HP := Lib.hid hprev
      have HZR := Lib.hid hzero
      have hst := hck.out
      rw [cth_drop hjl, nrm] at hst
      have HST := Lib.hid hst
      have hcj : cth l j = cth l j := rfl
      obtain ⟨c, hc⟩ : ∃ c, c = cth l j := ⟨_, rfl⟩
      rw [← hc] at d0 d1 d2 d3 HST
      have HC := Lib.hid hc
      clear hst hck hcell hprev hzero hc hcj hd
      have i1 : (0 : Int) ≤ j := by omega
      have i2 : (j : Int) < m := by omega
      have x3 : Below wr.heap.size wr (wr.alloc (.cells #[.int .i64 c.oa, .int .i64 c.ob, .int .i64 c.na, .int .i64 c.nb] 68)) := (Below.refl _ _).alloc (Nat.le_refl _) _
      have hR3 : RawAt 68 (wr.alloc (.cells #[.int .i64 c.oa, .int .i64 c.ob, .int .i64 c.na, .int .i64 c.nb] 68)) wr.heap.size #[.int .i64 c.oa, .int .i64 c.ob, .int .i64 c.na, .int .i64 c.nb] := heap_alloc_new wr _
      have HR3 := Lib.hid hR3
      clear hR3
      obtain ⟨p0b, p1b, p2b, p3b⟩ := hpb.out
      by_cases o1 : spOk c.oa c.ob
      · have C1 := Lib.hid fun W => rspan_any c.oa c.ob W true ⟨fun _ => o1, fun _ => rfl⟩
        by_cases o2 : spOk c.na c.nb
        · have C2 := Lib.hid fun W => rspan_any c.na c.nb W true ⟨fun _ => o2, fun _ => rfl⟩
          by_cases o3 : c.oa = c.ob ∧ c.na = c.nb
          · have HX := Lib.hid (bf HF.out (fun h => (HST.out.1 h).1.2.2.2.2.2.2.1 o3))
            obtain ⟨o3, o4⟩ := o3
            have t1 : (c.oa == c.ob) = true := beq_iff_eq.2 o3
            have t2 : (c.na == c.nb) = true := beq_iff_eq.2 o4
            clear o3 o4
            go_wp2_with fail
            refine (C1.out _).mono ?_
            rintro e w4 ⟨rfl, hb4⟩
            have x4 := x3.trans (hb4.mono x3.size)
            have q4 := hb.trans (x4.mono hb.size)
            have R4 := RawAt.below HR3.out hb4 (RawAt.lt HR3.out)
            obtain ⟨r0_4, r1_4, r2_4, r3_4⟩ := raw4 R4
            go_wp2_with fail
            refine (C2.out _).mono ?_
            rintro e w5 ⟨rfl, hb5⟩
            have x5 := x4.trans (hb5.mono x4.size)
            have q5 := hb.trans (x5.mono hb.size)
            have R5 := RawAt.below R4 hb5 (RawAt.lt R4)
            obtain ⟨r0_5, r1_5, r2_5, r3_5⟩ := raw4 R5
            go_wp2
            go_ret
            exact ⟨ret_bool HX.out, q5⟩
          · have o1' := o1
            have o2' := o2
            obtain ⟨s1, s2, s3⟩ := o1'
            obtain ⟨s4, s5, s6⟩ := o2'
            unfold M40 at *
            have w1 : IntKind.i64.wrap (c.oa - d.ob) = c.oa - d.ob := IntWalk.i64_in _ (by omega)
            have w2 : IntKind.i64.wrap (c.na - d.nb) = c.na - d.nb := IntWalk.i64_in _ (by omega)
            have o3' : (c.oa == c.ob) = false ∨ ((c.oa == c.ob) = true ∧ (c.na == c.nb) = false) := by
              rcases Bool.eq_false_or_eq_true (c.oa == c.ob) with t | t
              · exact .inr ⟨t, by rw [beq_eq_false_iff_ne]; exact fun h => o3 ⟨beq_iff_eq.1 t, h⟩⟩
              · exact .inl t
            have fin : (nrm 1099511627776 0 0 true l → 0 ≤ c.oa - d.ob ∧ c.oa - d.ob = c.na - d.nb ∧ (0 < j → 1 ≤ c.oa - d.ob)) ∧ ((0 ≤ c.oa - d.ob ∧ c.oa - d.ob = c.na - d.nb ∧ (0 < j → 1 ≤ c.oa - d.ob)) → (nrm 1099511627776 0 0 true l ↔ nrm 1099511627776 c.ob c.nb (decide (j + 1 = 0)) (l.drop (j + 1)))) := by
              refine ⟨fun h => ?_, fun hg => ?_⟩
              · obtain ⟨⟨_, _, _, _, _, _, _, g8, g9, g10⟩, _⟩ := HST.out.1 h
                exact ⟨g9, g8, fun hj => g10 (decide_eq_false (by omega))⟩
              · rw [HST.out, decide_eq_false (show ¬ (j + 1 = 0) by omega)]
                exact ⟨fun h => h.2, fun h => ⟨⟨s1, s2, s3, s4, s5, s6, o3, hg.2.1, hg.1, fun hf => hg.2.2 (by have := of_decide_eq_false hf; omega)⟩, h⟩⟩
            have HFIN := Lib.hid fin
            clear fin o3
            by_cases hj0 : j = 0
            · rcases o3' with t1 | ⟨t1, t2⟩
              all_goals
                subst hj0
                obtain rfl := HZR.out rfl
                simp only [Nat.zero_mul, Nat.add_zero] at d0 d1 d2 d3
                dsimp only at *
                go_wp2_with fail
                refine (C1.out _).mono ?_
                rintro e w4 ⟨rfl, hb4⟩
                have x4 := x3.trans (hb4.mono x3.size)
                have q4 := hb.trans (x4.mono hb.size)
                have R4 := RawAt.below HR3.out hb4 (RawAt.lt HR3.out)
                obtain ⟨r0_4, r1_4, r2_4, r3_4⟩ := raw4 R4
                go_wp2_with fail
                refine (C2.out _).mono ?_
                rintro e w5 ⟨rfl, hb5⟩
                have x5 := x4.trans (hb5.mono x4.size)
                have q5 := hb.trans (x5.mono hb.size)
                have R5 := RawAt.below R4 hb5 (RawAt.lt R4)
                obtain ⟨r0_5, r1_5, r2_5, r3_5⟩ := raw4 R5
                have R6 : RawAt 68 (w5.alloc (.cells #[.int .i64 0, .int .i64 0, .int .i64 0, .int .i64 0] 68)) wr.heap.size #[.int .i64 c.oa, .int .i64 c.ob, .int .i64 c.na, .int .i64 c.nb] := RawAt.below R5 ((Below.refl _ _).alloc (Nat.le_refl _) _) (RawAt.lt R5)
                have Z6 : RawAt 68 (w5.alloc (.cells #[.int .i64 0, .int .i64 0, .int .i64 0, .int .i64 0] 68)) w5.heap.size #[.int .i64 0, .int .i64 0, .int .i64 0, .int .i64 0] := heap_alloc_new w5 _
                have x6 : Below wr.heap.size wr (w5.alloc (.cells #[.int .i64 0, .int .i64 0, .int .i64 0, .int .i64 0] 68)) := x5.alloc x5.size _
                have q6 := hb.trans (x6.mono hb.size)
                have hne : wr.heap.size ≠ w5.heap.size := Nat.ne_of_lt (RawAt.lt R5)
                obtain ⟨r0_6, r1_6, r2_6, r3_6⟩ := raw4 R6
                obtain ⟨z0_6, z1_6, z2_6, z3_6⟩ := raw4 Z6
                have ge : 0 ≤ c.oa - 0 := by omega
                have k1 : decide (c.oa - 0 < 0) = false := decide_eq_false (by omega)
                rw [Int.sub_zero] at k1 w1
                rw [Int.sub_zero] at w2
                by_cases g2 : c.oa = c.na
                · have HNX := Lib.hid (HFIN.out.2 ⟨by omega, by omega, fun h => absurd h (by omega)⟩)
                  have BD : Hid (0 ≤ c.ob ∧ c.ob ≤ M40 ∧ 0 ≤ c.nb ∧ c.nb ≤ M40) := Lib.hid ⟨by omega, by unfold M40; omega, by omega, by unfold M40; omega⟩
                  have k2 : (c.oa == c.na) = true := beq_iff_eq.2 g2
                  have k2' : (c.oa != c.na) = false := by simp [g2]
                  clear g2 HFIN ge hpb HR3 x3 x4 x5 hb HST HP HZR p0b p1b p2b p3b s1 s2 s3 s4 s5 s6 o1 o2 C1 C2 hbA d0 d1 d2 d3 R4 R5 R6 Z6 x6 hne
                  go_wp2
                  go_roundg (gk - 1)
                  case measure => omega
                  case rel => exact ⟨0 + 1, c, by go_num, by omega, by omega, q6, Lib.hid HC.out, BD, Lib.hid HNX.out⟩
                · have HX := Lib.hid (bf HF.out (fun h => by have := (HFIN.out.1 h).2.1; omega))
                  have k2 : (c.oa == c.na) = false := by simp [g2]
                  have k2' : (c.oa != c.na) = true := by simp [g2]
                  clear HFIN ge hpb HR3 x3 x4 x5 hb HST HP HZR p0b p1b p2b p3b s1 s2 s3 s4 s5 s6 o1 o2 C1 C2 hbA d0 d1 d2 d3 R4 R5 R6 Z6 x6 hne HC
                  go_wp2
                  go_ret
                  exact ⟨ret_bool HX.out, q6⟩
            · rcases o3' with t1 | ⟨t1, t2⟩
              all_goals
                have hjp : 0 < j := by omega
                obtain ⟨e0, e1, e2, e3⟩ := HP.out hjp
                obtain ⟨k, rfl⟩ : ∃ k, j = k + 1 := ⟨j - 1, by omega⟩
                rw [Nat.add_sub_cancel] at e0 e1 e2 e3
                go_wp2_with fail
                refine (C1.out _).mono ?_
                rintro e w4 ⟨rfl, hb4⟩
                have x4 := x3.trans (hb4.mono x3.size)
                have q4 := hb.trans (x4.mono hb.size)
                have R4 := RawAt.below HR3.out hb4 (RawAt.lt HR3.out)
                obtain ⟨r0_4, r1_4, r2_4, r3_4⟩ := raw4 R4
                go_wp2_with fail
                refine (C2.out _).mono ?_
                rintro e w5 ⟨rfl, hb5⟩
                have x5 := x4.trans (hb5.mono x4.size)
                have q5 := hb.trans (x5.mono hb.size)
                have R5 := RawAt.below R4 hb5 (RawAt.lt R4)
                obtain ⟨r0_5, r1_5, r2_5, r3_5⟩ := raw4 R5
                have R6 : RawAt 68 (w5.alloc (.cells #[.int .i64 0, .int .i64 0, .int .i64 0, .int .i64 0] 68)) wr.heap.size #[.int .i64 c.oa, .int .i64 c.ob, .int .i64 c.na, .int .i64 c.nb] := RawAt.below R5 ((Below.refl _ _).alloc (Nat.le_refl _) _) (RawAt.lt R5)
                have Z6 : RawAt 68 (w5.alloc (.cells #[.int .i64 0, .int .i64 0, .int .i64 0, .int .i64 0] 68)) w5.heap.size #[.int .i64 0, .int .i64 0, .int .i64 0, .int .i64 0] := heap_alloc_new w5 _
                have x6 : Below wr.heap.size wr (w5.alloc (.cells #[.int .i64 0, .int .i64 0, .int .i64 0, .int .i64 0] 68)) := x5.alloc x5.size _
                have q6 := hb.trans (x6.mono hb.size)
                have hne : wr.heap.size ≠ w5.heap.size := Nat.ne_of_lt (RawAt.lt R5)
                have f0 := RawAt.free Z6 0
                have f1 := RawAt.free Z6 1
                have f2 := RawAt.free Z6 2
                have f3 := RawAt.free Z6 3
                have R7 : RawAt 68 ((w5.alloc (.cells #[.int .i64 d.oa, .int .i64 d.ob, .int .i64 d.na, .int .i64 d.nb] 68))) wr.heap.size #[.int .i64 c.oa, .int .i64 c.ob, .int .i64 c.na, .int .i64 c.nb] := RawAt.below R5 ((Below.refl _ _).alloc (Nat.le_refl _) _) (RawAt.lt R5)
                have Z7 : RawAt 68 ((w5.alloc (.cells #[.int .i64 d.oa, .int .i64 d.ob, .int .i64 d.na, .int .i64 d.nb] 68))) w5.heap.size #[.int .i64 d.oa, .int .i64 d.ob, .int .i64 d.na, .int .i64 d.nb] := heap_alloc_new w5 _
                have q7 : Below w.heap.size w ((w5.alloc (.cells #[.int .i64 d.oa, .int .i64 d.ob, .int .i64 d.na, .int .i64 d.nb] 68))) := hb.trans ((x5.alloc x5.size _).mono hb.size)
                obtain ⟨r0_7, r1_7, r2_7, r3_7⟩ := raw4 R7
                obtain ⟨z0_7, z1_7, z2_7, z3_7⟩ := raw4 Z7
                have D6 := (old_cells x6).1
                have e0_6 := (D6 _ _ hbA).trans e0
                have e1_6 := (D6 _ _ hbA).trans e1
                have e2_6 := (D6 _ _ hbA).trans e2
                have e3_6 := (D6 _ _ hbA).trans e3
                clear D6
                obtain ⟨ge, hge⟩ : ∃ ge, ge = c.oa - d.ob := ⟨_, rfl⟩
                obtain ⟨gn, hgn⟩ : ∃ gn, gn = c.na - d.nb := ⟨_, rfl⟩
                rw [← hge, ← hgn] at HFIN
                clear w1 w2
                have w1 : IntKind.i64.wrap (c.oa - d.ob) = ge := by rw [hge]; exact IntWalk.i64_in _ (by omega)
                have w2 : IntKind.i64.wrap (c.na - d.nb) = gn := by rw [hgn]; exact IntWalk.i64_in _ (by omega)
                have BD : Hid (0 ≤ c.ob ∧ c.ob ≤ M40 ∧ 0 ≤ c.nb ∧ c.nb ≤ M40) := Lib.hid ⟨by omega, by unfold M40; omega, by omega, by unfold M40; omega⟩
                have HGE := Lib.hid hge
                have HGN := Lib.hid hgn
                have kj : (0 : Int) < (k : Int) + 1 := by omega
                clear hge hgn hpb HR3 hb HST HP HZR p0b p1b p2b p3b s1 s2 s3 s4 s5 s6 o1 o2 C1 C2 R4 R5 R6 Z6 R7 Z7 x4 x5 q4 q5 x6 hne r0_4 r1_4 r2_4 r3_4 d0 d1 d2 d3
                go_upto_region 9 with fail
                generalize (w5.alloc (.cells #[.int .i64 d.oa, .int .i64 d.ob, .int .i64 d.na, .int .i64 d.nb] 68)) = WW at *
                clear f0 f1 f2 f3 q6 hb4 hb5 x3 e0 e1 e2 e3 hbA
                by_cases g1 : ge < 0
                · have HX := Lib.hid (bf HF.out (fun h => by have := (HFIN.out.1 h).1; omega))
                  have k1 : decide (ge < 0) = true := decide_eq_true g1
                  clear HFIN BD HC
                  go_wp2
                  go_ret
                  exact ⟨ret_bool HX.out, q7⟩
                · have k1 : decide (ge < 0) = false := decide_eq_false g1
                  by_cases g2 : ge = gn
                  · have k2 : (ge == gn) = true := beq_iff_eq.2 g2
                    have k2' : (ge != gn) = false := by simp [g2]
                    have k3 : decide ((0 : Int) < (k : Int) + 1) = true := decide_eq_true kj
                    by_cases g3 : ge = 0
                    · have HX := Lib.hid (bf HF.out (fun h => by have := (HFIN.out.1 h).2.2 (by omega); omega))
                      have k4 : (ge == 0) = true := beq_iff_eq.2 g3
                      clear HFIN BD HC g2 g3
                      go_wp2
                      go_ret
                      exact ⟨ret_bool HX.out, q7⟩
                    · have HNX := Lib.hid (HFIN.out.2 ⟨by omega, g2, fun _ => by omega⟩)
                      have k4 : (ge == 0) = false := by simp [g3]
                      clear HFIN g2
                      go_wp2
                      go_roundg (gk - 1)
                      case measure => omega
                      case rel => exact ⟨k + 1 + 1, c, by go_num, by omega, by omega, q7, Lib.hid (by rw [if_neg (by omega)]; exact HC.out), BD, Lib.hid HNX.out⟩
                  · have HX := Lib.hid (bf HF.out (fun h => by have := (HFIN.out.1 h).2.1; omega))
                    have k2 : (ge == gn) = false := by simp [g2]
                    have k2' : (ge != gn) = true := by simp [g2]
                    clear HFIN BD HC
                    go_wp2
                    go_ret
                    exact ⟨ret_bool HX.out, q7⟩
        · have HX := Lib.hid (bf HF.out (fun h => o2 ⟨(HST.out.1 h).1.2.2.2.1, (HST.out.1 h).1.2.2.2.2.1, (HST.out.1 h).1.2.2.2.2.2.1⟩))
          have C2 := Lib.hid fun W => rspan_any c.na c.nb W false ⟨fun h => absurd h (by decide), fun h => absurd h o2⟩
          go_wp2_with fail
          refine (C1.out _).mono ?_
          rintro e w4 ⟨rfl, hb4⟩
          have x4 := x3.trans (hb4.mono x3.size)
          have q4 := hb.trans (x4.mono hb.size)
          have R4 := RawAt.below HR3.out hb4 (RawAt.lt HR3.out)
          obtain ⟨r0_4, r1_4, r2_4, r3_4⟩ := raw4 R4
          go_wp2_with fail
          refine (C2.out _).mono ?_
          rintro e w5 ⟨rfl, hb5⟩
          have x5 := x4.trans (hb5.mono x4.size)
          have q5 := hb.trans (x5.mono hb.size)
          have R5 := RawAt.below R4 hb5 (RawAt.lt R4)
          obtain ⟨r0_5, r1_5, r2_5, r3_5⟩ := raw4 R5
          go_wp2
          go_ret
          exact ⟨ret_bool HX.out, q5⟩
      · have HX := Lib.hid (bf HF.out (fun h => o1 ⟨(HST.out.1 h).1.1, (HST.out.1 h).1.2.1, (HST.out.1 h).1.2.2.1⟩))
        have C1 := Lib.hid fun W => rspan_any c.oa c.ob W false ⟨fun h => absurd h (by decide), fun h => absurd h o1⟩
        go_wp2_with fail
        refine (C1.out _).mono ?_
        rintro e w4 ⟨rfl, hb4⟩
        have x4 := x3.trans (hb4.mono x3.size)
        have q4 := hb.trans (x4.mono hb.size)
        have R4 := RawAt.below HR3.out hb4 (RawAt.lt HR3.out)
        obtain ⟨r0_4, r1_4, r2_4, r3_4⟩ := raw4 R4
        go_wp2
        go_ret
        exact ⟨ret_bool HX.out, q4⟩
    · have hj : j = m := by omega
      have hst := hck.out
      rw [List.drop_of_length_le (by rw [HL.out]; omega), nrm] at hst
      have HX := Lib.hid (bt HF.out (hst.2 trivial))
      go_wp2
      go_ret
      exact ⟨ret_bool HX.out, hb⟩
end Go.Proofs.YtjkkngldiimkjaaGreat
