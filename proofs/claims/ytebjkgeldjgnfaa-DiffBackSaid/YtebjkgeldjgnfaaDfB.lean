/- Rows that are shown alike, by the document; which patches fit. -/
import Derived.Test.YtebjkgeldjgnfaaDfA
namespace Go.Proofs.Ytebjkgeldjgnfaa
open Go.RowKit
set_option linter.unusedVariables false
set_option maxHeartbeats 4000000 in
set_option maxRecDepth 100000 in
theorem dRSame_any (x y : Rw) (b : Bool) (hb : b = true ↔ RS x y) (w : World) (hx : RwOk w x) (hy : RwOk w y) (hn : x.n ≤ 9223372036854775807) (hm : y.n ≤ 9223372036854775807) :
    Calls Try.prog 11 #[.agg #[.slice x.A x.n x.c, .int .i64 x.st, .int .i64 x.en, .int .i64 x.bu, .bool x.wr, .bool x.fo, .int .i64 x.wd], .agg #[.slice y.A y.n y.c, .int .i64 y.st, .int .i64 y.en, .int .i64 y.bu, .bool y.wr, .bool y.fo, .int .i64 y.wd]] w fun e w' => e = .returned (.bool b) ∧ Below w.heap.size w w' := by
  have HB := Lib.hid hb
  have HX := Lib.hid hx
  have HY := Lib.hid hy
  have HBW : Hid (Below w.heap.size w ((w.alloc (.cells #[.slice x.A x.n x.c, .int .i64 x.st, .int .i64 x.en, .int .i64 x.bu, .bool x.wr, .bool x.fo, .int .i64 x.wd] 24)).alloc (.cells #[.slice y.A y.n y.c, .int .i64 y.st, .int .i64 y.en, .int .i64 y.bu, .bool y.wr, .bool y.fo, .int .i64 y.wd] 24))) := Lib.hid (((Below.refl _ _).alloc (Nat.le_refl _) _).alloc (by simp) _)
  clear hb hx hy
  unfold RS at HB
  obtain ⟨xA, xn, xc, xl, x1, x2, x3, x4, x5, x6⟩ := x
  obtain ⟨yA, yn, yc, yl, y1, y2, y3, y4, y5, y6⟩ := y
  simp only at *
  by_cases kn : xn = yn
  · subst kn
    have jn : ((xn : Int) == (xn : Int)) = true := by simp
    have hxl : xl.length = xn := HX.out.len
    have hyl : yl.length = xn := HY.out.len
    by_cases k4 : x4 = y4
    · by_cases k5 : x5 = y5
      · by_cases k6 : x6 = y6
        · subst k4 k5 k6
          have j4 : (x4 == x4) = true := by simp
          have j5 : (x5 == x5) = true := by simp
          have p0 : ((w.alloc (.cells #[.slice xA xn xc, .int .i64 x1, .int .i64 x2, .int .i64 x3, .bool x4, .bool x5, .int .i64 x6] 24)).alloc (.cells #[.slice yA xn yc, .int .i64 y1, .int .i64 y2, .int .i64 y3, .bool x4, .bool x5, .int .i64 x6] 24)).cell? ⟨w.heap.size, 0, none⟩ = some (.slice xA xn xc) := by
            have R1 : RawAt 24 (w.alloc (.cells #[.slice xA xn xc, .int .i64 x1, .int .i64 x2, .int .i64 x3, .bool x4, .bool x5, .int .i64 x6] 24)) w.heap.size #[.slice xA xn xc, .int .i64 x1, .int .i64 x2, .int .i64 x3, .bool x4, .bool x5, .int .i64 x6] := heap_alloc_new w _
            exact RawAt.cell (RawAt.below R1 ((Below.refl _ _).alloc (Nat.le_refl _) _) (by simp)) 0
          have RY : Hid (RawAt 24 ((w.alloc (.cells #[.slice xA xn xc, .int .i64 x1, .int .i64 x2, .int .i64 x3, .bool x4, .bool x5, .int .i64 x6] 24)).alloc (.cells #[.slice yA xn yc, .int .i64 y1, .int .i64 y2, .int .i64 y3, .bool x4, .bool x5, .int .i64 x6] 24)) (w.heap.size + 1) #[.slice yA xn yc, .int .i64 y1, .int .i64 y2, .int .i64 y3, .bool x4, .bool x5, .int .i64 x6]) := Lib.hid (by
            have h := heap_alloc_new (w.alloc (.cells #[.slice xA xn xc, .int .i64 x1, .int .i64 x2, .int .i64 x3, .bool x4, .bool x5, .int .i64 x6] 24)) (.cells #[.slice yA xn yc, .int .i64 y1, .int .i64 y2, .int .i64 y3, .bool x4, .bool x5, .int .i64 x6] 24)
            rw [show (w.alloc (.cells #[.slice xA xn xc, .int .i64 x1, .int .i64 x2, .int .i64 x3, .bool x4, .bool x5, .int .i64 x6] 24)).heap.size = w.heap.size + 1 from by simp] at h
            exact h)
          go_enter Try.func11, Try.ntmps11
          go_wp2_with fail
          go_loopg [39] xn (fun g i wr => ∃ (j : Nat), i = .int .i64 j ∧ j ≤ xn ∧ xn - j ≤ g ∧ Hid (∀ (i : Nat) (h : i < xl.length) (h' : i < yl.length), i < j → CS xl[i] yl[i]) ∧ Hid (Below (w.heap.size + 2) ((w.alloc (.cells #[.slice xA xn xc, .int .i64 x1, .int .i64 x2, .int .i64 x3, .bool x4, .bool x5, .int .i64 x6] 24)).alloc (.cells #[.slice yA xn yc, .int .i64 y1, .int .i64 y2, .int .i64 y3, .bool x4, .bool x5, .int .i64 x6] 24)) wr))
          case atStart => exact ⟨0, rfl, by omega, by omega, Lib.hid (fun i _ _ h => by omega), Lib.hid (Below.refl _ _)⟩
          case round =>
            obtain ⟨j, rfl, h1, h2, hs, hb⟩ := hrel
            have HBR := Lib.hid (HBW.out.trans (hb.out.mono (by omega)))
            by_cases hlt : j < xn
            · have hjx : j < xl.length := by rw [hxl]; exact hlt
              have hjy : j < yl.length := by rw [hyl]; exact hlt
              obtain ⟨bA, off, rfl, hbA, d0, d1, d2, d3⟩ := (HX.out.rows.below HBR.out).cell4 hjx
              have x3 : Below wr.heap.size wr (wr.alloc (.cells #[.int .i32 xl[j].r, .int .i64 xl[j].k, .int .i64 xl[j].wd, .int .i64 xl[j].p] 41)) := (Below.refl _ _).alloc (Nat.le_refl _) _
              obtain ⟨bB, off2, rfl, hbB, f0, f1, f2, f3⟩ := ((HY.out.rows.below HBR.out).below x3).cell4 hjy
              have p0 : (wr.alloc (.cells #[.int .i32 xl[j].r, .int .i64 xl[j].k, .int .i64 xl[j].wd, .int .i64 xl[j].p] 41)).cell? ⟨w.heap.size + 1, 0, none⟩ = some (.slice (some ⟨bB, off2, none⟩) xn yc) := RawAt.cell (RawAt.below (RawAt.below RY.out hb.out (by omega)) x3 (by have := RawAt.lt (RawAt.below RY.out hb.out (by omega)); omega)) 0
              have HB3 := Lib.hid (HBR.out.trans (x3.mono HBR.out.size))
              have hz2 : w.heap.size + 2 ≤ wr.heap.size := by have := hb.out.size; simp at this; omega
              have HC4 := Lib.hid ((hb.out.alloc hz2 (.cells #[.int .i32 xl[j].r, .int .i64 xl[j].k, .int .i64 xl[j].wd, .int .i64 xl[j].p] 41)).alloc (by simp; omega) (.cells #[.int .i32 yl[j].r, .int .i64 yl[j].k, .int .i64 yl[j].wd, .int .i64 yl[j].p] 41))
              have HB4 := Lib.hid (HBW.out.trans (HC4.out.mono (by omega)))
              clear x3 HB3
              have i1 : (0 : Int) ≤ j := by omega
              have i2 : (j : Int) < xn := by omega
              by_cases hcs : CS xl[j] yl[j]
              · have HS : Hid (∀ (i : Nat) (h : i < xl.length) (h' : i < yl.length), i < j + 1 → CS xl[i] yl[i]) := Lib.hid (fun i h h' hi => by
                  rcases Nat.lt_succ_iff_lt_or_eq.mp hi with g | rfl
                  · exact hs.out i h h' g
                  · exact hcs)
                clear hs
                unfold CS at hcs
                generalize xl[j] = a at *
                generalize yl[j] = a' at *
                obtain ⟨a0, a1, a2, a3⟩ := a
                obtain ⟨b0, b1, b2, b3⟩ := a'
                simp only at *
                obtain ⟨rfl, rfl, rfl⟩ := hcs
                go_wp2
                go_roundg (gk - 1)
                case measure => omega
                case rel => exact ⟨j + 1, by go_num, by omega, by omega, HS, HC4⟩
              · have HE : Hid (b = false) := Lib.hid (by
                  rw [← Bool.not_eq_true]
                  intro h
                  exact hcs ((HB.out.mp h).2.2.2.2 j hjx hjy))
                clear hs
                unfold CS at hcs
                generalize xl[j] = a at *
                generalize yl[j] = a' at *
                obtain ⟨a0, a1, a2, a3⟩ := a
                obtain ⟨b0, b1, b2, b3⟩ := a'
                simp only at *
                by_cases q0 : a0 = b0
                · subst q0
                  by_cases q1 : a1 = b1
                  · subst q1
                    have q2 : ¬ a2 = b2 := fun h => hcs ⟨rfl, rfl, h⟩
                    have r2 : (a2 == b2) = false := by simpa using q2
                    go_wp2
                    go_ret
                    exact ⟨by rw [HE.out]; rfl, HB4.out⟩
                  · have r1 : (a1 == b1) = false := by simpa using q1
                    go_wp2
                    go_ret
                    exact ⟨by rw [HE.out]; rfl, HB4.out⟩
                · have r0 : (a0 == b0) = false := by simpa using q0
                  go_wp2
                  go_ret
                  exact ⟨by rw [HE.out]; rfl, HB4.out⟩
            · obtain rfl : j = xn := by omega
              have HE : Hid (b = true) := Lib.hid (HB.out.mpr ⟨by trivial, by trivial, by trivial, by rw [hxl, hyl], fun i h h' => hs.out i h h' (by omega)⟩)
              clear hs
              go_wp2
              go_ret
              exact ⟨by rw [HE.out]; rfl, HBR.out⟩
        · obtain rfl : b = false := by
            rw [← Bool.not_eq_true]; exact fun h => k6 (HB.out.mp h).2.2.1
          have j6 : (x6 == y6) = false := by simpa using k6
          subst k4
          subst k5
          have j4 : (x4 == x4) = true := by simp
          have j5 : (x5 == x5) = true := by simp
          clear HB
          go_enter Try.func11, Try.ntmps11
          go_wp2
          go_ret
          exact ⟨rfl, HBW.out⟩
      · obtain rfl : b = false := by
          rw [← Bool.not_eq_true]; exact fun h => k5 (HB.out.mp h).2.1
        have j5 : (x5 == y5) = false := by simpa using k5
        subst k4
        have j4 : (x4 == x4) = true := by simp
        clear HB
        go_enter Try.func11, Try.ntmps11
        go_wp2
        go_ret
        exact ⟨rfl, HBW.out⟩
    · obtain rfl : b = false := by
        rw [← Bool.not_eq_true]; exact fun h => k4 (HB.out.mp h).1
      have j4 : (x4 == y4) = false := by simpa using k4
      clear HB
      go_enter Try.func11, Try.ntmps11
      go_wp2
      go_ret
      exact ⟨rfl, HBW.out⟩
  · obtain rfl : b = false := by
      rw [← Bool.not_eq_true]; have hxl : xl.length = xn := HX.out.len
      have hyl : yl.length = yn := HY.out.len
      exact fun h => kn (by have := (HB.out.mp h).2.2.2.1; omega)
    have jn : ((xn : Int) == (yn : Int)) = false := by simpa using (by omega : ¬ (xn : Int) = yn)
    have jn2 : ¬ (xn : Int) = (yn : Int) := by omega
    clear HB
    go_enter Try.func11, Try.ntmps11
    go_wp2
    go_ret
    exact ⟨rfl, HBW.out⟩
set_option maxHeartbeats 4000000 in
set_option maxRecDepth 100000 in
theorem dFits_any (p : Rp) (n m : Int) (b : Bool) (hb : b = true ↔ RFit p n m) (w : World) (hn : n ≤ 9223372036854775807) (hm : m ≤ 9223372036854775807) :
    Calls Try.prog 12 #[.agg #[.int .i64 p.a, .int .i64 p.b, .int .i64 p.c, .int .i64 p.d], .int .i64 n, .int .i64 m] w fun e w' => e = .returned (.bool b) ∧ Below w.heap.size w w' := by
  have HB := Lib.hid hb
  clear hb
  obtain ⟨a, e, c, d⟩ := p
  unfold RFit at HB
  simp only at *
  have HBW : Hid (Below w.heap.size w (w.alloc (.cells #[.int .i64 a, .int .i64 e, .int .i64 c, .int .i64 d] 28))) := Lib.hid ((Below.refl _ _).alloc (Nat.le_refl _) _)
  by_cases h0 : 0 ≤ a
  · have f0 : decide (0 ≤ a) = true := decide_eq_true h0
    by_cases h1 : a ≤ e
    · have f1 : decide (a ≤ e) = true := decide_eq_true h1
      by_cases h2 : e ≤ n
      · have f2 : decide (e ≤ n) = true := decide_eq_true h2
        by_cases g0 : c = a
        · subst g0
          by_cases g1 : c ≤ d
          · have l1 : decide (c ≤ d) = true := decide_eq_true g1
            by_cases g2 : d ≤ m
            · have l2 : decide (d ≤ m) = true := decide_eq_true g2
              have wn : IntKind.i64.wrap (n - e) = n - e := IntWalk.i64_in _ (by omega)
              have wm : IntKind.i64.wrap (m - d) = m - d := IntWalk.i64_in _ (by omega)
              by_cases g3 : n - e = m - d
              · obtain rfl : b = true := HB.out.mpr (by omega)
                have l3 : (n - e == m - d) = true := by simpa using g3
                clear HB
                go_enter Try.func12, Try.ntmps12
                go_wp2
                go_ret
                exact ⟨rfl, HBW.out⟩
              · have l3 : (n - e == m - d) = false := by simpa using g3
                obtain rfl : b = false := by
                  rw [← Bool.not_eq_true]; intro h; have := HB.out.mp h; omega
                clear HB
                go_enter Try.func12, Try.ntmps12
                go_wp2
                go_ret
                exact ⟨rfl, HBW.out⟩
            · have l2 : decide (d ≤ m) = false := decide_eq_false g2
              obtain rfl : b = false := by
                rw [← Bool.not_eq_true]; intro h; have := HB.out.mp h; omega
              clear HB
              go_enter Try.func12, Try.ntmps12
              go_wp2
              go_ret
              exact ⟨rfl, HBW.out⟩
          · have l1 : decide (c ≤ d) = false := decide_eq_false g1
            obtain rfl : b = false := by
              rw [← Bool.not_eq_true]; intro h; have := HB.out.mp h; omega
            clear HB
            go_enter Try.func12, Try.ntmps12
            go_wp2
            go_ret
            exact ⟨rfl, HBW.out⟩
        · have l0 : (c == a) = false := by simpa using g0
          obtain rfl : b = false := by
            rw [← Bool.not_eq_true]; intro h; have := HB.out.mp h; omega
          clear HB
          go_enter Try.func12, Try.ntmps12
          go_wp2
          go_ret
          exact ⟨rfl, HBW.out⟩
      · have f2 : decide (e ≤ n) = false := decide_eq_false h2
        by_cases g0 : c = a
        · subst g0
          by_cases g1 : c ≤ d
          · have l1 : decide (c ≤ d) = true := decide_eq_true g1
            by_cases g2 : d ≤ m
            · have l2 : decide (d ≤ m) = true := decide_eq_true g2
              obtain rfl : b = false := by
                rw [← Bool.not_eq_true]; intro h; have := HB.out.mp h; omega
              clear HB
              go_enter Try.func12, Try.ntmps12
              go_wp2
              go_ret
              exact ⟨rfl, HBW.out⟩
            · have l2 : decide (d ≤ m) = false := decide_eq_false g2
              obtain rfl : b = false := by
                rw [← Bool.not_eq_true]; intro h; have := HB.out.mp h; omega
              clear HB
              go_enter Try.func12, Try.ntmps12
              go_wp2
              go_ret
              exact ⟨rfl, HBW.out⟩
          · have l1 : decide (c ≤ d) = false := decide_eq_false g1
            obtain rfl : b = false := by
              rw [← Bool.not_eq_true]; intro h; have := HB.out.mp h; omega
            clear HB
            go_enter Try.func12, Try.ntmps12
            go_wp2
            go_ret
            exact ⟨rfl, HBW.out⟩
        · have l0 : (c == a) = false := by simpa using g0
          obtain rfl : b = false := by
            rw [← Bool.not_eq_true]; intro h; have := HB.out.mp h; omega
          clear HB
          go_enter Try.func12, Try.ntmps12
          go_wp2
          go_ret
          exact ⟨rfl, HBW.out⟩
    · have f1 : decide (a ≤ e) = false := decide_eq_false h1
      by_cases g0 : c = a
      · subst g0
        by_cases g1 : c ≤ d
        · have l1 : decide (c ≤ d) = true := decide_eq_true g1
          by_cases g2 : d ≤ m
          · have l2 : decide (d ≤ m) = true := decide_eq_true g2
            obtain rfl : b = false := by
              rw [← Bool.not_eq_true]; intro h; have := HB.out.mp h; omega
            clear HB
            go_enter Try.func12, Try.ntmps12
            go_wp2
            go_ret
            exact ⟨rfl, HBW.out⟩
          · have l2 : decide (d ≤ m) = false := decide_eq_false g2
            obtain rfl : b = false := by
              rw [← Bool.not_eq_true]; intro h; have := HB.out.mp h; omega
            clear HB
            go_enter Try.func12, Try.ntmps12
            go_wp2
            go_ret
            exact ⟨rfl, HBW.out⟩
        · have l1 : decide (c ≤ d) = false := decide_eq_false g1
          obtain rfl : b = false := by
            rw [← Bool.not_eq_true]; intro h; have := HB.out.mp h; omega
          clear HB
          go_enter Try.func12, Try.ntmps12
          go_wp2
          go_ret
          exact ⟨rfl, HBW.out⟩
      · have l0 : (c == a) = false := by simpa using g0
        obtain rfl : b = false := by
          rw [← Bool.not_eq_true]; intro h; have := HB.out.mp h; omega
        clear HB
        go_enter Try.func12, Try.ntmps12
        go_wp2
        go_ret
        exact ⟨rfl, HBW.out⟩
  · have f0 : decide (0 ≤ a) = false := decide_eq_false h0
    by_cases g0 : c = a
    · subst g0
      by_cases g1 : c ≤ d
      · have l1 : decide (c ≤ d) = true := decide_eq_true g1
        by_cases g2 : d ≤ m
        · have l2 : decide (d ≤ m) = true := decide_eq_true g2
          obtain rfl : b = false := by
            rw [← Bool.not_eq_true]; intro h; have := HB.out.mp h; omega
          clear HB
          go_enter Try.func12, Try.ntmps12
          go_wp2
          go_ret
          exact ⟨rfl, HBW.out⟩
        · have l2 : decide (d ≤ m) = false := decide_eq_false g2
          obtain rfl : b = false := by
            rw [← Bool.not_eq_true]; intro h; have := HB.out.mp h; omega
          clear HB
          go_enter Try.func12, Try.ntmps12
          go_wp2
          go_ret
          exact ⟨rfl, HBW.out⟩
      · have l1 : decide (c ≤ d) = false := decide_eq_false g1
        obtain rfl : b = false := by
          rw [← Bool.not_eq_true]; intro h; have := HB.out.mp h; omega
        clear HB
        go_enter Try.func12, Try.ntmps12
        go_wp2
        go_ret
        exact ⟨rfl, HBW.out⟩
    · have l0 : (c == a) = false := by simpa using g0
      obtain rfl : b = false := by
        rw [← Bool.not_eq_true]; intro h; have := HB.out.mp h; omega
      clear HB
      go_enter Try.func12, Try.ntmps12
      go_wp2
      go_ret
      exact ⟨rfl, HBW.out⟩
set_option maxHeartbeats 4000000 in
set_option maxRecDepth 100000 in
theorem dRFits_any (p : Rp) (n m : Int) (b : Bool) (hb : b = true ↔ RFit p n m) (w : World) (hn : n ≤ 9223372036854775807) (hm : m ≤ 9223372036854775807) :
    Calls Try.prog 13 #[.agg #[.int .i64 p.a, .int .i64 p.b, .int .i64 p.c, .int .i64 p.d], .int .i64 n, .int .i64 m] w fun e w' => e = .returned (.bool b) ∧ Below w.heap.size w w' := by
  have HB := Lib.hid hb
  clear hb
  obtain ⟨a, e, c, d⟩ := p
  unfold RFit at HB
  simp only at *
  have HBW : Hid (Below w.heap.size w (w.alloc (.cells #[.int .i64 a, .int .i64 e, .int .i64 c, .int .i64 d] 28))) := Lib.hid ((Below.refl _ _).alloc (Nat.le_refl _) _)
  by_cases h0 : ¬ a < 0
  · have f0 : decide (a < 0) = false := decide_eq_false h0
    by_cases h1 : ¬ e < a
    · have f1 : decide (e < a) = false := decide_eq_false h1
      by_cases h2 : ¬ n < e
      · have f2 : decide (n < e) = false := decide_eq_false h2
        by_cases g0 : c = a
        · subst g0
          by_cases g1 : c ≤ d
          · have l1 : decide (c ≤ d) = true := decide_eq_true g1
            by_cases g2 : d ≤ m
            · have l2 : decide (d ≤ m) = true := decide_eq_true g2
              have wn : IntKind.i64.wrap (n - e) = n - e := IntWalk.i64_in _ (by omega)
              have wm : IntKind.i64.wrap (m - d) = m - d := IntWalk.i64_in _ (by omega)
              by_cases g3 : n - e = m - d
              · obtain rfl : b = true := HB.out.mpr (by omega)
                have l3 : (n - e == m - d) = true := by simpa using g3
                clear HB
                go_enter Try.func13, Try.ntmps13
                go_wp2
                go_ret
                exact ⟨rfl, HBW.out⟩
              · have l3 : (n - e == m - d) = false := by simpa using g3
                obtain rfl : b = false := by
                  rw [← Bool.not_eq_true]; intro h; have := HB.out.mp h; omega
                clear HB
                go_enter Try.func13, Try.ntmps13
                go_wp2
                go_ret
                exact ⟨rfl, HBW.out⟩
            · have l2 : decide (d ≤ m) = false := decide_eq_false g2
              obtain rfl : b = false := by
                rw [← Bool.not_eq_true]; intro h; have := HB.out.mp h; omega
              clear HB
              go_enter Try.func13, Try.ntmps13
              go_wp2
              go_ret
              exact ⟨rfl, HBW.out⟩
          · have l1 : decide (c ≤ d) = false := decide_eq_false g1
            obtain rfl : b = false := by
              rw [← Bool.not_eq_true]; intro h; have := HB.out.mp h; omega
            clear HB
            go_enter Try.func13, Try.ntmps13
            go_wp2
            go_ret
            exact ⟨rfl, HBW.out⟩
        · have l0 : (c == a) = false := by simpa using g0
          obtain rfl : b = false := by
            rw [← Bool.not_eq_true]; intro h; have := HB.out.mp h; omega
          clear HB
          go_enter Try.func13, Try.ntmps13
          go_wp2
          go_ret
          exact ⟨rfl, HBW.out⟩
      · have f2 : decide (n < e) = true := decide_eq_true (by omega)
        obtain rfl : b = false := by
          rw [← Bool.not_eq_true]; intro h; have := HB.out.mp h; omega
        clear HB
        go_enter Try.func13, Try.ntmps13
        go_wp2
        go_ret
        exact ⟨rfl, HBW.out⟩
    · have f1 : decide (e < a) = true := decide_eq_true (by omega)
      obtain rfl : b = false := by
        rw [← Bool.not_eq_true]; intro h; have := HB.out.mp h; omega
      clear HB
      go_enter Try.func13, Try.ntmps13
      go_wp2
      go_ret
      exact ⟨rfl, HBW.out⟩
  · have f0 : decide (a < 0) = true := decide_eq_true (by omega)
    obtain rfl : b = false := by
      rw [← Bool.not_eq_true]; intro h; have := HB.out.mp h; omega
    clear HB
    go_enter Try.func13, Try.ntmps13
    go_wp2
    go_ret
    exact ⟨rfl, HBW.out⟩
end Go.Proofs.Ytebjkgeldjgnfaa
