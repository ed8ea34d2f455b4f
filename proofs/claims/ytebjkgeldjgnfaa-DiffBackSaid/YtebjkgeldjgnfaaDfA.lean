/- Cells and rows that are shown alike: the program's Same, the document's. -/
import Derived.Test.YtebjkgeldjgnfaaDfO
import Derived.Test.YtebjkgeldjgnfaaMid
import Derived.Deep.RegionHeld3
import Derived.BigQuiet
namespace Go.Proofs.Ytebjkgeldjgnfaa
open Go.RowKit
set_option linter.unusedVariables false
theorem cell_info : (Try.prog.info? 41).map (fun i => (i.zero, i.size, i.bytes)) = some (some (.agg #[.int .i32 0, .int .i64 0, .int .i64 0, .int .i64 0]), 4, 32) := by kernel_rfl
theorem cell_slt : SlT Try.prog 22 41 4 32 := slt_of Try.underlying22 cell_info rfl (by kernel_rfl)
theorem row_info : (Try.prog.info? 24).map (fun i => (i.zero, i.size, i.bytes)) = some (some (.agg #[.slice none 0 0, .int .i64 0, .int .i64 0, .int .i64 0, .bool false, .bool false, .int .i64 0]), 7, 64) := by kernel_rfl
theorem row_slt : SlT Try.prog 30 24 7 64 := slt_of Try.underlying30 row_info rfl (by kernel_rfl)
theorem RowsAt.cell4 {w : World} {A : Option Addr} {l : List Cl} (h : RowsAt encC 4 w A l) {j : Nat} (hj : j < l.length) : ∃ b off, A = some ⟨b, off, none⟩ ∧ b < w.heap.size ∧
    w.cell? ⟨b, off + j * 4, none⟩ = some (.int .i32 l[j].r) ∧ w.cell? ⟨b, off + j * 4 + 1, none⟩ = some (.int .i64 l[j].k) ∧ w.cell? ⟨b, off + j * 4 + 2, none⟩ = some (.int .i64 l[j].wd) ∧ w.cell? ⟨b, off + j * 4 + 3, none⟩ = some (.int .i64 l[j].p) := by
  obtain ⟨b, off, e, hb, hc⟩ := h.at1 hj
  exact ⟨b, off, e, hb, hc 0 (by omega), hc 1 (by omega), hc 2 (by omega), hc 3 (by omega)⟩
theorem RowsAt.row7 {w : World} {A : Option Addr} {l : List Rw} (h : RowsAt encR 7 w A l) {j : Nat} (hj : j < l.length) : ∃ b off, A = some ⟨b, off, none⟩ ∧ b < w.heap.size ∧
    w.cell? ⟨b, off + j * 7, none⟩ = some (.slice l[j].A l[j].n l[j].c) ∧ w.cell? ⟨b, off + j * 7 + 1, none⟩ = some (.int .i64 l[j].st) ∧ w.cell? ⟨b, off + j * 7 + 2, none⟩ = some (.int .i64 l[j].en) ∧ w.cell? ⟨b, off + j * 7 + 3, none⟩ = some (.int .i64 l[j].bu)
    ∧ w.cell? ⟨b, off + j * 7 + 4, none⟩ = some (.bool l[j].wr) ∧ w.cell? ⟨b, off + j * 7 + 5, none⟩ = some (.bool l[j].fo) ∧ w.cell? ⟨b, off + j * 7 + 6, none⟩ = some (.int .i64 l[j].wd) := by
  obtain ⟨b, off, e, hb, hc⟩ := h.at1 hj
  exact ⟨b, off, e, hb, hc 0 (by omega), hc 1 (by omega), hc 2 (by omega), hc 3 (by omega), hc 4 (by omega), hc 5 (by omega), hc 6 (by omega)⟩
set_option maxHeartbeats 4000000 in
set_option maxRecDepth 100000 in
theorem dCell_any (x y : Cl) (b : Bool) (hb : b = true ↔ CS x y) (w : World) :
    Calls Try.prog 23 #[.agg #[.int .i32 x.r, .int .i64 x.k, .int .i64 x.wd, .int .i64 x.p], .agg #[.int .i32 y.r, .int .i64 y.k, .int .i64 y.wd, .int .i64 y.p]] w fun e w' => e = .returned (.bool b) ∧ Below w.heap.size w w' := by
  have HB := Lib.hid hb
  clear hb
  unfold CS at HB
  obtain ⟨x0, x1, x2, x3⟩ := x
  obtain ⟨y0, y1, y2, y3⟩ := y
  simp only at *
  by_cases k0 : x0 = y0
  · by_cases k1 : x1 = y1
    · by_cases k2 : x2 = y2
      · obtain rfl : b = true := HB.out.mpr ⟨k0, k1, k2⟩
        subst k0 k1 k2
        go_enter Try.func23, Try.ntmps23
        go_wp2
        go_ret
        exact ⟨rfl, ((Below.refl _ _).alloc (Nat.le_refl _) _).alloc (by simp) _⟩
      · obtain rfl : b = false := by
          rw [← Bool.not_eq_true]; exact fun h => k2 (HB.out.mp h).2.2
        have j2 : (x2 == y2) = false := by simpa using k2
        go_enter Try.func23, Try.ntmps23
        go_wp2
        go_ret
        exact ⟨rfl, ((Below.refl _ _).alloc (Nat.le_refl _) _).alloc (by simp) _⟩
    · obtain rfl : b = false := by
        rw [← Bool.not_eq_true]; exact fun h => k1 (HB.out.mp h).2.1
      have j1 : (x1 == y1) = false := by simpa using k1
      go_enter Try.func23, Try.ntmps23
      go_wp2
      go_ret
      exact ⟨rfl, ((Below.refl _ _).alloc (Nat.le_refl _) _).alloc (by simp) _⟩
  · obtain rfl : b = false := by
      rw [← Bool.not_eq_true]; exact fun h => k0 (HB.out.mp h).1
    have j0 : (x0 == y0) = false := by simpa using k0
    go_enter Try.func23, Try.ntmps23
    go_wp2
    go_ret
    exact ⟨rfl, ((Below.refl _ _).alloc (Nat.le_refl _) _).alloc (by simp) _⟩
set_option maxHeartbeats 4000000 in
set_option maxRecDepth 100000 in
theorem eqF_any (A B : Option Addr) (n c m d : Nat) (x y : List Cl) (b : Bool) (hb : b = true ↔ LS x y) (w : World) (hA : RowsAt encC 4 w A x) (hx : x.length = n) (hB : RowsAt encC 4 w B y) (hy : y.length = m) (hn : n ≤ 9223372036854775807) (hm : m ≤ 9223372036854775807) :
    Calls Try.prog 22 #[.slice A n c, .slice B m d, .func (.func 23) #[] #[]] w fun e w' => e = .returned (.bool b) ∧ Below w.heap.size w w' := by
  have HA := Lib.hid hA
  have HB := Lib.hid hB
  have HX := Lib.hid hx
  have HY := Lib.hid hy
  have Hb := Lib.hid hb
  clear hA hB hx hy hb
  by_cases e : n = m
  · subst e
    go_enter Try.func22, Try.ntmps22
    go_wp2_with fail
    go_loopg [17] n (fun g i wr => ∃ (j : Nat), i = .int .i64 j ∧ j ≤ n ∧ n - j ≤ g ∧ Hid (∀ (i : Nat) (h : i < x.length) (h' : i < y.length), i < j → CS x[i] y[i]) ∧ Hid (Below w.heap.size w wr))
    case atStart => exact ⟨0, rfl, by omega, by omega, Lib.hid (fun i _ _ h => by omega), Lib.hid (Below.refl _ _)⟩
    case round =>
      obtain ⟨j, rfl, h1, h2, hs, hb⟩ := hrel
      by_cases hlt : j < n
      · have hjx : j < x.length := by rw [HX.out]; exact hlt
        have hjy : j < y.length := by rw [HY.out]; exact hlt
        obtain ⟨bA, off, rfl, hbA, d0, d1, d2, d3⟩ := (HA.out.below hb.out).cell4 hjx
        have x3 : Below wr.heap.size wr (wr.alloc (.cells #[.int .i32 x[j].r, .int .i64 x[j].k, .int .i64 x[j].wd, .int .i64 x[j].p] 41)) := (Below.refl _ _).alloc (Nat.le_refl _) _
        obtain ⟨bB, off2, rfl, hbB, f0, f1, f2, f3⟩ := ((HB.out.below hb.out).below x3).cell4 hjy
        have HB3 := Lib.hid (hb.out.trans (x3.mono hb.out.size))
        clear x3
        obtain ⟨bv, hbv⟩ : ∃ bv : Bool, bv = true ↔ CS x[j] y[j] := by
          by_cases q : CS x[j] y[j]
          · exact ⟨true, fun _ => q, fun _ => rfl⟩
          · exact ⟨false, ⟨(fun h => by cases h), fun h => absurd h q⟩⟩
        have CK := Lib.hid (dCell_any x[j] y[j] bv hbv ((wr.alloc (.cells #[.int .i32 x[j].r, .int .i64 x[j].k, .int .i64 x[j].wd, .int .i64 x[j].p] 41)).alloc (.cells #[.int .i32 y[j].r, .int .i64 y[j].k, .int .i64 y[j].wd, .int .i64 y[j].p] 41)))
        have HB4 := Lib.hid (HB3.out.trans (((Below.refl _ _).alloc (Nat.le_refl _) (.cells #[.int .i32 y[j].r, .int .i64 y[j].k, .int .i64 y[j].wd, .int .i64 y[j].p] 41)).mono HB3.out.size))
        clear HB3 hb
        have HBV := Lib.hid hbv
        clear hbv
        have i1 : (0 : Int) ≤ j := by omega
        have i2 : (j : Int) < n := by omega
        cases bv
        · have HE : Hid (b = false) := Lib.hid (by
            rw [← Bool.not_eq_true]
            intro h
            have := HBV.out.mpr ((Hb.out.mp h).2 j hjx hjy)
            cases this)
          clear hs HBV
          generalize x[j] = a at *
          generalize y[j] = a' at *
          go_wp2_with fail
          refine (CK.out).mono ?_
          rintro e w1 ⟨rfl, hb1⟩
          have HB5 := Lib.hid (HB4.out.trans (hb1.mono HB4.out.size))
          clear hb1
          go_wp2
          go_ret
          exact ⟨by rw [HE.out]; rfl, HB5.out⟩
        · have HS : Hid (∀ (i : Nat) (h : i < x.length) (h' : i < y.length), i < j + 1 → CS x[i] y[i]) := Lib.hid (fun i h h' hi => by
            rcases Nat.lt_succ_iff_lt_or_eq.mp hi with g | rfl
            · exact hs.out i h h' g
            · exact HBV.out.mp rfl)
          clear hs HBV
          generalize x[j] = a at *
          generalize y[j] = a' at *
          go_wp2_with fail
          refine (CK.out).mono ?_
          rintro e w1 ⟨rfl, hb1⟩
          have HB5 := Lib.hid (HB4.out.trans (hb1.mono HB4.out.size))
          clear hb1 CK HB4
          go_wp2
          go_roundg (gk - 1)
          case measure => omega
          case rel => exact ⟨j + 1, by go_num, by omega, by omega, HS, HB5⟩
      · obtain rfl : j = n := by omega
        have HE : Hid (b = true) := Lib.hid (Hb.out.mpr ⟨by rw [HX.out, HY.out], fun i h h' => hs.out i h h' (by rw [← HX.out]; exact h)⟩)
        clear hs
        go_wp2
        go_ret
        exact ⟨by rw [HE.out]; rfl, hb.out⟩
  · have HE : Hid (b = false) := Lib.hid (by
      rw [← Bool.not_eq_true]
      intro h
      exact e (by rw [← HX.out, ← HY.out]; exact (Hb.out.mp h).1))
    have k1 : ((n : Int) == (m : Int)) = false := by simpa using (by omega : ¬ (n : Int) = m)
    have k2 : ¬ (n : Int) = (m : Int) := by omega
    go_enter Try.func22, Try.ntmps22
    go_wp2
    go_ret
    exact ⟨by rw [HE.out]; rfl, Below.refl _ _⟩
set_option maxHeartbeats 4000000 in
set_option maxRecDepth 100000 in
theorem dSame_any (x y : Rw) (b : Bool) (hb : b = true ↔ RS x y) (w : World) (hx : RwOk w x) (hy : RwOk w y) (hn : x.n ≤ 9223372036854775807) (hm : y.n ≤ 9223372036854775807) :
    Calls Try.prog 10 #[.agg #[.slice x.A x.n x.c, .int .i64 x.st, .int .i64 x.en, .int .i64 x.bu, .bool x.wr, .bool x.fo, .int .i64 x.wd], .agg #[.slice y.A y.n y.c, .int .i64 y.st, .int .i64 y.en, .int .i64 y.bu, .bool y.wr, .bool y.fo, .int .i64 y.wd]] w fun e w' => e = .returned (.bool b) ∧ Below w.heap.size w w' := by
  have HB := Lib.hid hb
  have HX := Lib.hid hx
  have HY := Lib.hid hy
  have HBW : Hid (Below w.heap.size w ((w.alloc (.cells #[.slice x.A x.n x.c, .int .i64 x.st, .int .i64 x.en, .int .i64 x.bu, .bool x.wr, .bool x.fo, .int .i64 x.wd] 24)).alloc (.cells #[.slice y.A y.n y.c, .int .i64 y.st, .int .i64 y.en, .int .i64 y.bu, .bool y.wr, .bool y.fo, .int .i64 y.wd] 24))) := Lib.hid (((Below.refl _ _).alloc (Nat.le_refl _) _).alloc (by simp) _)
  clear hb hx hy
  unfold RS at HB
  obtain ⟨xA, xn, xc, xl, x1, x2, x3, x4, x5, x6⟩ := x
  obtain ⟨yA, yn, yc, yl, y1, y2, y3, y4, y5, y6⟩ := y
  simp only at *
  by_cases k4 : x4 = y4
  · by_cases k5 : x5 = y5
    · by_cases k6 : x6 = y6
      · subst k4 k5 k6
        have CE := Lib.hid (eqF_any xA yA xn xc yn yc xl yl b ⟨fun h => (HB.out.mp h).2.2.2, fun h => HB.out.mpr ⟨rfl, rfl, rfl, h⟩⟩ ((w.alloc (.cells #[.slice xA xn xc, .int .i64 x1, .int .i64 x2, .int .i64 x3, .bool x4, .bool x5, .int .i64 x6] 24)).alloc (.cells #[.slice yA yn yc, .int .i64 y1, .int .i64 y2, .int .i64 y3, .bool x4, .bool x5, .int .i64 x6] 24)) (HX.out.rows.below HBW.out) HX.out.len (HY.out.rows.below HBW.out) HY.out.len hn hm)
        have j4 : (x4 == x4) = true := by simp
        have j5 : (x5 == x5) = true := by simp
        clear HB
        go_enter Try.func10, Try.ntmps10
        go_wp2_with fail
        refine (CE.out).mono ?_
        rintro e w1 ⟨rfl, hb1⟩
        have HB5 := Lib.hid (HBW.out.trans (hb1.mono HBW.out.size))
        clear hb1
        go_wp2
        go_ret
        exact ⟨rfl, HB5.out⟩
      · obtain rfl : b = false := by
          rw [← Bool.not_eq_true]; exact fun h => k6 (HB.out.mp h).2.2.1
        have j6 : (x6 == y6) = false := by simpa using k6
        subst k4
        subst k5
        have j4 : (x4 == x4) = true := by simp
        have j5 : (x5 == x5) = true := by simp
        clear HB
        go_enter Try.func10, Try.ntmps10
        go_wp2
        go_ret
        exact ⟨rfl, HBW.out⟩
    · obtain rfl : b = false := by
        rw [← Bool.not_eq_true]; exact fun h => k5 (HB.out.mp h).2.1
      have j5 : (x5 == y5) = false := by simpa using k5
      subst k4
      have j4 : (x4 == x4) = true := by simp
      clear HB
      go_enter Try.func10, Try.ntmps10
      go_wp2
      go_ret
      exact ⟨rfl, HBW.out⟩
  · obtain rfl : b = false := by
      rw [← Bool.not_eq_true]; exact fun h => k4 (HB.out.mp h).1
    have j4 : (x4 == y4) = false := by simpa using k4
    clear HB
    go_enter Try.func10, Try.ntmps10
    go_wp2
    go_ret
    exact ⟨rfl, HBW.out⟩
end Go.Proofs.Ytebjkgeldjgnfaa
