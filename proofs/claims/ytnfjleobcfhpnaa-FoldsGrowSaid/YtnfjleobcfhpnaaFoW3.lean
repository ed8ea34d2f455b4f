/- Folds: the law FoldsGrow, walked. -/
import Derived.Test.YtnfjleobcfhpnaaFoX
import Derived.Test.YtnfjleobcfhpnaaFoR
import Derived.Test.YtnfjleobcfhpnaaFoT
import Derived.Test.YtnfjleobcfhpnaaFoO
import Derived.Test.YtnfjleobcfhpnaaTwoO
namespace Go.Proofs.Ytnfjleobcfhpnaa
open Go.RowKit Go.Sort
set_option linter.unusedVariables false
theorem set15g (x : Int) (A : Option Addr) (m c : Nat) (r : Int) (w : World) : (Instr.field 29 (.agg #[.int .i64 x, .slice A m c, .int .i64 r]) 2).run Try.prog w = .ok (.int .i64 r) w := by kernel_rfl
def gch (a b : Int) : Ch := ⟨a, a, a, a + b⟩
def gyf (x : Fo) (a b : Int) : Int := if a ≤ x.f then x.f + b else x.f
def gyt (x : Fo) (a b : Int) : Int := if a < x.t then x.t + b else x.t
theorem gch_nrm {a b n : Int} (h0 : 0 ≤ a) (h1 : a ≤ n) (h2 : 1 ≤ b) (h3 : b ≤ 1000) (h4 : n ≤ 1073741824) : nrm M40 0 0 true [gch a b] := by
  show (0 ≤ a ∧ a ≤ a ∧ a ≤ 1099511627776 ∧ 0 ≤ a ∧ a ≤ a + b ∧ a + b ≤ 1099511627776 ∧ ¬ (a = a ∧ a = a + b) ∧ a - 0 = a - 0 ∧ 0 ≤ a - 0 ∧ (true = false → 1 ≤ a - 0)) ∧ True
  exact ⟨⟨h0, Int.le_refl _, by omega, h0, by omega, by omega, fun h => by have h2 : a = a + b := h.2; omega, rfl, by omega, fun h => by cases h⟩, trivial⟩
theorem gch_fsh {x : Fo} {a b : Int} (hx : x.f < x.t) (hb : 1 ≤ b) : fsh [gch a b] x = ⟨gyf x a b, gyt x a b⟩ := by
  unfold fsh gch mp mp gyf gyt
  simp only [Fo.mk.injEq]
  constructor
  · by_cases g : x.f < a
    · rw [if_pos g, if_neg (by omega)]; omega
    · rw [if_neg g]
      by_cases g2 : x.f ≤ a
      · rw [if_pos g2, if_neg (by decide), if_pos (by omega)]; omega
      · rw [if_neg g2, if_pos (by omega)]; omega
  · by_cases g : x.t < a
    · rw [if_pos g, if_neg (by omega)]; omega
    · rw [if_neg g]
      by_cases g2 : x.t ≤ a
      · rw [if_pos g2, if_pos trivial, if_neg (by omega)]; omega
      · rw [if_neg g2, if_pos (by omega)]; omega
theorem gy_lt {x : Fo} {a b : Int} (hx : x.f < x.t) (hb : 1 ≤ b) : gyf x a b < gyt x a b := by
  unfold gyf gyt
  by_cases g1 : a ≤ x.f
  · rw [if_pos g1, if_pos (by omega)]; omega
  · rw [if_neg g1]
    by_cases g2 : a < x.t
    · rw [if_pos g2]; omega
    · rw [if_neg g2]; exact hx
theorem gfshift {x : Fo} {a b : Int} (hx : x.f < x.t) (hb : 1 ≤ b) : fshift [gch a b] [x] = [⟨gyf x a b, gyt x a b⟩] := by
  unfold fshift
  simp only [List.foldl_cons, List.foldl_nil]
  unfold fstp
  rw [gch_fsh hx hb, if_pos ⟨gy_lt hx hb, by simp⟩]
  rfl
theorem gfwrong {x : Fo} {a b n : Int} (hx : x.f < x.t) (hb : 1 ≤ b) (hb2 : b ≤ 1000) (h0 : 0 ≤ x.f) (h1 : x.t ≤ n) (h4 : n ≤ 1073741824) : fwrong (n + b) [⟨gyf x a b, gyt x a b⟩] = 0 := by
  have h5 := gy_lt (a := a) hx hb
  have h6 : 0 ≤ gyf x a b := by unfold gyf; split <;> omega
  have h7 : gyt x a b ≤ n + b := by unfold gyt; split <;> omega
  unfold fwrong
  rw [if_neg (by omega), if_neg (by simp)]
  unfold fw
  rw [if_neg (fun h => h ⟨⟨h6, by simp only; omega, h7⟩, by simp only; omega⟩), if_neg (by simp)]
  rfl
theorem chs_one {w : World} {c : Ch} {t : TypeId} : ChsAt (w.alloc (.cells (chcs c) t)) (some ⟨w.heap.size, 0, none⟩) [c] := by
  intro _
  have R : RawAt t (w.alloc (.cells (chcs c) t)) w.heap.size (chcs c) := heap_alloc_new w _
  refine ⟨w.heap.size, 0, rfl, R.lt, fun k hk => ?_⟩
  obtain rfl : k = 0 := by simpa using hk
  exact ⟨RawAt.cell R 0, RawAt.cell R 1, RawAt.cell R 2, RawAt.cell R 3⟩
theorem fwrong_one {n : Int} {x : Fo} (h : fwrong n [x] = 0) : x.f < x.t ∧ 0 ≤ x.f ∧ x.t ≤ n := fwrong_mem h x (by simp)
set_option maxHeartbeats 32000000 in
set_option maxRecDepth 100000 in
theorem foldsGrow_walk (n : Int) (x : Fo) (a b : Int) (w : World) (_wf : (Lit.int .i64 n).wf = true) (hx : FoOk x) :
    Calls Try.prog 6 #[.int .i64 n, .agg #[.int .i64 x.f, .int .i64 x.t], .agg #[.int .i64 a, .int .i64 b]] w fun e w' => e = .returned (.bool true) ∧ Below w.heap.size w w' := by
  have C3 := Lib.hid fun W => fThree_any W
  have tf := set15g
  have x1 : RawAt 33 ((w.alloc (.cells #[.int .i64 x.f, .int .i64 x.t] 33)).alloc (.cells #[.int .i64 a, .int .i64 b] 53)) w.heap.size #[.int .i64 x.f, .int .i64 x.t] := (new2 w _ _ _ _).1
  have x2 : RawAt 53 ((w.alloc (.cells #[.int .i64 x.f, .int .i64 x.t] 33)).alloc (.cells #[.int .i64 a, .int .i64 b] 53)) (w.heap.size + 1) #[.int .i64 a, .int .i64 b] := (new2 w _ _ _ _).2.1
  have xb : Below w.heap.size w ((w.alloc (.cells #[.int .i64 x.f, .int .i64 x.t] 33)).alloc (.cells #[.int .i64 a, .int .i64 b] 53)) := ((Below.refl _ _).alloc (Nat.le_refl _) _).alloc (by simp) _
  have HX1 := Lib.hid x1
  have HX2 := Lib.hid x2
  have HXB := Lib.hid xb
  have c0 := RawAt.cell x1 0
  have c1 := RawAt.cell x1 1
  have e0 := RawAt.cell x2 0
  have e1 := RawAt.cell x2 1
  simp at c0 c1 e0 e1
  clear x1 x2 xb
  by_cases g0 : n < 0
  · have k0 : decide (n < 0) = true := decide_eq_true g0
    go_enter Try.func6, Try.ntmps6
    go_wp2_with fail
    with_reducible refine (C3.out _).mono ?_
    rintro e w1 ⟨rfl, bb⟩
    have Q1 := Lib.hid (HXB.out.trans (bb.mono HXB.out.size))
    clear bb
    go_wp2
    go_ret
    exact ⟨rfl, Q1.out⟩
  · have k0 : decide (n < 0) = false := decide_eq_false g0
    by_cases g1 : 1073741824 < n
    · have k1 : decide (1073741824 < n) = true := decide_eq_true g1
      go_enter Try.func6, Try.ntmps6
      go_wp2_with fail
      with_reducible refine (C3.out _).mono ?_
      rintro e w1 ⟨rfl, bb⟩
      have Q1 := Lib.hid (HXB.out.trans (bb.mono HXB.out.size))
      clear bb
      go_wp2
      go_ret
      exact ⟨rfl, Q1.out⟩
    · have k1 : decide (1073741824 < n) = false := decide_eq_false g1
      by_cases g2 : a < 0
      · have k2 : decide (a < 0) = true := decide_eq_true g2
        go_enter Try.func6, Try.ntmps6
        go_wp2_with fail
        with_reducible refine (C3.out _).mono ?_
        rintro e w1 ⟨rfl, bb⟩
        have Q1 := Lib.hid (HXB.out.trans (bb.mono HXB.out.size))
        clear bb
        go_wp2
        go_ret
        exact ⟨rfl, Q1.out⟩
      · have k2 : decide (a < 0) = false := decide_eq_false g2
        by_cases g3 : n < a
        · have k3 : decide (n < a) = true := decide_eq_true g3
          go_enter Try.func6, Try.ntmps6
          go_wp2_with fail
          with_reducible refine (C3.out _).mono ?_
          rintro e w1 ⟨rfl, bb⟩
          have Q1 := Lib.hid (HXB.out.trans (bb.mono HXB.out.size))
          clear bb
          go_wp2
          go_ret
          exact ⟨rfl, Q1.out⟩
        · have k3 : decide (n < a) = false := decide_eq_false g3
          by_cases g4 : b < 1
          · have k4 : decide (b < 1) = true := decide_eq_true g4
            go_enter Try.func6, Try.ntmps6
            go_wp2_with fail
            with_reducible refine (C3.out _).mono ?_
            rintro e w1 ⟨rfl, bb⟩
            have Q1 := Lib.hid (HXB.out.trans (bb.mono HXB.out.size))
            clear bb
            go_wp2
            go_ret
            exact ⟨rfl, Q1.out⟩
          · have k4 : decide (b < 1) = false := decide_eq_false g4
            by_cases g5 : 1000 < b
            · have k5 : decide (1000 < b) = true := decide_eq_true g5
              go_enter Try.func6, Try.ntmps6
              go_wp2_with fail
              with_reducible refine (C3.out _).mono ?_
              rintro e w1 ⟨rfl, bb⟩
              have Q1 := Lib.hid (HXB.out.trans (bb.mono HXB.out.size))
              clear bb
              go_wp2
              go_ret
              exact ⟨rfl, Q1.out⟩
            · have k5 : decide (1000 < b) = false := decide_eq_false g5
              obtain ⟨r, hr⟩ : ∃ r, r = fwrong n [x] := ⟨_, rfl⟩
              have x3 : Below ((w.alloc (.cells #[.int .i64 x.f, .int .i64 x.t] 33)).alloc (.cells #[.int .i64 a, .int .i64 b] 53)).heap.size ((w.alloc (.cells #[.int .i64 x.f, .int .i64 x.t] 33)).alloc (.cells #[.int .i64 a, .int .i64 b] 53)) (((w.alloc (.cells #[.int .i64 x.f, .int .i64 x.t] 33)).alloc (.cells #[.int .i64 a, .int .i64 b] 53)).alloc (.cells #[.int .i64 x.f, .int .i64 x.t] 33)) := (Below.refl _ _).alloc (Nat.le_refl _) _
              have hsz3 : ((w.alloc (.cells #[.int .i64 x.f, .int .i64 x.t] 33)).alloc (.cells #[.int .i64 a, .int .i64 b] 53)).heap.size = w.heap.size + 2 := by simp
              have hrow : RowsAt encF 2 (((w.alloc (.cells #[.int .i64 x.f, .int .i64 x.t] 33)).alloc (.cells #[.int .i64 a, .int .i64 b] 53)).alloc (.cells #[.int .i64 x.f, .int .i64 x.t] 33)) (some ⟨((w.alloc (.cells #[.int .i64 x.f, .int .i64 x.t] 33)).alloc (.cells #[.int .i64 a, .int .i64 b] 53)).heap.size, 0, none⟩) [x] := rows_of_block (enc := encF) (k := 2) encF_len (heap_alloc_new ((w.alloc (.cells #[.int .i64 x.f, .int .i64 x.t] 33)).alloc (.cells #[.int .i64 a, .int .i64 b] 53)) _) (l := [x]) rfl
              rw [hsz3] at hrow
              have CN := Lib.hid (fNew_any n (some ⟨w.heap.size + 2, 0, none⟩) 1 1 [x] _ hrow ⟨Nat.le_refl _, fun h => by cases h⟩ rfl (fun y hy => by rw [List.mem_singleton.1 hy]; exact hx) r hr.symm)
              have HX3 := Lib.hid (HXB.out.trans (x3.mono HXB.out.size))
              have H13 := Lib.hid (HX1.out.below x3 HX1.out.lt)
              have H23 := Lib.hid (HX2.out.below x3 HX2.out.lt)
              have CRF := Lib.hid fun (W : World) (hR : RowsAt encF 2 W (some ⟨W.heap.size - 1, 0, none⟩) [x]) => rNew15 n (some ⟨W.heap.size - 1, 0, none⟩) 1 1 [x] W hR ⟨Nat.le_refl _, fun h => by cases h⟩ rfl r hr.symm
              clear x3 hrow HX1 HX2 HXB hsz3
              by_cases hz : r = 0
              · have hr0 : fwrong n [x] = 0 := hr.symm.trans hz
                obtain ⟨hx1, hx2, hx3⟩ := fwrong_one hr0
                have hord : ord flt [x] = [x] := rfl
                have hnr := gch_nrm (a := a) (b := b) (n := n) (by omega) (by omega) (by omega) (by omega) (by omega)
                have hsh := gfshift (a := a) (b := b) hx1 (by omega)
                have hwr := gfwrong (a := a) (n := n) hx1 (by omega) (b := b) (by omega) hx2 hx3 (by omega)
                have hdl : dlt [gch a b] = b := by simp [dlt, gch]; omega
                have his : FShIs n [gch a b] [x] 0 := ⟨fun h => absurd hnr h, fun _ h => absurd h (by show ¬ n < a; omega), fun _ _ => by rw [hdl, hsh]; exact hwr.symm⟩
                have CSH := Lib.hid fun (sb : Nat) (PA : Option Addr) (W : World) (hS : FSet W sb n [x]) (hP : ChsAt W PA [gch a b]) => fShift_any hS PA 1 1 [gch a b] hP rfl (by omega) (by omega) (by omega) (fun y hy => by rw [List.mem_singleton.1 hy]; exact ⟨hx1, hx2, hx3⟩) (by simp) 0 his (n + b) (by rw [hdl])
                have hor2 : ord flt (fshift [gch a b] [x]) = [⟨gyf x a b, gyt x a b⟩] := by rw [hsh]; rfl
                have HOR2 := Lib.hid hor2
                have hab : IntKind.i64.wrap (a + b) = a + b := IntWalk.i64_in _ (by omega)
                have hxf : IntKind.i64.wrap (x.f + b) = x.f + b := IntWalk.i64_in _ (by omega)
                have hxt : IntKind.i64.wrap (x.t + b) = x.t + b := IntWalk.i64_in _ (by omega)
                subst hz
                clear hr hr0 hord hnr hsh hwr hdl his hor2 CRF
                go_enter Try.func6, Try.ntmps6
                go_wp2_with fail
                with_reducible refine CN.out.mono ?_
                rintro e w1 ⟨p1, rfl, _, hp1, bb⟩
                obtain ⟨s1, rfl, h1⟩ := hp1 (by first | exact trivial | rfl)
                have h1 : FSet w1 s1 n [x] := h1
                have r1 := H13.out.below bb H13.out.lt
                have r2 := H23.out.below bb H23.out.lt
                have c0 := RawAt.cell r1 0
                have c1 := RawAt.cell r1 1
                have e0 := RawAt.cell r2 0
                have e1 := RawAt.cell r2 1
                simp at c0 c1 e0 e1
                have Q1 := Lib.hid (HX3.out.trans (bb.mono HX3.out.size))
                have x4 : Below w1.heap.size w1 (w1.alloc (.cells #[.int .i64 a, .int .i64 a, .int .i64 a, .int .i64 (a + b)] 55)) := (Below.refl _ _).alloc (Nat.le_refl _) _
                have CS1 := Lib.hid (CSH.out s1 (some ⟨w1.heap.size, 0, none⟩) (w1.alloc (.cells #[.int .i64 a, .int .i64 a, .int .i64 a, .int .i64 (a + b)] 55)) (h1.below x4) chs_one)
                have Q4 := Lib.hid (Q1.out.trans (x4.mono Q1.out.size))
                have R1 := Lib.hid (r1.below x4 r1.lt)
                have R2 := Lib.hid (r2.below x4 r2.lt)
                clear hp1 h1 bb r1 r2 x4 CN H13 H23 HX3 CSH
                go_wp2_with fail
                with_reducible refine CS1.out.mono ?_
                intro e w2 hres
                obtain ⟨p2, rfl, _, hp2, bb⟩ := hres
                obtain ⟨s2, rfl, h2⟩ := hp2 rfl
                rw [HOR2.out] at h2
                have r1 := R1.out.below bb R1.out.lt
                have r2 := R2.out.below bb R2.out.lt
                have Q2 := Lib.hid (Q4.out.trans (bb.mono Q4.out.size))
                have CA := Lib.hid (fAll_any h2 (by simp))
                have HR1 := Lib.hid r1
                have HR2 := Lib.hid r2
                clear hp2 h2 bb r1 r2 CS1 R1 R2 Q4 c0 c1 e0 e1
                go_wp2_with fail
                with_reducible refine CA.out.mono ?_
                rintro e w3 ⟨v3, rfl, o3, bb⟩
                obtain ⟨A3, c3, rfl, hR3, _, _⟩ := rows_of_own encF_len (by omega) o3
                obtain ⟨bA, off, rfl, hbA, d0, d1⟩ := hR3.in2F (j := 0) (by simp)
                simp at d0 d1
                have Q3 := Lib.hid (Q2.out.trans (bb.mono Q2.out.size))
                have r1 := HR1.out.below bb HR1.out.lt
                have r2 := HR2.out.below bb HR2.out.lt
                have c0 := RawAt.cell r1 0
                have c1 := RawAt.cell r1 1
                have e0 := RawAt.cell r2 0
                have e1 := RawAt.cell r2 1
                simp at c0 c1 e0 e1
                have hl1 := r1.lt
                have hl2 := r2.lt
                clear bb o3 hR3 HR1 HR2 r1 r2 CA Q2
                by_cases h1 : a ≤ x.f
                · have h2 : a < x.t := by omega
                  have m1 : decide (a ≤ x.f) = true := decide_eq_true h1
                  have m2 : decide (a < x.t) = true := decide_eq_true h2
                  have ey : gyf x a b = (x.f + b) := by unfold gyf; rw [if_pos h1]
                  have et : gyt x a b = (x.t + b) := by unfold gyt; rw [if_pos h2]
                  rw [ey] at d0
                  rw [et] at d1
                  have x5 : Below w3.heap.size w3 (w3.alloc (.cells #[.int .i64 (x.f + b), .int .i64 (x.t + b)] 33)) := (Below.refl _ _).alloc (Nat.le_refl _) _
                  have R5 : RawAt 33 (w3.alloc (.cells #[.int .i64 (x.f + b), .int .i64 (x.t + b)] 33)) w3.heap.size #[.int .i64 (x.f + b), .int .i64 (x.t + b)] := heap_alloc_new w3 _
                  have Q5 := Lib.hid (Q3.out.trans (x5.mono Q3.out.size))
                  have HD0 := Lib.hid (((old_cells x5).1 _ _ hbA).trans d0)
                  have HD1 := Lib.hid (((old_cells x5).1 _ _ hbA).trans d1)
                  have hbA5 : bA < (w3.alloc (.cells #[.int .i64 (x.f + b), .int .i64 (x.t + b)] 33)).heap.size := by simp; omega
                  have HR5 := Lib.hid R5
                  obtain ⟨W5, hW5⟩ : ∃ W5, W5 = w3.alloc (.cells #[.int .i64 (x.f + b), .int .i64 (x.t + b)] 33) := ⟨_, rfl⟩
                  rw [← hW5] at Q5 HD0 HD1 HR5 hbA5
                  have HW5 := Lib.hid hW5
                  have MK : Hid (∀ W : World, Below W5.heap.size W5 W → (fun W => W.cell? ⟨bA, off, none⟩ = some (.int .i64 (x.f + b)) ∧ W.cell? ⟨bA, off + 1, none⟩ = some (.int .i64 (x.t + b)) ∧ W.cell? ⟨w3.heap.size, 0, none⟩ = some (.int .i64 (x.f + b)) ∧ W.cell? ⟨w3.heap.size, 1, none⟩ = some (.int .i64 (x.t + b))) W) := Lib.hid fun W hW => ⟨((old_cells hW).1 _ _ hbA5).trans HD0.out, ((old_cells hW).1 _ _ hbA5).trans HD1.out, RawAt.cell (HR5.out.below hW HR5.out.lt) 0, RawAt.cell (HR5.out.below hW HR5.out.lt) 1⟩
                  have hW2 : Below W5.heap.size W5 W5.drew := (Below.refl _ _).drew
                  clear ey et x5 R5 hW5
                  go_wp2_with fail
                  rw [← HW5.out]
                  refine wp_region_noPanic ?_
                  refine wp_region_held_drew (S := (fun W => W.cell? ⟨bA, off, none⟩ = some (.int .i64 (x.f + b)) ∧ W.cell? ⟨bA, off + 1, none⟩ = some (.int .i64 (x.t + b)) ∧ W.cell? ⟨w3.heap.size, 0, none⟩ = some (.int .i64 (x.f + b)) ∧ W.cell? ⟨w3.heap.size, 1, none⟩ = some (.int .i64 (x.t + b)))) (by kernel_rfl) (MK.out _ hW2) (fun hHeld => ?_)
                  refine wpAnyH_take (i := 0) (v := ?_) rfl (by kernel_rfl) (by kernel_rfl) (by kernel_rfl) (fun _ _ _ h => h) (Or.inl ⟨by rfl, ?_⟩) hHeld ?_
                  rotate_left
                  · intro w hSw
                    (try dsimp only at hSw)
                    go_simp
                    try with_reducible rfl
                  go_simp
                  refine wpAnyH_take (i := 1) (v := ?_) rfl (by kernel_rfl) (by kernel_rfl) (by kernel_rfl) (fun _ _ _ h => h) (Or.inl ⟨by rfl, ?_⟩) hHeld ?_
                  rotate_left
                  · intro w hSw
                    (try dsimp only at hSw)
                    go_simp
                    try with_reducible rfl
                  go_simp
                  refine wpAnyH_take (i := 2) (v := ?_) rfl (by kernel_rfl) (by kernel_rfl) (by kernel_rfl) (fun _ _ _ h => h) (Or.inl ⟨by rfl, ?_⟩) hHeld ?_
                  rotate_left
                  · intro w hSw
                    (try dsimp only at hSw)
                    go_simp
                    try with_reducible rfl
                  go_simp
                  refine wpAnyH_take (i := 3) (v := ?_) rfl (by kernel_rfl) (by kernel_rfl) (by kernel_rfl) (fun _ _ _ h => h) (Or.inl ⟨by rfl, ?_⟩) hHeld ?_
                  rotate_left
                  · intro w hSw
                    (try dsimp only at hSw)
                    go_simp
                    try with_reducible rfl
                  go_simp
                  refine wpAnyH_take (i := 4) (v := ?_) rfl (by kernel_rfl) (by kernel_rfl) (by kernel_rfl) (fun _ _ _ h => h) (Or.inl ⟨by rfl, ?_⟩) hHeld ?_
                  rotate_left
                  · intro w hSw
                    (try dsimp only at hSw)
                    go_simp
                    try with_reducible rfl
                  go_simp
                  refine wpAnyH_take (i := 5) (v := ?_) rfl (by kernel_rfl) (by kernel_rfl) (by kernel_rfl) (fun _ _ _ h => h) (Or.inl ⟨by rfl, ?_⟩) hHeld ?_
                  rotate_left
                  · intro w hSw
                    (try dsimp only at hSw)
                    go_simp
                    try with_reducible rfl
                  go_simp
                  refine wpAnyH_ready (rs := [6]) (by kernel_rfl) (by simp) ?_
                  refine AllReadyH.cons rfl (fun K hK => ?_) ?_
                  rotate_left
                  · exact AllReadyH.nil
                  go_simp
                  go_wp2_with ((go_at_call 10; ((with_reducible refine (C3.out _).mono ?_); rintro e w9 ⟨rfl, b9⟩); have hW2 := hW2.trans (b9.mono hW2.size)))
                  refine hK.out _ _ (MK.out _ hW2) (fun hHeld => ?_)
                  clear hK K
                  go_simp
                  refine wpAnyH_take (i := 7) (v := ?_) rfl (by kernel_rfl) (by kernel_rfl) (by kernel_rfl) (fun _ _ _ h => h) (Or.inl ⟨by rfl, ?_⟩) hHeld ?_
                  rotate_left
                  · intro w hSw
                    (try dsimp only at hSw)
                    go_simp
                    try with_reducible rfl
                  go_simp
                  refine wpAnyH_take (i := 8) (v := ?_) rfl (by kernel_rfl) (by kernel_rfl) (by kernel_rfl) (fun _ _ _ h => h) (Or.inl ⟨by rfl, ?_⟩) hHeld ?_
                  rotate_left
                  · intro w hSw
                    (try dsimp only at hSw)
                    go_simp
                    try with_reducible rfl
                  go_simp
                  refine wpAnyH_done (by kernel_rfl) ?_ _
                  refine NoPanic.normal ?_
                  have HBZ := Lib.hid (Q5.out.trans (hW2.mono Q5.out.size))
                  clear hW2 hHeld
                  go_wp2
                  go_ret
                  exact ⟨rfl, HBZ.out⟩
                · by_cases h2 : a < x.t
                  · have m1 : decide (a ≤ x.f) = false := decide_eq_false h1
                    have m2 : decide (a < x.t) = true := decide_eq_true h2
                    have ey : gyf x a b = x.f := by unfold gyf; rw [if_neg h1]
                    have et : gyt x a b = (x.t + b) := by unfold gyt; rw [if_pos h2]
                    rw [ey] at d0
                    rw [et] at d1
                    have x5 : Below w3.heap.size w3 (w3.alloc (.cells #[.int .i64 x.f, .int .i64 (x.t + b)] 33)) := (Below.refl _ _).alloc (Nat.le_refl _) _
                    have R5 : RawAt 33 (w3.alloc (.cells #[.int .i64 x.f, .int .i64 (x.t + b)] 33)) w3.heap.size #[.int .i64 x.f, .int .i64 (x.t + b)] := heap_alloc_new w3 _
                    have Q5 := Lib.hid (Q3.out.trans (x5.mono Q3.out.size))
                    have HD0 := Lib.hid (((old_cells x5).1 _ _ hbA).trans d0)
                    have HD1 := Lib.hid (((old_cells x5).1 _ _ hbA).trans d1)
                    have hbA5 : bA < (w3.alloc (.cells #[.int .i64 x.f, .int .i64 (x.t + b)] 33)).heap.size := by simp; omega
                    have HR5 := Lib.hid R5
                    obtain ⟨W5, hW5⟩ : ∃ W5, W5 = w3.alloc (.cells #[.int .i64 x.f, .int .i64 (x.t + b)] 33) := ⟨_, rfl⟩
                    rw [← hW5] at Q5 HD0 HD1 HR5 hbA5
                    have HW5 := Lib.hid hW5
                    have MK : Hid (∀ W : World, Below W5.heap.size W5 W → (fun W => W.cell? ⟨bA, off, none⟩ = some (.int .i64 x.f) ∧ W.cell? ⟨bA, off + 1, none⟩ = some (.int .i64 (x.t + b)) ∧ W.cell? ⟨w3.heap.size, 0, none⟩ = some (.int .i64 x.f) ∧ W.cell? ⟨w3.heap.size, 1, none⟩ = some (.int .i64 (x.t + b))) W) := Lib.hid fun W hW => ⟨((old_cells hW).1 _ _ hbA5).trans HD0.out, ((old_cells hW).1 _ _ hbA5).trans HD1.out, RawAt.cell (HR5.out.below hW HR5.out.lt) 0, RawAt.cell (HR5.out.below hW HR5.out.lt) 1⟩
                    have hW2 : Below W5.heap.size W5 W5.drew := (Below.refl _ _).drew
                    clear ey et x5 R5 hW5
                    go_wp2_with fail
                    rw [← HW5.out]
                    refine wp_region_noPanic ?_
                    refine wp_region_held_drew (S := (fun W => W.cell? ⟨bA, off, none⟩ = some (.int .i64 x.f) ∧ W.cell? ⟨bA, off + 1, none⟩ = some (.int .i64 (x.t + b)) ∧ W.cell? ⟨w3.heap.size, 0, none⟩ = some (.int .i64 x.f) ∧ W.cell? ⟨w3.heap.size, 1, none⟩ = some (.int .i64 (x.t + b)))) (by kernel_rfl) (MK.out _ hW2) (fun hHeld => ?_)
                    refine wpAnyH_take (i := 0) (v := ?_) rfl (by kernel_rfl) (by kernel_rfl) (by kernel_rfl) (fun _ _ _ h => h) (Or.inl ⟨by rfl, ?_⟩) hHeld ?_
                    rotate_left
                    · intro w hSw
                      (try dsimp only at hSw)
                      go_simp
                      try with_reducible rfl
                    go_simp
                    refine wpAnyH_take (i := 1) (v := ?_) rfl (by kernel_rfl) (by kernel_rfl) (by kernel_rfl) (fun _ _ _ h => h) (Or.inl ⟨by rfl, ?_⟩) hHeld ?_
                    rotate_left
                    · intro w hSw
                      (try dsimp only at hSw)
                      go_simp
                      try with_reducible rfl
                    go_simp
                    refine wpAnyH_take (i := 2) (v := ?_) rfl (by kernel_rfl) (by kernel_rfl) (by kernel_rfl) (fun _ _ _ h => h) (Or.inl ⟨by rfl, ?_⟩) hHeld ?_
                    rotate_left
                    · intro w hSw
                      (try dsimp only at hSw)
                      go_simp
                      try with_reducible rfl
                    go_simp
                    refine wpAnyH_take (i := 3) (v := ?_) rfl (by kernel_rfl) (by kernel_rfl) (by kernel_rfl) (fun _ _ _ h => h) (Or.inl ⟨by rfl, ?_⟩) hHeld ?_
                    rotate_left
                    · intro w hSw
                      (try dsimp only at hSw)
                      go_simp
                      try with_reducible rfl
                    go_simp
                    refine wpAnyH_take (i := 4) (v := ?_) rfl (by kernel_rfl) (by kernel_rfl) (by kernel_rfl) (fun _ _ _ h => h) (Or.inl ⟨by rfl, ?_⟩) hHeld ?_
                    rotate_left
                    · intro w hSw
                      (try dsimp only at hSw)
                      go_simp
                      try with_reducible rfl
                    go_simp
                    refine wpAnyH_take (i := 5) (v := ?_) rfl (by kernel_rfl) (by kernel_rfl) (by kernel_rfl) (fun _ _ _ h => h) (Or.inl ⟨by rfl, ?_⟩) hHeld ?_
                    rotate_left
                    · intro w hSw
                      (try dsimp only at hSw)
                      go_simp
                      try with_reducible rfl
                    go_simp
                    refine wpAnyH_ready (rs := [6]) (by kernel_rfl) (by simp) ?_
                    refine AllReadyH.cons rfl (fun K hK => ?_) ?_
                    rotate_left
                    · exact AllReadyH.nil
                    go_simp
                    go_wp2_with ((go_at_call 10; ((with_reducible refine (C3.out _).mono ?_); rintro e w9 ⟨rfl, b9⟩); have hW2 := hW2.trans (b9.mono hW2.size)))
                    refine hK.out _ _ (MK.out _ hW2) (fun hHeld => ?_)
                    clear hK K
                    go_simp
                    refine wpAnyH_take (i := 7) (v := ?_) rfl (by kernel_rfl) (by kernel_rfl) (by kernel_rfl) (fun _ _ _ h => h) (Or.inl ⟨by rfl, ?_⟩) hHeld ?_
                    rotate_left
                    · intro w hSw
                      (try dsimp only at hSw)
                      go_simp
                      try with_reducible rfl
                    go_simp
                    refine wpAnyH_take (i := 8) (v := ?_) rfl (by kernel_rfl) (by kernel_rfl) (by kernel_rfl) (fun _ _ _ h => h) (Or.inl ⟨by rfl, ?_⟩) hHeld ?_
                    rotate_left
                    · intro w hSw
                      (try dsimp only at hSw)
                      go_simp
                      try with_reducible rfl
                    go_simp
                    refine wpAnyH_done (by kernel_rfl) ?_ _
                    refine NoPanic.normal ?_
                    have HBZ := Lib.hid (Q5.out.trans (hW2.mono Q5.out.size))
                    clear hW2 hHeld
                    go_wp2
                    go_ret
                    exact ⟨rfl, HBZ.out⟩
                  · have m1 : decide (a ≤ x.f) = false := decide_eq_false h1
                    have m2 : decide (a < x.t) = false := decide_eq_false h2
                    have ey : gyf x a b = x.f := by unfold gyf; rw [if_neg h1]
                    have et : gyt x a b = x.t := by unfold gyt; rw [if_neg h2]
                    rw [ey] at d0
                    rw [et] at d1
                    have x5 : Below w3.heap.size w3 (w3.alloc (.cells #[.int .i64 x.f, .int .i64 x.t] 33)) := (Below.refl _ _).alloc (Nat.le_refl _) _
                    have R5 : RawAt 33 (w3.alloc (.cells #[.int .i64 x.f, .int .i64 x.t] 33)) w3.heap.size #[.int .i64 x.f, .int .i64 x.t] := heap_alloc_new w3 _
                    have Q5 := Lib.hid (Q3.out.trans (x5.mono Q3.out.size))
                    have HD0 := Lib.hid (((old_cells x5).1 _ _ hbA).trans d0)
                    have HD1 := Lib.hid (((old_cells x5).1 _ _ hbA).trans d1)
                    have hbA5 : bA < (w3.alloc (.cells #[.int .i64 x.f, .int .i64 x.t] 33)).heap.size := by simp; omega
                    have HR5 := Lib.hid R5
                    obtain ⟨W5, hW5⟩ : ∃ W5, W5 = w3.alloc (.cells #[.int .i64 x.f, .int .i64 x.t] 33) := ⟨_, rfl⟩
                    rw [← hW5] at Q5 HD0 HD1 HR5 hbA5
                    have HW5 := Lib.hid hW5
                    have MK : Hid (∀ W : World, Below W5.heap.size W5 W → (fun W => W.cell? ⟨bA, off, none⟩ = some (.int .i64 x.f) ∧ W.cell? ⟨bA, off + 1, none⟩ = some (.int .i64 x.t) ∧ W.cell? ⟨w3.heap.size, 0, none⟩ = some (.int .i64 x.f) ∧ W.cell? ⟨w3.heap.size, 1, none⟩ = some (.int .i64 x.t)) W) := Lib.hid fun W hW => ⟨((old_cells hW).1 _ _ hbA5).trans HD0.out, ((old_cells hW).1 _ _ hbA5).trans HD1.out, RawAt.cell (HR5.out.below hW HR5.out.lt) 0, RawAt.cell (HR5.out.below hW HR5.out.lt) 1⟩
                    have hW2 : Below W5.heap.size W5 W5.drew := (Below.refl _ _).drew
                    clear ey et x5 R5 hW5
                    go_wp2_with fail
                    rw [← HW5.out]
                    refine wp_region_noPanic ?_
                    refine wp_region_held_drew (S := (fun W => W.cell? ⟨bA, off, none⟩ = some (.int .i64 x.f) ∧ W.cell? ⟨bA, off + 1, none⟩ = some (.int .i64 x.t) ∧ W.cell? ⟨w3.heap.size, 0, none⟩ = some (.int .i64 x.f) ∧ W.cell? ⟨w3.heap.size, 1, none⟩ = some (.int .i64 x.t))) (by kernel_rfl) (MK.out _ hW2) (fun hHeld => ?_)
                    refine wpAnyH_take (i := 0) (v := ?_) rfl (by kernel_rfl) (by kernel_rfl) (by kernel_rfl) (fun _ _ _ h => h) (Or.inl ⟨by rfl, ?_⟩) hHeld ?_
                    rotate_left
                    · intro w hSw
                      (try dsimp only at hSw)
                      go_simp
                      try with_reducible rfl
                    go_simp
                    refine wpAnyH_take (i := 1) (v := ?_) rfl (by kernel_rfl) (by kernel_rfl) (by kernel_rfl) (fun _ _ _ h => h) (Or.inl ⟨by rfl, ?_⟩) hHeld ?_
                    rotate_left
                    · intro w hSw
                      (try dsimp only at hSw)
                      go_simp
                      try with_reducible rfl
                    go_simp
                    refine wpAnyH_take (i := 2) (v := ?_) rfl (by kernel_rfl) (by kernel_rfl) (by kernel_rfl) (fun _ _ _ h => h) (Or.inl ⟨by rfl, ?_⟩) hHeld ?_
                    rotate_left
                    · intro w hSw
                      (try dsimp only at hSw)
                      go_simp
                      try with_reducible rfl
                    go_simp
                    refine wpAnyH_take (i := 3) (v := ?_) rfl (by kernel_rfl) (by kernel_rfl) (by kernel_rfl) (fun _ _ _ h => h) (Or.inl ⟨by rfl, ?_⟩) hHeld ?_
                    rotate_left
                    · intro w hSw
                      (try dsimp only at hSw)
                      go_simp
                      try with_reducible rfl
                    go_simp
                    refine wpAnyH_take (i := 4) (v := ?_) rfl (by kernel_rfl) (by kernel_rfl) (by kernel_rfl) (fun _ _ _ h => h) (Or.inl ⟨by rfl, ?_⟩) hHeld ?_
                    rotate_left
                    · intro w hSw
                      (try dsimp only at hSw)
                      go_simp
                      try with_reducible rfl
                    go_simp
                    refine wpAnyH_take (i := 5) (v := ?_) rfl (by kernel_rfl) (by kernel_rfl) (by kernel_rfl) (fun _ _ _ h => h) (Or.inl ⟨by rfl, ?_⟩) hHeld ?_
                    rotate_left
                    · intro w hSw
                      (try dsimp only at hSw)
                      go_simp
                      try with_reducible rfl
                    go_simp
                    refine wpAnyH_ready (rs := [6]) (by kernel_rfl) (by simp) ?_
                    refine AllReadyH.cons rfl (fun K hK => ?_) ?_
                    rotate_left
                    · exact AllReadyH.nil
                    go_simp
                    go_wp2_with ((go_at_call 10; ((with_reducible refine (C3.out _).mono ?_); rintro e w9 ⟨rfl, b9⟩); have hW2 := hW2.trans (b9.mono hW2.size)))
                    refine hK.out _ _ (MK.out _ hW2) (fun hHeld => ?_)
                    clear hK K
                    go_simp
                    refine wpAnyH_take (i := 7) (v := ?_) rfl (by kernel_rfl) (by kernel_rfl) (by kernel_rfl) (fun _ _ _ h => h) (Or.inl ⟨by rfl, ?_⟩) hHeld ?_
                    rotate_left
                    · intro w hSw
                      (try dsimp only at hSw)
                      go_simp
                      try with_reducible rfl
                    go_simp
                    refine wpAnyH_take (i := 8) (v := ?_) rfl (by kernel_rfl) (by kernel_rfl) (by kernel_rfl) (fun _ _ _ h => h) (Or.inl ⟨by rfl, ?_⟩) hHeld ?_
                    rotate_left
                    · intro w hSw
                      (try dsimp only at hSw)
                      go_simp
                      try with_reducible rfl
                    go_simp
                    refine wpAnyH_done (by kernel_rfl) ?_ _
                    refine NoPanic.normal ?_
                    have HBZ := Lib.hid (Q5.out.trans (hW2.mono Q5.out.size))
                    clear hW2 hHeld
                    go_wp2
                    go_ret
                    exact ⟨rfl, HBZ.out⟩
              · have k6 : (r != 0) = true := by simp [hz]
                have k7 : (r == 0) = false := by simp [hz]
                have k8 : decide (r = 0) = false := decide_eq_false hz
                have HZ := Lib.hid hz
                clear hz hr
                go_enter Try.func6, Try.ntmps6
                go_wp2_with fail
                with_reducible refine CN.out.mono ?_
                rintro e w1 ⟨p1, rfl, hp1, _, bb⟩
                have hp := hp1 HZ.out
                subst hp
                have r1 := H13.out.below bb H13.out.lt
                have c0 := RawAt.cell r1 0
                have c1 := RawAt.cell r1 1
                simp at c0 c1
                have Q1 := Lib.hid (HX3.out.trans (bb.mono HX3.out.size))
                have x4 : Below w1.heap.size w1 (w1.alloc (.cells #[.int .i64 x.f, .int .i64 x.t] 33)) := (Below.refl _ _).alloc (Nat.le_refl _) _
                have hsz4 : (w1.alloc (.cells #[.int .i64 x.f, .int .i64 x.t] 33)).heap.size - 1 = w1.heap.size := by simp
                have cr := CRF.out (w1.alloc (.cells #[.int .i64 x.f, .int .i64 x.t] 33)) (by rw [hsz4]; exact rows_of_block (enc := encF) (k := 2) encF_len (heap_alloc_new w1 _) (l := [x]) rfl)
                rw [hsz4] at cr
                have CR := Lib.hid cr
                have Q4 := Lib.hid (Q1.out.trans (x4.mono Q1.out.size))
                clear hp1 bb r1 x4 CN H13 H23 HX3 CRF cr hsz4
                go_wp2_with fail
                with_reducible refine CR.out.mono ?_
                rintro e w2 ⟨nn, A2, m2, c2, rfl, _, bb⟩
                have Q2 := Lib.hid (Q4.out.trans (bb.mono Q4.out.size))
                clear bb CR
                go_wp2_with fail
                with_reducible refine (C3.out _).mono ?_
                rintro e w9 ⟨rfl, bb⟩
                have Q9 := Lib.hid (Q2.out.trans (bb.mono Q2.out.size))
                clear bb
                go_wp2
                go_ret
                exact ⟨rfl, Q9.out⟩
end Go.Proofs.Ytnfjleobcfhpnaa
