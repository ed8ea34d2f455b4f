/- Creases: the law's outside. Creases: the law's beside. Creases: what the law CreaseUpdates wants besides: sorted sets stay, the document's Fits, what UGood is. -/
import Derived.Test.YtjkmkobnfhepaaaGreatCrUj
import Derived.Test.YtjkmkobnfhepaaaGreatCrX
namespace Go.Proofs.YtjkmkobnfhepaaaGreat
section
open Go.RowKit
set_option linter.unusedVariables false
theorem outX_snoc (f t : Int) (l : List (Int × Int)) (x : Int × Int) : outX f t (l ++ [x]) = outX f t l ++ (if x.2 ≤ f ∨ t ≤ x.1 then [x] else []) := by
  unfold outX
  rw [List.filter_append]
  by_cases h : x.2 ≤ f ∨ t ≤ x.1
  · rw [if_pos h, List.filter_cons, if_pos (decide_eq_true h)]; rfl
  · rw [if_neg h, List.filter_cons, if_neg (by rw [decide_eq_false h]; simp)]; rfl
theorem outX_len (f t : Int) (l : List (Int × Int)) : (outX f t l).length ≤ l.length := List.length_filter_le _ _
theorem outY_len (f t g : Int) : ∀ l : List (Int × Int), (outY f t g l).length ≤ l.length
  | [] => Nat.le_refl _
  | x :: l => by
    have := outY_len f t g l
    rw [outY]
    split
    · simpa using this
    · split
      · simpa using this
      · rw [List.length_cons]; omega
theorem take_ne {X Y : List (Int × Int)} {k : Nat} (h1 : k < X.length) (h2 : k < Y.length) (h : X[k] ≠ Y[k]) : X ≠ Y := fun e => h (by subst e; rfl)
theorem take_snoc {X Y : List (Int × Int)} {k : Nat} (h1 : k < X.length) (h2 : k < Y.length) (h : X.take k = Y.take k) (e : X[k] = Y[k]) : X.take (k + 1) = Y.take (k + 1) := by
  rw [List.take_succ_eq_append_getElem h1, List.take_succ_eq_append_getElem h2, h, e]
set_option maxHeartbeats 16000000 in
set_option maxRecDepth 100000 in
theorem lOutside_any (A : Option Addr) (m ca : Nat) (a : List (Int × Int)) (B : Option Addr) (k cb : Nat) (b : List (Int × Int)) (f t f' t' : Int) (w : World) (hA : RowsAt wencS 2 w A a) (hB : RowsAt wencS 2 w B b) (ha : a.length = m) (hb : b.length = k) (hm : m ≤ 100000) (hk : k ≤ 100000)
    (ht : 0 ≤ t ∧ t ≤ 1000000000) (ht' : 0 ≤ t' ∧ t' ≤ 1000000000) (hbd : ∀ x ∈ b, 0 ≤ x.1 ∧ x.1 ≤ 1000000000 ∧ 0 ≤ x.2 ∧ x.2 ≤ 1000000000) :
    Calls Tryz.prog 19 #[.slice A m ca, .slice B k cb, .agg #[.int .i64 f, .int .i64 t, .int .i64 f', .int .i64 t']] w fun e w' => e = .returned (.bool (decide (outX f t a = outY f' t' (t' - t) b))) ∧ Below w.heap.size w w' := by
  have HA := Lib.hid hA
  have HB := Lib.hid hB
  have HAL := Lib.hid ha
  have HBL := Lib.hid hb
  have HBD := Lib.hid hbd
  clear hA hB ha hb hbd
  have HE : Hid (decide (outX f t a = outY f' t' (t' - t) b) = true ↔ outX f t a = outY f' t' (t' - t) b) := Lib.hid decide_eq_true_iff
  generalize decide (outX f t a = outY f' t' (t' - t) b) = r at *
  have HNo : Hid (outX f t a ≠ outY f' t' (t' - t) b → r = false) := Lib.hid fun h => by cases r; rfl; exact absurd (HE.out.mp rfl) h
  have n0 : RawAt 48 (w.alloc (.cells #[.int .i64 f, .int .i64 t, .int .i64 f', .int .i64 t'] 48)) w.heap.size #[.int .i64 f, .int .i64 t, .int .i64 f', .int .i64 t'] := heap_alloc_new w _
  have b0 : Below w.heap.size w (w.alloc (.cells #[.int .i64 f, .int .i64 t, .int .i64 f', .int .i64 t'] 48)) := (Below.refl _ _).alloc (Nat.le_refl _) _
  go_enter Tryz.func19, Tryz.ntmps19
  go_upto_region 2 with fail
  generalize w.alloc (.cells #[.int .i64 f, .int .i64 t, .int .i64 f', .int .i64 t'] 48) = W0 at *
  have HN0 := Lib.hid n0
  have HB0 := Lib.hid b0
  clear n0 b0
  go_wp2_with fail
  go_loopg [7, 17] m (fun g v i wr => ∃ (j : Nat), i = .int .i64 j ∧ j ≤ m ∧ m - j ≤ g ∧ Hid (Below W0.heap.size W0 wr) ∧ Hid (wr.ownsRow W0.heap.size 27 2 v (outX f t (a.take j)).length (kfl wencS (outX f t (a.take j)))))
  case atStart => exact ⟨0, rfl, by omega, by omega, Lib.hid (Below.refl _ _), Lib.hid (World.ownsRow_nil _ _ _ _)⟩
  case round =>
    obtain ⟨j, rfl, h1, h2, hb, hown⟩ := hrel
    by_cases hlt : j < m
    · skip
      have hjl : j < a.length := by rw [HAL.out]; exact hlt
      have HX := Lib.hid (HB0.out.trans (hb.out.mono HB0.out.size))
      obtain ⟨bA, off, rfl, hbA, d0, d1⟩ := wrowsS (HA.out.below HX.out) hjl
      have hws := outX_snoc f t (a.take j) a[j]
      rw [← List.take_succ_eq_append_getElem hjl] at hws
      have HWS := Lib.hid hws
      have HME : Hid (a[j] ∈ a) := Lib.hid (List.getElem_mem hjl)
      clear hws
      generalize a[j] = x at *
      obtain ⟨u0, u1⟩ := x
      simp only at *
      have i1 : (0 : Int) ≤ j := by omega
      have i2 : (j : Int) < m := by omega
      have x3 : Below wr.heap.size wr (wr.alloc (.cells #[.int .i64 u0, .int .i64 u1] 27)) := (Below.refl _ _).alloc (Nat.le_refl _) _
      have R3 : RawAt 27 (wr.alloc (.cells #[.int .i64 u0, .int .i64 u1] 27)) wr.heap.size #[.int .i64 u0, .int .i64 u1] := heap_alloc_new wr _
      have hBx := RawAt.below HN0.out hb.out HN0.out.lt
      have hYb := RawAt.below hBx x3 hBx.lt
      have q0 : (wr.alloc (.cells #[.int .i64 u0, .int .i64 u1] 27)).cell? ⟨w.heap.size, 0, none⟩ = some (.int .i64 f) := RawAt.cell hYb 0
      have q1 : (wr.alloc (.cells #[.int .i64 u0, .int .i64 u1] 27)).cell? ⟨w.heap.size, 1, none⟩ = some (.int .i64 t) := RawAt.cell hYb 1
      have q2 : (wr.alloc (.cells #[.int .i64 u0, .int .i64 u1] 27)).cell? ⟨w.heap.size, 2, none⟩ = some (.int .i64 f') := RawAt.cell hYb 2
      have q3 : (wr.alloc (.cells #[.int .i64 u0, .int .i64 u1] 27)).cell? ⟨w.heap.size, 3, none⟩ = some (.int .i64 t') := RawAt.cell hYb 3
      have HB3 := Lib.hid (hb.out.trans (x3.mono hb.out.size))
      have HO3 := Lib.hid (own_below hown.out x3)
      obtain ⟨A9, c9, rfl⟩ := own_form hown.out
      have hlt4 := hown.out.lt
      have hz3 : (wr.alloc (.cells #[.int .i64 u0, .int .i64 u1] 27)).heap.size = wr.heap.size + 1 := by simp
      clear hBx hYb hown hb
      have hol := outX_len f t (a.take j)
      rw [List.length_take] at hol
      by_cases g1 : u1 ≤ f
      · have k1 : decide (u1 ≤ f) = true := decide_eq_true g1
        have HN := HWS.out
        rw [if_pos (Or.inl g1)] at HN
        have HN := Lib.hid HN
        clear HWS
        generalize hW3 : wr.alloc (.cells #[.int .i64 u0, .int .i64 u1] 27) = W3 at *
        have x4 : Below W3.heap.size W3 (W3.alloc (.cells #[.int .i64 u0, .int .i64 u1] 27)) := (Below.refl _ _).alloc (Nat.le_refl _) _
        have R4 : RawAt 27 (W3.alloc (.cells #[.int .i64 u0, .int .i64 u1] 27)) W3.heap.size #[.int .i64 u0, .int .i64 u1] := heap_alloc_new W3 _
        have HO4 := Lib.hid (own_below HO3.out x4)
        have HS4 : Hid (RowsAt wencS 2 (W3.alloc (.cells #[.int .i64 u0, .int .i64 u1] 27)) (some ⟨wr.heap.size + 1, 0, none⟩) [(u0, u1)]) := Lib.hid (by rw [← hz3]; exact rows_of_block (enc := wencS) (k := 2) wencS_len R4 (l := [(u0, u1)]) rfl)
        have HB4 := Lib.hid (HB3.out.trans (x4.mono HB3.out.size))
        have HW3 := Lib.hid hW3
        clear x4 R4 hW3 hz3
        rw [← HW3.out] at HO4 HS4 HB4 q0 q1 q2 q3
        go_wp2_with (at_builtin; refine wpList_appK (enc := wencS) cspan_slt wencS_len (by omega) rfl (.tmp 35) (.tmp 37) rfl (base := W0.heap.size) (v := .slice A9 (outX f t (a.take j)).length c9) rfl HO4.out _ 1 1 [(u0, u1)] rfl HS4.out ⟨Nat.le_refl _, fun h => by cases h⟩ rfl (kfl_one' wencS_one _) (by simp only [maxLen]; omega) (by omega) HB4.out.size ?_; intro v5 w5' hown5 hg5 hor5)
        have hb5 := Lib.hid (HB4.out.grown hg5 HB4.out.size (fun j hj => (hlt4 j hj).1))
        have hO5 : Hid (w5'.ownsRow W0.heap.size 27 2 v5 (outX f t (a.take (j + 1))).length (kfl wencS (outX f t (a.take (j + 1))))) := Lib.hid (by rw [HN.out, kfl_append, List.length_append]; exact hown5)
        clear hown5 hg5 hor5 HO4 HS4 HB4 HB3 HO3
        go_wp2
        go_roundg (gk - 1)
        case measure => omega
        case rel => exact ⟨j + 1, by go_num, by omega, by omega, hb5, hO5⟩
      · have k1 : decide (u1 ≤ f) = false := decide_eq_false g1
        by_cases g2 : t ≤ u0
        · have k2 : decide (t ≤ u0) = true := decide_eq_true g2
          have HN := HWS.out
          rw [if_pos (Or.inr g2)] at HN
          have HN := Lib.hid HN
          clear HWS
          generalize hW3 : wr.alloc (.cells #[.int .i64 u0, .int .i64 u1] 27) = W3 at *
          have x4 : Below W3.heap.size W3 (W3.alloc (.cells #[.int .i64 u0, .int .i64 u1] 27)) := (Below.refl _ _).alloc (Nat.le_refl _) _
          have R4 : RawAt 27 (W3.alloc (.cells #[.int .i64 u0, .int .i64 u1] 27)) W3.heap.size #[.int .i64 u0, .int .i64 u1] := heap_alloc_new W3 _
          have HO4 := Lib.hid (own_below HO3.out x4)
          have HS4 : Hid (RowsAt wencS 2 (W3.alloc (.cells #[.int .i64 u0, .int .i64 u1] 27)) (some ⟨wr.heap.size + 1, 0, none⟩) [(u0, u1)]) := Lib.hid (by rw [← hz3]; exact rows_of_block (enc := wencS) (k := 2) wencS_len R4 (l := [(u0, u1)]) rfl)
          have HB4 := Lib.hid (HB3.out.trans (x4.mono HB3.out.size))
          have HW3 := Lib.hid hW3
          clear x4 R4 hW3 hz3
          rw [← HW3.out] at HO4 HS4 HB4 q0 q1 q2 q3
          go_wp2_with (at_builtin; refine wpList_appK (enc := wencS) cspan_slt wencS_len (by omega) rfl (.tmp 35) (.tmp 37) rfl (base := W0.heap.size) (v := .slice A9 (outX f t (a.take j)).length c9) rfl HO4.out _ 1 1 [(u0, u1)] rfl HS4.out ⟨Nat.le_refl _, fun h => by cases h⟩ rfl (kfl_one' wencS_one _) (by simp only [maxLen]; omega) (by omega) HB4.out.size ?_; intro v5 w5' hown5 hg5 hor5)
          have hb5 := Lib.hid (HB4.out.grown hg5 HB4.out.size (fun j hj => (hlt4 j hj).1))
          have hO5 : Hid (w5'.ownsRow W0.heap.size 27 2 v5 (outX f t (a.take (j + 1))).length (kfl wencS (outX f t (a.take (j + 1))))) := Lib.hid (by rw [HN.out, kfl_append, List.length_append]; exact hown5)
          clear hown5 hg5 hor5 HO4 HS4 HB4 HB3 HO3
          go_wp2
          go_roundg (gk - 1)
          case measure => omega
          case rel => exact ⟨j + 1, by go_num, by omega, by omega, hb5, hO5⟩
        · have k2 : decide (t ≤ u0) = false := decide_eq_false g2
          have HN := HWS.out
          rw [if_neg (by omega), List.append_nil] at HN
          clear HWS
          go_wp2
          go_roundg (gk - 1)
          case measure => omega
          case rel => exact ⟨j + 1, by go_num, by omega, by omega, HB3, Lib.hid (by rw [HN]; exact HO3.out)⟩
    · obtain rfl : j = m := by omega
      have hx := hown.out
      rw [List.take_of_length_le (by rw [HAL.out]; exact Nat.le_refl _)] at hx
      obtain ⟨AX, cX, rfl, hXr, hXl, _⟩ := rows_of_own wencS_len (by omega) hx
      have HXR := Lib.hid hXr
      have HXB := Lib.hid (HB0.out.trans (hb.out.mono HB0.out.size))
      have HNX := Lib.hid (RawAt.below HN0.out hb.out HN0.out.lt)
      have hxle := outX_len f t a
      rw [HAL.out] at hxle
      clear hx hXr hXl hown hb
      have q0 := RawAt.cell HNX.out 0
      have q1 := RawAt.cell HNX.out 1
      have q2 := RawAt.cell HNX.out 2
      have q3 := RawAt.cell HNX.out 3
      simp at q0 q1 q2 q3
      have wg : IntKind.i64.wrap (t' - t) = t' - t := IntWalk.i64_in _ (by omega)
      go_upto_region 9 with fail
      obtain ⟨W2, hW2⟩ : ∃ W, W = wr := ⟨_, rfl⟩
      rw [← hW2] at HXR HXB HNX ⊢
      clear hW2 q0 q1 q2 q3
      go_wp2_with fail
      go_loopg [8, 49] k (fun g v i wr => ∃ (z : Nat), i = .int .i64 z ∧ z ≤ k ∧ k - z ≤ g ∧ Hid (Below W2.heap.size W2 wr) ∧ Hid (wr.ownsRow W2.heap.size 27 2 v (outY f' t' (t' - t) (b.take z)).length (kfl wencS (outY f' t' (t' - t) (b.take z)))))
      case atStart => exact ⟨0, rfl, by omega, by omega, Lib.hid (Below.refl _ _), Lib.hid (World.ownsRow_nil _ _ _ _)⟩
      case round =>
        obtain ⟨z, rfl, h1, h2, hb, hown⟩ := hrel
        by_cases hlt : z < k
        · skip
          have hjl : z < b.length := by rw [HBL.out]; exact hlt
          have HX := Lib.hid (HXB.out.trans (hb.out.mono HXB.out.size))
          obtain ⟨bA, off, rfl, hbA, d0, d1⟩ := wrowsS (HB.out.below HX.out) hjl
          have hws := outY_snoc f' t' (t' - t) (b.take z) b[z]
          rw [← List.take_succ_eq_append_getElem hjl] at hws
          have HWS := Lib.hid hws
          have HME : Hid (b[z] ∈ b) := Lib.hid (List.getElem_mem hjl)
          clear hws
          generalize b[z] = x at *
          obtain ⟨u0, u1⟩ := x
          simp only at *
          have i1 : (0 : Int) ≤ z := by omega
          have i2 : (z : Int) < k := by omega
          have x3 : Below wr.heap.size wr (wr.alloc (.cells #[.int .i64 u0, .int .i64 u1] 27)) := (Below.refl _ _).alloc (Nat.le_refl _) _
          have R3 : RawAt 27 (wr.alloc (.cells #[.int .i64 u0, .int .i64 u1] 27)) wr.heap.size #[.int .i64 u0, .int .i64 u1] := heap_alloc_new wr _
          have hBx := RawAt.below HNX.out hb.out HNX.out.lt
          have hYb := RawAt.below hBx x3 hBx.lt
          have q0 : (wr.alloc (.cells #[.int .i64 u0, .int .i64 u1] 27)).cell? ⟨w.heap.size, 0, none⟩ = some (.int .i64 f) := RawAt.cell hYb 0
          have q1 : (wr.alloc (.cells #[.int .i64 u0, .int .i64 u1] 27)).cell? ⟨w.heap.size, 1, none⟩ = some (.int .i64 t) := RawAt.cell hYb 1
          have q2 : (wr.alloc (.cells #[.int .i64 u0, .int .i64 u1] 27)).cell? ⟨w.heap.size, 2, none⟩ = some (.int .i64 f') := RawAt.cell hYb 2
          have q3 : (wr.alloc (.cells #[.int .i64 u0, .int .i64 u1] 27)).cell? ⟨w.heap.size, 3, none⟩ = some (.int .i64 t') := RawAt.cell hYb 3
          have HB3 := Lib.hid (hb.out.trans (x3.mono hb.out.size))
          have HO3 := Lib.hid (own_below hown.out x3)
          obtain ⟨A9, c9, rfl⟩ := own_form hown.out
          have hlt4 := hown.out.lt
          have hz3 : (wr.alloc (.cells #[.int .i64 u0, .int .i64 u1] 27)).heap.size = wr.heap.size + 1 := by simp
          clear hBx hYb hown hb
          have hol := outY_len f' t' (t' - t) (b.take z)
          rw [List.length_take] at hol
          have hux := HBD.out _ HME.out
          simp only at hux
          by_cases g1 : u1 ≤ f'
          · have k1 : decide (u1 ≤ f') = true := decide_eq_true g1
            have HN := HWS.out
            rw [if_pos g1] at HN
            have HN := Lib.hid HN
            clear HWS
            generalize hW3 : wr.alloc (.cells #[.int .i64 u0, .int .i64 u1] 27) = W3 at *
            have x4 : Below W3.heap.size W3 (W3.alloc (.cells #[.int .i64 u0, .int .i64 u1] 27)) := (Below.refl _ _).alloc (Nat.le_refl _) _
            have R4 : RawAt 27 (W3.alloc (.cells #[.int .i64 u0, .int .i64 u1] 27)) W3.heap.size #[.int .i64 u0, .int .i64 u1] := heap_alloc_new W3 _
            have HO4 := Lib.hid (own_below HO3.out x4)
            have HS4 : Hid (RowsAt wencS 2 (W3.alloc (.cells #[.int .i64 u0, .int .i64 u1] 27)) (some ⟨wr.heap.size + 1, 0, none⟩) [(u0, u1)]) := Lib.hid (by rw [← hz3]; exact rows_of_block (enc := wencS) (k := 2) wencS_len R4 (l := [(u0, u1)]) rfl)
            have HB4 := Lib.hid (HB3.out.trans (x4.mono HB3.out.size))
            have HW3 := Lib.hid hW3
            clear x4 R4 hW3 hz3
            rw [← HW3.out] at HO4 HS4 HB4 q0 q1 q2 q3
            go_wp2_with (at_builtin; refine wpList_appK (enc := wencS) cspan_slt wencS_len (by omega) rfl (.tmp 59) (.tmp 61) rfl (base := W2.heap.size) (v := .slice A9 (outY f' t' (t' - t) (b.take z)).length c9) rfl HO4.out _ 1 1 [(u0, u1)] rfl HS4.out ⟨Nat.le_refl _, fun h => by cases h⟩ rfl (kfl_one' wencS_one _) (by simp only [maxLen]; omega) (by omega) HB4.out.size ?_; intro v5 w5' hown5 hg5 hor5)
            have hb5 := Lib.hid (HB4.out.grown hg5 HB4.out.size (fun j hj => (hlt4 j hj).1))
            have hO5 : Hid (w5'.ownsRow W2.heap.size 27 2 v5 (outY f' t' (t' - t) (b.take (z + 1))).length (kfl wencS (outY f' t' (t' - t) (b.take (z + 1))))) := Lib.hid (by rw [HN.out, kfl_append, List.length_append]; exact hown5)
            clear hown5 hg5 hor5 HO4 HS4 HB4 HB3 HO3
            go_wp2
            go_roundg (gk - 1)
            case measure => omega
            case rel => exact ⟨z + 1, by go_num, by omega, by omega, hb5, hO5⟩
          · have k1 : decide (u1 ≤ f') = false := decide_eq_false g1
            by_cases g2 : t' ≤ u0
            · have k2 : decide (t' ≤ u0) = true := decide_eq_true g2
              have wx1 : IntKind.i64.wrap (u0 - (t' - t)) = u0 - (t' - t) := IntWalk.i64_in _ (by omega)
              have wx2 : IntKind.i64.wrap (u1 - (t' - t)) = u1 - (t' - t) := IntWalk.i64_in _ (by omega)
              have HN := HWS.out
              rw [if_neg g1, if_pos g2] at HN
              have HN := Lib.hid HN
              clear HWS
              generalize hW3 : wr.alloc (.cells #[.int .i64 u0, .int .i64 u1] 27) = W3 at *
              have x4 : Below W3.heap.size W3 (W3.alloc (.cells #[.int .i64 (u0 - (t' - t)), .int .i64 (u1 - (t' - t))] 27)) := (Below.refl _ _).alloc (Nat.le_refl _) _
              have R4 : RawAt 27 (W3.alloc (.cells #[.int .i64 (u0 - (t' - t)), .int .i64 (u1 - (t' - t))] 27)) W3.heap.size #[.int .i64 (u0 - (t' - t)), .int .i64 (u1 - (t' - t))] := heap_alloc_new W3 _
              have HO4 := Lib.hid (own_below HO3.out x4)
              have HS4 : Hid (RowsAt wencS 2 (W3.alloc (.cells #[.int .i64 (u0 - (t' - t)), .int .i64 (u1 - (t' - t))] 27)) (some ⟨wr.heap.size + 1, 0, none⟩) [(u0 - (t' - t), u1 - (t' - t))]) := Lib.hid (by rw [← hz3]; exact rows_of_block (enc := wencS) (k := 2) wencS_len R4 (l := [(u0 - (t' - t), u1 - (t' - t))]) rfl)
              have HB4 := Lib.hid (HB3.out.trans (x4.mono HB3.out.size))
              have HW3 := Lib.hid hW3
              clear x4 R4 hW3 hz3
              rw [← HW3.out] at HO4 HS4 HB4 q0 q1 q2 q3
              go_wp2_with (at_builtin; refine wpList_appK (enc := wencS) cspan_slt wencS_len (by omega) rfl (.tmp 69) (.tmp 79) rfl (base := W2.heap.size) (v := .slice A9 (outY f' t' (t' - t) (b.take z)).length c9) rfl HO4.out _ 1 1 [(u0 - (t' - t), u1 - (t' - t))] rfl HS4.out ⟨Nat.le_refl _, fun h => by cases h⟩ rfl (kfl_one' wencS_one _) (by simp only [maxLen]; omega) (by omega) HB4.out.size ?_; intro v5 w5' hown5 hg5 hor5)
              have hb5 := Lib.hid (HB4.out.grown hg5 HB4.out.size (fun j hj => (hlt4 j hj).1))
              have hO5 : Hid (w5'.ownsRow W2.heap.size 27 2 v5 (outY f' t' (t' - t) (b.take (z + 1))).length (kfl wencS (outY f' t' (t' - t) (b.take (z + 1))))) := Lib.hid (by rw [HN.out, kfl_append, List.length_append]; exact hown5)
              clear hown5 hg5 hor5 HO4 HS4 HB4 HB3 HO3
              go_wp2
              go_roundg (gk - 1)
              case measure => omega
              case rel => exact ⟨z + 1, by go_num, by omega, by omega, hb5, hO5⟩
            · have k2 : decide (t' ≤ u0) = false := decide_eq_false g2
              have HN := HWS.out
              rw [if_neg g1, if_neg g2, List.append_nil] at HN
              clear HWS
              go_wp2
              go_roundg (gk - 1)
              case measure => omega
              case rel => exact ⟨z + 1, by go_num, by omega, by omega, HB3, Lib.hid (by rw [HN]; exact HO3.out)⟩
        · obtain rfl : z = k := by omega
          have hx := hown.out
          rw [List.take_of_length_le (by rw [HBL.out]; exact Nat.le_refl _)] at hx
          obtain ⟨AY, cY, rfl, hYr, hYl, _⟩ := rows_of_own wencS_len (by omega) hx
          have HYR := Lib.hid hYr
          have HXR3 := Lib.hid (HXR.out.below hb.out)
          have HYB := Lib.hid (HXB.out.trans (hb.out.mono HXB.out.size))
          have hyle := outY_len f' t' (t' - t) b
          rw [HBL.out] at hyle
          clear hx hYr hYl hown hb HXR HXB HNX HN0 HB0 HA HB HBD
          generalize outX f t a = X at *
          generalize outY f' t' (t' - t) b = Y at *
          obtain ⟨q, hq⟩ : ∃ q, q = X.length := ⟨_, rfl⟩
          obtain ⟨s, hs⟩ : ∃ q, q = Y.length := ⟨_, rfl⟩
          rw [← hq] at hxle ⊢
          rw [← hs] at hyle ⊢
          have HQ := Lib.hid hq
          have HS := Lib.hid hs
          clear hq hs
          obtain ⟨W3, hW3⟩ : ∃ W, W = wr := ⟨_, rfl⟩
          rw [← hW3] at HXR3 HYR HYB ⊢
          clear hW3
          go_wp2_with fail
          go_loopg [84] q (fun g i wr => ∃ (d : Nat), i = .int .i64 d ∧ d ≤ q ∧ q - d ≤ g ∧ d ≤ s ∧ Hid (X.take d = Y.take d) ∧ Hid (Below W3.heap.size W3 wr))
          case atStart => exact ⟨0, rfl, by omega, by omega, by omega, Lib.hid rfl, Lib.hid (Below.refl _ _)⟩
          case round =>
            obtain ⟨d, rfl, h1, h2, h3, hJ, hb⟩ := hrel
            by_cases hlt : d < q
            · have hxl : d < X.length := by rw [← HQ.out]; exact hlt
              have i1 : (0 : Int) ≤ d := by omega
              have i2 : (d : Int) < q := by omega
              have HB3 := Lib.hid (HYB.out.trans ((hb.out.drew).mono HYB.out.size))
              obtain ⟨bX, offX, rfl, hbX, e0, e1⟩ := wrowsS (HXR3.out.below hb.out) hxl
              by_cases hlt2 : d < s
              · have hyl : d < Y.length := by rw [← HS.out]; exact hlt2
                have i3 : (d : Int) < s := by omega
                have kq : decide ((s : Int) ≤ d) = false := decide_eq_false (by omega)
                have kqn : decide (s ≤ d) = false := decide_eq_false (by omega)
                obtain ⟨bY, offY, rfl, hbY, d0, d1⟩ := wrowsS (HYR.out.below hb.out) hyl
                have HT := Lib.hid fun e => take_snoc hxl hyl hJ.out e
                have HNE := Lib.hid fun e => take_ne hxl hyl e
                generalize X[d] = x at *
                generalize Y[d] = y at *
                obtain ⟨u0, u1⟩ := x
                obtain ⟨v0, v1⟩ := y
                simp only at *
                go_upto_region 20 with fail
                have HH : Hid ((fun V => V.cell? ⟨bX, offX + d * 2, none⟩ = some (.int .i64 u0) ∧ V.cell? ⟨bX, offX + d * 2 + 1, none⟩ = some (.int .i64 u1) ∧ V.cell? ⟨bY, offY + d * 2, none⟩ = some (.int .i64 v0) ∧ V.cell? ⟨bY, offY + d * 2 + 1, none⟩ = some (.int .i64 v1)) wr.drew) := Lib.hid ⟨e0, e1, d0, d1⟩
                clear e0 e1 d0 d1
                by_cases c0 : u0 = v0
                · by_cases c1 : u1 = v1
                  · subst c0 c1
                    have HT1 := Lib.hid (HT.out rfl)
                    have HB5 := Lib.hid hb.out.drew
                    clear HT HNE
                    refine wp_region_noPanic ?_
                    refine wp_region_held_drew (S := (fun V => V.cell? ⟨bX, offX + d * 2, none⟩ = some (.int .i64 u0) ∧ V.cell? ⟨bX, offX + d * 2 + 1, none⟩ = some (.int .i64 u1) ∧ V.cell? ⟨bY, offY + d * 2, none⟩ = some (.int .i64 u0) ∧ V.cell? ⟨bY, offY + d * 2 + 1, none⟩ = some (.int .i64 u1))) (by kernel_rfl) (HH.out) (fun hHeld => ?_)
                    refine wpAnyH_take (i := 0) (v := ?_) rfl (by kernel_rfl) (by kernel_rfl) (by kernel_rfl) (fun _ _ _ h => h) (Or.inl ⟨by rfl, ?_⟩) hHeld ?_
                    rotate_left
                    · intro w hSw; (try dsimp only at hSw); go_simp; try with_reducible rfl
                    go_simp
                    refine wpAnyH_take (i := 1) (v := ?_) rfl (by kernel_rfl) (by kernel_rfl) (by kernel_rfl) (fun _ _ _ h => h) (Or.inl ⟨by rfl, ?_⟩) hHeld ?_
                    rotate_left
                    · intro w hSw; (try dsimp only at hSw); go_simp; try with_reducible rfl
                    go_simp
                    refine wpAnyH_take (i := 2) (v := ?_) rfl (by kernel_rfl) (by kernel_rfl) (by kernel_rfl) (fun _ _ _ h => h) (Or.inl ⟨by rfl, ?_⟩) hHeld ?_
                    rotate_left
                    · intro w hSw; (try dsimp only at hSw); go_simp; try with_reducible rfl
                    go_simp
                    refine wpAnyH_take (i := 3) (v := ?_) rfl (by kernel_rfl) (by kernel_rfl) (by kernel_rfl) (fun _ _ _ h => h) (Or.inl ⟨by rfl, ?_⟩) hHeld ?_
                    rotate_left
                    · intro w hSw; (try dsimp only at hSw); go_simp; try with_reducible rfl
                    go_simp
                    refine wpAnyH_take (i := 4) (v := ?_) rfl (by kernel_rfl) (by kernel_rfl) (by kernel_rfl) (fun _ _ _ h => h) (Or.inl ⟨by rfl, ?_⟩) hHeld ?_
                    rotate_left
                    · intro w hSw; (try dsimp only at hSw); go_simp; try with_reducible rfl
                    go_simp
                    refine wpAnyH_take (i := 5) (v := ?_) rfl (by kernel_rfl) (by kernel_rfl) (by kernel_rfl) (fun _ _ _ h => h) (Or.inl ⟨by rfl, ?_⟩) hHeld ?_
                    rotate_left
                    · intro w hSw; (try dsimp only at hSw); go_simp; try with_reducible rfl
                    go_simp
                    refine wpAnyH_take (i := 6) (v := ?_) rfl (by kernel_rfl) (by kernel_rfl) (by kernel_rfl) (fun _ _ _ h => h) (Or.inl ⟨by rfl, ?_⟩) hHeld ?_
                    rotate_left
                    · intro w hSw; (try dsimp only at hSw); go_simp; try with_reducible rfl
                    go_simp
                    refine wpAnyH_take (i := 7) (v := ?_) rfl (by kernel_rfl) (by kernel_rfl) (by kernel_rfl) (fun _ _ _ h => h) (Or.inl ⟨by rfl, ?_⟩) hHeld ?_
                    rotate_left
                    · intro w hSw; (try dsimp only at hSw); go_simp; try with_reducible rfl
                    go_simp
                    refine wpAnyH_take (i := 8) (v := ?_) rfl (by kernel_rfl) (by kernel_rfl) (by kernel_rfl) (fun _ _ _ h => h) (Or.inl ⟨by rfl, ?_⟩) hHeld ?_
                    rotate_left
                    · intro w hSw; (try dsimp only at hSw); go_simp; try with_reducible rfl
                    go_simp
                    refine wpAnyH_take (i := 9) (v := ?_) rfl (by kernel_rfl) (by kernel_rfl) (by kernel_rfl) (fun _ _ _ h => h) (Or.inl ⟨by rfl, ?_⟩) hHeld ?_
                    rotate_left
                    · intro w hSw; (try dsimp only at hSw); go_simp; try with_reducible rfl
                    go_simp
                    refine wpAnyH_take (i := 10) (v := ?_) rfl (by kernel_rfl) (by kernel_rfl) (by kernel_rfl) (fun _ _ _ h => h) (Or.inl ⟨by rfl, ?_⟩) hHeld ?_
                    rotate_left
                    · intro w hSw; (try dsimp only at hSw); go_simp; try with_reducible rfl
                    go_simp
                    refine wpAnyH_take (i := 11) (v := ?_) rfl (by kernel_rfl) (by kernel_rfl) (by kernel_rfl) (fun _ _ _ h => h) (Or.inl ⟨by rfl, ?_⟩) hHeld ?_
                    rotate_left
                    · intro w hSw; (try dsimp only at hSw); go_simp; try with_reducible rfl
                    go_simp
                    refine wpAnyH_take (i := 12) (v := ?_) rfl (by kernel_rfl) (by kernel_rfl) (by kernel_rfl) (fun _ _ _ h => h) (Or.inl ⟨by rfl, ?_⟩) hHeld ?_
                    rotate_left
                    · intro w hSw; (try dsimp only at hSw); go_simp; try with_reducible rfl
                    go_simp
                    refine wpAnyH_take (i := 13) (v := ?_) rfl (by kernel_rfl) (by kernel_rfl) (by kernel_rfl) (fun _ _ _ h => h) (Or.inl ⟨by rfl, ?_⟩) hHeld ?_
                    rotate_left
                    · intro w hSw; (try dsimp only at hSw); go_simp; try with_reducible rfl
                    go_simp
                    refine wpAnyH_take (i := 14) (v := ?_) rfl (by kernel_rfl) (by kernel_rfl) (by kernel_rfl) (fun _ _ _ h => h) (Or.inl ⟨by rfl, ?_⟩) hHeld ?_
                    rotate_left
                    · intro w hSw; (try dsimp only at hSw); go_simp; try with_reducible rfl
                    go_simp
                    refine wpAnyH_done (by kernel_rfl) ?_ _
                    refine NoPanic.normal ?_
                    go_wp2
                    go_roundg (gk - 1)
                    case measure => omega
                    case rel => exact ⟨d + 1, by go_num, by omega, by omega, by omega, HT1, HB5⟩
                  · obtain rfl : r = false := HNo.out (HNE.out (fun h => c1 (by simpa using (congrArg Prod.snd h))))
                    have z1 : (u1 == v1) = false := by simpa using c1
                    have z2 : (v1 == u1) = false := by simpa using fun h => c1 h.symm
                    subst c0
                    clear HT HNE c1
                    refine wp_region_noPanic ?_
                    refine wp_region_held_drew (S := (fun V => V.cell? ⟨bX, offX + d * 2, none⟩ = some (.int .i64 u0) ∧ V.cell? ⟨bX, offX + d * 2 + 1, none⟩ = some (.int .i64 u1) ∧ V.cell? ⟨bY, offY + d * 2, none⟩ = some (.int .i64 u0) ∧ V.cell? ⟨bY, offY + d * 2 + 1, none⟩ = some (.int .i64 v1))) (by kernel_rfl) (HH.out) (fun hHeld => ?_)
                    refine wpAnyH_take (i := 0) (v := ?_) rfl (by kernel_rfl) (by kernel_rfl) (by kernel_rfl) (fun _ _ _ h => h) (Or.inl ⟨by rfl, ?_⟩) hHeld ?_
                    rotate_left
                    · intro w hSw; (try dsimp only at hSw); go_simp; try with_reducible rfl
                    go_simp
                    refine wpAnyH_take (i := 1) (v := ?_) rfl (by kernel_rfl) (by kernel_rfl) (by kernel_rfl) (fun _ _ _ h => h) (Or.inl ⟨by rfl, ?_⟩) hHeld ?_
                    rotate_left
                    · intro w hSw; (try dsimp only at hSw); go_simp; try with_reducible rfl
                    go_simp
                    refine wpAnyH_take (i := 2) (v := ?_) rfl (by kernel_rfl) (by kernel_rfl) (by kernel_rfl) (fun _ _ _ h => h) (Or.inl ⟨by rfl, ?_⟩) hHeld ?_
                    rotate_left
                    · intro w hSw; (try dsimp only at hSw); go_simp; try with_reducible rfl
                    go_simp
                    refine wpAnyH_take (i := 3) (v := ?_) rfl (by kernel_rfl) (by kernel_rfl) (by kernel_rfl) (fun _ _ _ h => h) (Or.inl ⟨by rfl, ?_⟩) hHeld ?_
                    rotate_left
                    · intro w hSw; (try dsimp only at hSw); go_simp; try with_reducible rfl
                    go_simp
                    refine wpAnyH_take (i := 4) (v := ?_) rfl (by kernel_rfl) (by kernel_rfl) (by kernel_rfl) (fun _ _ _ h => h) (Or.inl ⟨by rfl, ?_⟩) hHeld ?_
                    rotate_left
                    · intro w hSw; (try dsimp only at hSw); go_simp; try with_reducible rfl
                    go_simp
                    refine wpAnyH_take (i := 5) (v := ?_) rfl (by kernel_rfl) (by kernel_rfl) (by kernel_rfl) (fun _ _ _ h => h) (Or.inl ⟨by rfl, ?_⟩) hHeld ?_
                    rotate_left
                    · intro w hSw; (try dsimp only at hSw); go_simp; try with_reducible rfl
                    go_simp
                    refine wpAnyH_take (i := 6) (v := ?_) rfl (by kernel_rfl) (by kernel_rfl) (by kernel_rfl) (fun _ _ _ h => h) (Or.inl ⟨by rfl, ?_⟩) hHeld ?_
                    rotate_left
                    · intro w hSw; (try dsimp only at hSw); go_simp; try with_reducible rfl
                    go_simp
                    refine wpAnyH_take (i := 7) (v := ?_) rfl (by kernel_rfl) (by kernel_rfl) (by kernel_rfl) (fun _ _ _ h => h) (Or.inl ⟨by rfl, ?_⟩) hHeld ?_
                    rotate_left
                    · intro w hSw; (try dsimp only at hSw); go_simp; try with_reducible rfl
                    go_simp
                    refine wpAnyH_take (i := 8) (v := ?_) rfl (by kernel_rfl) (by kernel_rfl) (by kernel_rfl) (fun _ _ _ h => h) (Or.inl ⟨by rfl, ?_⟩) hHeld ?_
                    rotate_left
                    · intro w hSw; (try dsimp only at hSw); go_simp; try with_reducible rfl
                    go_simp
                    refine wpAnyH_take (i := 9) (v := ?_) rfl (by kernel_rfl) (by kernel_rfl) (by kernel_rfl) (fun _ _ _ h => h) (Or.inl ⟨by rfl, ?_⟩) hHeld ?_
                    rotate_left
                    · intro w hSw; (try dsimp only at hSw); go_simp; try with_reducible rfl
                    go_simp
                    refine wpAnyH_take (i := 10) (v := ?_) rfl (by kernel_rfl) (by kernel_rfl) (by kernel_rfl) (fun _ _ _ h => h) (Or.inl ⟨by rfl, ?_⟩) hHeld ?_
                    rotate_left
                    · intro w hSw; (try dsimp only at hSw); go_simp; try with_reducible rfl
                    go_simp
                    refine wpAnyH_take (i := 11) (v := ?_) rfl (by kernel_rfl) (by kernel_rfl) (by kernel_rfl) (fun _ _ _ h => h) (Or.inl ⟨by rfl, ?_⟩) hHeld ?_
                    rotate_left
                    · intro w hSw; (try dsimp only at hSw); go_simp; try with_reducible rfl
                    go_simp
                    refine wpAnyH_take (i := 12) (v := ?_) rfl (by kernel_rfl) (by kernel_rfl) (by kernel_rfl) (fun _ _ _ h => h) (Or.inl ⟨by rfl, ?_⟩) hHeld ?_
                    rotate_left
                    · intro w hSw; (try dsimp only at hSw); go_simp; try with_reducible rfl
                    go_simp
                    refine wpAnyH_take (i := 13) (v := ?_) rfl (by kernel_rfl) (by kernel_rfl) (by kernel_rfl) (fun _ _ _ h => h) (Or.inl ⟨by rfl, ?_⟩) hHeld ?_
                    rotate_left
                    · intro w hSw; (try dsimp only at hSw); go_simp; try with_reducible rfl
                    go_simp
                    refine wpAnyH_take (i := 14) (v := ?_) rfl (by kernel_rfl) (by kernel_rfl) (by kernel_rfl) (fun _ _ _ h => h) (Or.inl ⟨by rfl, ?_⟩) hHeld ?_
                    rotate_left
                    · intro w hSw; (try dsimp only at hSw); go_simp; try with_reducible rfl
                    go_simp
                    refine wpAnyH_done (by kernel_rfl) ?_ _
                    refine NoPanic.normal ?_
                    go_wp2
                    go_ret
                    exact ⟨rfl, HB3.out⟩
                · obtain rfl : r = false := HNo.out (HNE.out (fun h => c0 (by simpa using (congrArg Prod.fst h))))
                  have z1 : (u0 == v0) = false := by simpa using c0
                  have z2 : (v0 == u0) = false := by simpa using fun h => c0 h.symm
                  clear HT HNE c0
                  refine wp_region_noPanic ?_
                  refine wp_region_held_drew (S := (fun V => V.cell? ⟨bX, offX + d * 2, none⟩ = some (.int .i64 u0) ∧ V.cell? ⟨bX, offX + d * 2 + 1, none⟩ = some (.int .i64 u1) ∧ V.cell? ⟨bY, offY + d * 2, none⟩ = some (.int .i64 v0) ∧ V.cell? ⟨bY, offY + d * 2 + 1, none⟩ = some (.int .i64 v1))) (by kernel_rfl) (HH.out) (fun hHeld => ?_)
                  refine wpAnyH_take (i := 0) (v := ?_) rfl (by kernel_rfl) (by kernel_rfl) (by kernel_rfl) (fun _ _ _ h => h) (Or.inl ⟨by rfl, ?_⟩) hHeld ?_
                  rotate_left
                  · intro w hSw; (try dsimp only at hSw); go_simp; try with_reducible rfl
                  go_simp
                  refine wpAnyH_take (i := 1) (v := ?_) rfl (by kernel_rfl) (by kernel_rfl) (by kernel_rfl) (fun _ _ _ h => h) (Or.inl ⟨by rfl, ?_⟩) hHeld ?_
                  rotate_left
                  · intro w hSw; (try dsimp only at hSw); go_simp; try with_reducible rfl
                  go_simp
                  refine wpAnyH_take (i := 2) (v := ?_) rfl (by kernel_rfl) (by kernel_rfl) (by kernel_rfl) (fun _ _ _ h => h) (Or.inl ⟨by rfl, ?_⟩) hHeld ?_
                  rotate_left
                  · intro w hSw; (try dsimp only at hSw); go_simp; try with_reducible rfl
                  go_simp
                  refine wpAnyH_take (i := 3) (v := ?_) rfl (by kernel_rfl) (by kernel_rfl) (by kernel_rfl) (fun _ _ _ h => h) (Or.inl ⟨by rfl, ?_⟩) hHeld ?_
                  rotate_left
                  · intro w hSw; (try dsimp only at hSw); go_simp; try with_reducible rfl
                  go_simp
                  refine wpAnyH_take (i := 4) (v := ?_) rfl (by kernel_rfl) (by kernel_rfl) (by kernel_rfl) (fun _ _ _ h => h) (Or.inl ⟨by rfl, ?_⟩) hHeld ?_
                  rotate_left
                  · intro w hSw; (try dsimp only at hSw); go_simp; try with_reducible rfl
                  go_simp
                  refine wpAnyH_take (i := 5) (v := ?_) rfl (by kernel_rfl) (by kernel_rfl) (by kernel_rfl) (fun _ _ _ h => h) (Or.inl ⟨by rfl, ?_⟩) hHeld ?_
                  rotate_left
                  · intro w hSw; (try dsimp only at hSw); go_simp; try with_reducible rfl
                  go_simp
                  refine wpAnyH_take (i := 6) (v := ?_) rfl (by kernel_rfl) (by kernel_rfl) (by kernel_rfl) (fun _ _ _ h => h) (Or.inl ⟨by rfl, ?_⟩) hHeld ?_
                  rotate_left
                  · intro w hSw; (try dsimp only at hSw); go_simp; try with_reducible rfl
                  go_simp
                  refine wpAnyH_take (i := 7) (v := ?_) rfl (by kernel_rfl) (by kernel_rfl) (by kernel_rfl) (fun _ _ _ h => h) (Or.inl ⟨by rfl, ?_⟩) hHeld ?_
                  rotate_left
                  · intro w hSw; (try dsimp only at hSw); go_simp; try with_reducible rfl
                  go_simp
                  refine wpAnyH_take (i := 8) (v := ?_) rfl (by kernel_rfl) (by kernel_rfl) (by kernel_rfl) (fun _ _ _ h => h) (Or.inl ⟨by rfl, ?_⟩) hHeld ?_
                  rotate_left
                  · intro w hSw; (try dsimp only at hSw); go_simp; try with_reducible rfl
                  go_simp
                  refine wpAnyH_take (i := 9) (v := ?_) rfl (by kernel_rfl) (by kernel_rfl) (by kernel_rfl) (fun _ _ _ h => h) (Or.inl ⟨by rfl, ?_⟩) hHeld ?_
                  rotate_left
                  · intro w hSw; (try dsimp only at hSw); go_simp; try with_reducible rfl
                  go_simp
                  refine wpAnyH_take (i := 10) (v := ?_) rfl (by kernel_rfl) (by kernel_rfl) (by kernel_rfl) (fun _ _ _ h => h) (Or.inl ⟨by rfl, ?_⟩) hHeld ?_
                  rotate_left
                  · intro w hSw; (try dsimp only at hSw); go_simp; try with_reducible rfl
                  go_simp
                  refine wpAnyH_take (i := 11) (v := ?_) rfl (by kernel_rfl) (by kernel_rfl) (by kernel_rfl) (fun _ _ _ h => h) (Or.inl ⟨by rfl, ?_⟩) hHeld ?_
                  rotate_left
                  · intro w hSw; (try dsimp only at hSw); go_simp; try with_reducible rfl
                  go_simp
                  refine wpAnyH_take (i := 12) (v := ?_) rfl (by kernel_rfl) (by kernel_rfl) (by kernel_rfl) (fun _ _ _ h => h) (Or.inl ⟨by rfl, ?_⟩) hHeld ?_
                  rotate_left
                  · intro w hSw; (try dsimp only at hSw); go_simp; try with_reducible rfl
                  go_simp
                  refine wpAnyH_take (i := 13) (v := ?_) rfl (by kernel_rfl) (by kernel_rfl) (by kernel_rfl) (fun _ _ _ h => h) (Or.inl ⟨by rfl, ?_⟩) hHeld ?_
                  rotate_left
                  · intro w hSw; (try dsimp only at hSw); go_simp; try with_reducible rfl
                  go_simp
                  refine wpAnyH_take (i := 14) (v := ?_) rfl (by kernel_rfl) (by kernel_rfl) (by kernel_rfl) (fun _ _ _ h => h) (Or.inl ⟨by rfl, ?_⟩) hHeld ?_
                  rotate_left
                  · intro w hSw; (try dsimp only at hSw); go_simp; try with_reducible rfl
                  go_simp
                  refine wpAnyH_done (by kernel_rfl) ?_ _
                  refine NoPanic.normal ?_
                  go_wp2
                  go_ret
                  exact ⟨rfl, HB3.out⟩
              · have kq : decide ((s : Int) ≤ d) = true := decide_eq_true (by omega)
                have kqn : decide (s ≤ d) = true := decide_eq_true (by omega)
                obtain rfl : r = false := HNo.out (fun e => by have := congrArg List.length e; rw [← HQ.out, ← HS.out] at this; omega)
                go_upto_region 20 with fail
                have HH : Hid ((fun V => V.cell? ⟨bX, offX + d * 2, none⟩ = some (.int .i64 X[d].1)) wr.drew) := Lib.hid e0
                clear e0 e1
                refine wp_region_noPanic ?_
                refine wp_region_held_drew (S := (fun V => V.cell? ⟨bX, offX + d * 2, none⟩ = some (.int .i64 X[d].1))) (by kernel_rfl) (HH.out) (fun hHeld => ?_)
                refine wpAnyH_take (i := 0) (v := ?_) rfl (by kernel_rfl) (by kernel_rfl) (by kernel_rfl) (fun _ _ _ h => h) (Or.inl ⟨by rfl, ?_⟩) hHeld ?_
                rotate_left
                · intro w hSw; (try dsimp only at hSw); go_simp; try with_reducible rfl
                go_simp
                refine wpAnyH_take (i := 1) (v := ?_) rfl (by kernel_rfl) (by kernel_rfl) (by kernel_rfl) (fun _ _ _ h => h) (Or.inl ⟨by rfl, ?_⟩) hHeld ?_
                rotate_left
                · intro w hSw; (try dsimp only at hSw); go_simp; try with_reducible rfl
                go_simp
                refine wpAnyH_take (i := 2) (v := ?_) rfl (by kernel_rfl) (by kernel_rfl) (by kernel_rfl) (fun _ _ _ h => h) (Or.inl ⟨by rfl, ?_⟩) hHeld ?_
                rotate_left
                · intro w hSw; (try dsimp only at hSw); go_simp; try with_reducible rfl
                go_simp
                refine wpAnyH_take (i := 3) (v := ?_) rfl (by kernel_rfl) (by kernel_rfl) (by kernel_rfl) (fun _ _ _ h => h) (Or.inl ⟨by rfl, ?_⟩) hHeld ?_
                rotate_left
                · intro w hSw; (try dsimp only at hSw); go_simp; try with_reducible rfl
                go_simp
                refine wpAnyH_take (i := 4) (v := ?_) rfl (by kernel_rfl) (by kernel_rfl) (by kernel_rfl) (fun _ _ _ h => h) (Or.inl ⟨by rfl, ?_⟩) hHeld ?_
                rotate_left
                · intro w hSw; (try dsimp only at hSw); go_simp; try with_reducible rfl
                go_simp
                refine wpAnyH_take (i := 5) (v := undef) rfl (by kernel_rfl) (by kernel_rfl) (by kernel_rfl) (fun _ _ _ h => h) (Or.inr ⟨by rfl, rfl⟩) hHeld ?_
                go_simp
                refine wpAnyH_take (i := 6) (v := undef) rfl (by kernel_rfl) (by kernel_rfl) (by kernel_rfl) (fun _ _ _ h => h) (Or.inr ⟨by rfl, rfl⟩) hHeld ?_
                go_simp
                refine wpAnyH_take (i := 7) (v := undef) rfl (by kernel_rfl) (by kernel_rfl) (by kernel_rfl) (fun _ _ _ h => h) (Or.inr ⟨by rfl, rfl⟩) hHeld ?_
                go_simp
                refine wpAnyH_take (i := 8) (v := undef) rfl (by kernel_rfl) (by kernel_rfl) (by kernel_rfl) (fun _ _ _ h => h) (Or.inr ⟨by rfl, rfl⟩) hHeld ?_
                go_simp
                refine wpAnyH_take (i := 9) (v := undef) rfl (by kernel_rfl) (by kernel_rfl) (by kernel_rfl) (fun _ _ _ h => h) (Or.inr ⟨by rfl, rfl⟩) hHeld ?_
                go_simp
                refine wpAnyH_take (i := 10) (v := undef) rfl (by kernel_rfl) (by kernel_rfl) (by kernel_rfl) (fun _ _ _ h => h) (Or.inr ⟨by rfl, rfl⟩) hHeld ?_
                go_simp
                refine wpAnyH_take (i := 11) (v := undef) rfl (by kernel_rfl) (by kernel_rfl) (by kernel_rfl) (fun _ _ _ h => h) (Or.inr ⟨by rfl, rfl⟩) hHeld ?_
                go_simp
                refine wpAnyH_take (i := 12) (v := undef) rfl (by kernel_rfl) (by kernel_rfl) (by kernel_rfl) (fun _ _ _ h => h) (Or.inr ⟨by rfl, rfl⟩) hHeld ?_
                go_simp
                refine wpAnyH_take (i := 13) (v := undef) rfl (by kernel_rfl) (by kernel_rfl) (by kernel_rfl) (fun _ _ _ h => h) (Or.inr ⟨by rfl, rfl⟩) hHeld ?_
                go_simp
                refine wpAnyH_take (i := 14) (v := ?_) rfl (by kernel_rfl) (by kernel_rfl) (by kernel_rfl) (fun _ _ _ h => h) (Or.inl ⟨by rfl, ?_⟩) hHeld ?_
                rotate_left
                · intro w hSw; (try dsimp only at hSw); go_simp; try with_reducible rfl
                go_simp
                refine wpAnyH_done (by kernel_rfl) ?_ _
                refine NoPanic.normal ?_
                go_wp2
                go_ret
                exact ⟨rfl, HB3.out⟩
            · obtain rfl : d = q := by omega
              have HB3 := Lib.hid (HYB.out.trans (hb.out.mono HYB.out.size))
              by_cases hqs : d = s
              · obtain rfl : r = true := HE.out.mpr (by
                  have h := hJ.out
                  rw [List.take_of_length_le (by rw [← HQ.out]; exact Nat.le_refl _), List.take_of_length_le (by rw [← HS.out, hqs]; exact Nat.le_refl _)] at h
                  exact h)
                subst hqs
                go_wp2
                go_ret
                exact ⟨by simp, HB3.out⟩
              · have kz : decide ((d : Int) = s) = false := decide_eq_false (by omega)
                have kz2 : decide (d = s) = false := decide_eq_false hqs
                obtain rfl : r = false := HNo.out (fun e => by have := congrArg List.length e; rw [← HQ.out, ← HS.out] at this; omega)
                go_wp2
                go_ret
                exact ⟨by simp; omega, HB3.out⟩
end
section
open Go.RowKit
set_option linter.unusedVariables false
def sbes (f t : Int) (l : List In) : List In := l.filter fun a => decide (a.pl < f ∨ t < a.pl)
theorem sbes_snoc (f t : Int) (l : List In) (x : In) : sbes f t (l ++ [x]) = sbes f t l ++ (if x.pl < f ∨ t < x.pl then [x] else []) := by
  unfold sbes
  rw [List.filter_append]
  by_cases h : x.pl < f ∨ t < x.pl
  · rw [if_pos h, List.filter_cons, if_pos (decide_eq_true h)]; rfl
  · rw [if_neg h, List.filter_cons, if_neg (by rw [decide_eq_false h]; simp)]; rfl
theorem sbes_len (f t : Int) (l : List In) : (sbes f t l).length ≤ l.length := List.length_filter_le _ _
theorem takeI_ne {X Y : List In} {k : Nat} (h1 : k < X.length) (h2 : k < Y.length) (h : X[k] ≠ Y[k]) : X ≠ Y := fun e => h (by subst e; rfl)
theorem takeI_snoc {X Y : List In} {k : Nat} (h1 : k < X.length) (h2 : k < Y.length) (h : X.take k = Y.take k) (e : X[k] = Y[k]) : X.take (k + 1) = Y.take (k + 1) := by
  rw [List.take_succ_eq_append_getElem h1, List.take_succ_eq_append_getElem h2, h, e]
set_option maxHeartbeats 16000000 in
set_option maxRecDepth 100000 in
theorem lBeside_any (A : Option Addr) (m ca : Nat) (a : List In) (B : Option Addr) (k cb : Nat) (b : List In) (f t : Int) (w : World) (hA : RowsAt encI 5 w A a) (hB : RowsAt encI 5 w B b) (ha : a.length = m) (hb : b.length = k) (hm : m ≤ 100000) (hk : k ≤ 100000) (r : Bool) (hr : r = true ↔ sbes f t a = sbes f t b) :
    Calls Tryz.prog 18 #[.slice A m ca, .slice B k cb, .agg #[.int .i64 f, .int .i64 t]] w fun e w' => e = .returned (.bool r) ∧ Below w.heap.size w w' := by
  have HA := Lib.hid hA
  have HB := Lib.hid hB
  have HAL := Lib.hid ha
  have HBL := Lib.hid hb
  clear hA hB ha hb
  have HE := Lib.hid hr
  clear hr
  have HNo : Hid (sbes f t a ≠ sbes f t b → r = false) := Lib.hid fun h => by cases r; rfl; exact absurd (HE.out.mp rfl) h
  have n0 : RawAt 27 (w.alloc (.cells #[.int .i64 f, .int .i64 t] 27)) w.heap.size #[.int .i64 f, .int .i64 t] := heap_alloc_new w _
  have b0 : Below w.heap.size w (w.alloc (.cells #[.int .i64 f, .int .i64 t] 27)) := (Below.refl _ _).alloc (Nat.le_refl _) _
  go_enter Tryz.func18, Tryz.ntmps18
  go_upto_region 2 with fail
  generalize w.alloc (.cells #[.int .i64 f, .int .i64 t] 27) = W0 at *
  have HN0 := Lib.hid n0
  have HB0 := Lib.hid b0
  clear n0 b0
  go_wp2_with fail
  go_loopg [7, 16] m (fun g v i wr => ∃ (j : Nat), i = .int .i64 j ∧ j ≤ m ∧ m - j ≤ g ∧ Hid (Below W0.heap.size W0 wr) ∧ Hid (wr.ownsRow W0.heap.size 56 5 v (sbes f t (a.take j)).length (kfl encI (sbes f t (a.take j)))))
  case atStart => exact ⟨0, rfl, by omega, by omega, Lib.hid (Below.refl _ _), Lib.hid (World.ownsRow_nil _ _ _ _)⟩
  case round =>
    obtain ⟨j, rfl, h1, h2, hb, hown⟩ := hrel
    by_cases hlt : j < m
    · skip
      have hjl : j < a.length := by rw [HAL.out]; exact hlt
      have HX := Lib.hid (HB0.out.trans (hb.out.mono HB0.out.size))
      obtain ⟨bA, off, rfl, hbA, hce⟩ := (HA.out.below HX.out).at1 hjl
      have d0 := hce 0 (by omega)
      have d1 := hce 1 (by omega)
      have d2 := hce 2 (by omega)
      have d3 := hce 3 (by omega)
      have d4 := hce 4 (by omega)
      rw [Nat.add_zero] at d0
      have hws := sbes_snoc f t (a.take j) a[j]
      rw [← List.take_succ_eq_append_getElem hjl] at hws
      have HWS := Lib.hid hws
      clear hws hce
      have hol := sbes_len f t (a.take j)
      rw [List.length_take] at hol
      generalize a[j] = ae at *
      simp [encI] at d0 d1 d2 d3 d4
      have i1 : (0 : Int) ≤ j := by omega
      have i2 : (j : Int) < m := by omega
      have x3 : Below wr.heap.size wr (wr.alloc (.cells #[.int .i64 ae.id, .int .i64 ae.pl, .int .i64 ae.bi, .int .i64 ae.ky, .string ae.tx] 56)) := (Below.refl _ _).alloc (Nat.le_refl _) _
      have R3 : RawAt 56 (wr.alloc (.cells #[.int .i64 ae.id, .int .i64 ae.pl, .int .i64 ae.bi, .int .i64 ae.ky, .string ae.tx] 56)) wr.heap.size #[.int .i64 ae.id, .int .i64 ae.pl, .int .i64 ae.bi, .int .i64 ae.ky, .string ae.tx] := heap_alloc_new wr _
      have hBx := RawAt.below HN0.out hb.out HN0.out.lt
      have hYb := RawAt.below hBx x3 hBx.lt
      have q0 : (wr.alloc (.cells #[.int .i64 ae.id, .int .i64 ae.pl, .int .i64 ae.bi, .int .i64 ae.ky, .string ae.tx] 56)).cell? ⟨w.heap.size, 0, none⟩ = some (.int .i64 f) := RawAt.cell hYb 0
      have q1 : (wr.alloc (.cells #[.int .i64 ae.id, .int .i64 ae.pl, .int .i64 ae.bi, .int .i64 ae.ky, .string ae.tx] 56)).cell? ⟨w.heap.size, 1, none⟩ = some (.int .i64 t) := RawAt.cell hYb 1
      have HB3 := Lib.hid (hb.out.trans (x3.mono hb.out.size))
      have HO3 := Lib.hid (own_below hown.out x3)
      obtain ⟨A9, c9, rfl⟩ := own_form hown.out
      have hlt4 := hown.out.lt
      have hz3 : (wr.alloc (.cells #[.int .i64 ae.id, .int .i64 ae.pl, .int .i64 ae.bi, .int .i64 ae.ky, .string ae.tx] 56)).heap.size = wr.heap.size + 1 := by simp
      clear hBx hYb hown hb
      by_cases g1 : ae.pl < f
      · have k1 : decide (ae.pl < f) = true := decide_eq_true g1
        have HN := HWS.out
        rw [if_pos (Or.inl g1)] at HN
        have HN := Lib.hid HN
        clear HWS
        generalize hW3 : wr.alloc (.cells #[.int .i64 ae.id, .int .i64 ae.pl, .int .i64 ae.bi, .int .i64 ae.ky, .string ae.tx] 56) = W3 at *
        have x4 : Below W3.heap.size W3 (W3.alloc (.cells #[.int .i64 ae.id, .int .i64 ae.pl, .int .i64 ae.bi, .int .i64 ae.ky, .string ae.tx] 56)) := (Below.refl _ _).alloc (Nat.le_refl _) _
        have R4 : RawAt 56 (W3.alloc (.cells #[.int .i64 ae.id, .int .i64 ae.pl, .int .i64 ae.bi, .int .i64 ae.ky, .string ae.tx] 56)) W3.heap.size #[.int .i64 ae.id, .int .i64 ae.pl, .int .i64 ae.bi, .int .i64 ae.ky, .string ae.tx] := heap_alloc_new W3 _
        have HO4 := Lib.hid (own_below HO3.out x4)
        have HS4 : Hid (RowsAt encI 5 (W3.alloc (.cells #[.int .i64 ae.id, .int .i64 ae.pl, .int .i64 ae.bi, .int .i64 ae.ky, .string ae.tx] 56)) (some ⟨wr.heap.size + 1, 0, none⟩) [ae]) := Lib.hid (by rw [← hz3]; exact rows_of_block (enc := encI) (k := 5) encI_len R4 (l := [ae]) rfl)
        have HB4 := Lib.hid (HB3.out.trans (x4.mono HB3.out.size))
        have HW3 := Lib.hid hW3
        clear x4 R4 hW3 hz3
        rw [← HW3.out] at HO4 HS4 HB4 q0 q1
        go_wp2_with (at_builtin; refine wpList_appK (enc := encI) in_slt encI_len (by omega) rfl (.tmp 32) (.tmp 34) rfl (base := W0.heap.size) (v := .slice A9 (sbes f t (List.take j a)).length c9) rfl HO4.out _ 1 1 [ae] rfl HS4.out ⟨Nat.le_refl _, fun h => by cases h⟩ rfl (kfl_one' encI_one _) (by simp only [maxLen]; omega) (by omega) HB4.out.size ?_; intro v5 w5' hown5 hg5 hor5)
        have hb5 := Lib.hid (HB4.out.grown hg5 HB4.out.size (fun j hj => (hlt4 j hj).1))
        have hO5 : Hid (w5'.ownsRow W0.heap.size 56 5 v5 (sbes f t (List.take (j + 1) a)).length (kfl encI (sbes f t (List.take (j + 1) a)))) := Lib.hid (by rw [HN.out, kfl_append, List.length_append]; exact hown5)
        clear hown5 hg5 hor5 HO4 HS4 HB4 HB3 HO3
        go_wp2
        go_roundg (gk - 1)
        case measure => omega
        case rel => exact ⟨j + 1, by go_num, by omega, by omega, hb5, hO5⟩
      · have k1 : decide (ae.pl < f) = false := decide_eq_false g1
        by_cases g2 : t < ae.pl
        · have k2 : decide (t < ae.pl) = true := decide_eq_true g2
          have HN := HWS.out
          rw [if_pos (Or.inr g2)] at HN
          have HN := Lib.hid HN
          clear HWS
          generalize hW3 : wr.alloc (.cells #[.int .i64 ae.id, .int .i64 ae.pl, .int .i64 ae.bi, .int .i64 ae.ky, .string ae.tx] 56) = W3 at *
          have x4 : Below W3.heap.size W3 (W3.alloc (.cells #[.int .i64 ae.id, .int .i64 ae.pl, .int .i64 ae.bi, .int .i64 ae.ky, .string ae.tx] 56)) := (Below.refl _ _).alloc (Nat.le_refl _) _
          have R4 : RawAt 56 (W3.alloc (.cells #[.int .i64 ae.id, .int .i64 ae.pl, .int .i64 ae.bi, .int .i64 ae.ky, .string ae.tx] 56)) W3.heap.size #[.int .i64 ae.id, .int .i64 ae.pl, .int .i64 ae.bi, .int .i64 ae.ky, .string ae.tx] := heap_alloc_new W3 _
          have HO4 := Lib.hid (own_below HO3.out x4)
          have HS4 : Hid (RowsAt encI 5 (W3.alloc (.cells #[.int .i64 ae.id, .int .i64 ae.pl, .int .i64 ae.bi, .int .i64 ae.ky, .string ae.tx] 56)) (some ⟨wr.heap.size + 1, 0, none⟩) [ae]) := Lib.hid (by rw [← hz3]; exact rows_of_block (enc := encI) (k := 5) encI_len R4 (l := [ae]) rfl)
          have HB4 := Lib.hid (HB3.out.trans (x4.mono HB3.out.size))
          have HW3 := Lib.hid hW3
          clear x4 R4 hW3 hz3
          rw [← HW3.out] at HO4 HS4 HB4 q0 q1
          go_wp2_with (at_builtin; refine wpList_appK (enc := encI) in_slt encI_len (by omega) rfl (.tmp 32) (.tmp 34) rfl (base := W0.heap.size) (v := .slice A9 (sbes f t (List.take j a)).length c9) rfl HO4.out _ 1 1 [ae] rfl HS4.out ⟨Nat.le_refl _, fun h => by cases h⟩ rfl (kfl_one' encI_one _) (by simp only [maxLen]; omega) (by omega) HB4.out.size ?_; intro v5 w5' hown5 hg5 hor5)
          have hb5 := Lib.hid (HB4.out.grown hg5 HB4.out.size (fun j hj => (hlt4 j hj).1))
          have hO5 : Hid (w5'.ownsRow W0.heap.size 56 5 v5 (sbes f t (List.take (j + 1) a)).length (kfl encI (sbes f t (List.take (j + 1) a)))) := Lib.hid (by rw [HN.out, kfl_append, List.length_append]; exact hown5)
          clear hown5 hg5 hor5 HO4 HS4 HB4 HB3 HO3
          go_wp2
          go_roundg (gk - 1)
          case measure => omega
          case rel => exact ⟨j + 1, by go_num, by omega, by omega, hb5, hO5⟩
        · have k2 : decide (t < ae.pl) = false := decide_eq_false g2
          have HN := HWS.out
          rw [if_neg (by omega), List.append_nil] at HN
          clear HWS
          go_wp2
          go_roundg (gk - 1)
          case measure => omega
          case rel => exact ⟨j + 1, by go_num, by omega, by omega, HB3, Lib.hid (by rw [HN]; exact HO3.out)⟩
    · obtain rfl : j = m := by omega
      have hx := hown.out
      rw [List.take_of_length_le (by rw [HAL.out]; exact Nat.le_refl _)] at hx
      obtain ⟨AX, cX, rfl, hXr, hXl, _⟩ := rows_of_own encI_len (by omega) hx
      have HXR := Lib.hid hXr
      have HXB := Lib.hid (HB0.out.trans (hb.out.mono HB0.out.size))
      have HNX := Lib.hid (RawAt.below HN0.out hb.out HN0.out.lt)
      have hxle := sbes_len f t a
      rw [HAL.out] at hxle
      clear hx hXr hXl hown hb
      go_upto_region 8 with fail
      obtain ⟨W2, hW2⟩ : ∃ W, W = wr := ⟨_, rfl⟩
      rw [← hW2] at HXR HXB HNX ⊢
      clear hW2
      go_wp2_with fail
      go_loopg [8, 39] k (fun g v i wr => ∃ (z : Nat), i = .int .i64 z ∧ z ≤ k ∧ k - z ≤ g ∧ Hid (Below W2.heap.size W2 wr) ∧ Hid (wr.ownsRow W2.heap.size 56 5 v (sbes f t (b.take z)).length (kfl encI (sbes f t (b.take z)))))
      case atStart => exact ⟨0, rfl, by omega, by omega, Lib.hid (Below.refl _ _), Lib.hid (World.ownsRow_nil _ _ _ _)⟩
      case round =>
        obtain ⟨z, rfl, h1, h2, hb, hown⟩ := hrel
        by_cases hlt : z < k
        · skip
          have hjl : z < b.length := by rw [HBL.out]; exact hlt
          have HX := Lib.hid (HXB.out.trans (hb.out.mono HXB.out.size))
          obtain ⟨bA, off, rfl, hbA, hce⟩ := (HB.out.below HX.out).at1 hjl
          have d0 := hce 0 (by omega)
          have d1 := hce 1 (by omega)
          have d2 := hce 2 (by omega)
          have d3 := hce 3 (by omega)
          have d4 := hce 4 (by omega)
          rw [Nat.add_zero] at d0
          have hws := sbes_snoc f t (b.take z) b[z]
          rw [← List.take_succ_eq_append_getElem hjl] at hws
          have HWS := Lib.hid hws
          clear hws hce
          have hol := sbes_len f t (b.take z)
          rw [List.length_take] at hol
          generalize b[z] = ae at *
          simp [encI] at d0 d1 d2 d3 d4
          have i1 : (0 : Int) ≤ z := by omega
          have i2 : (z : Int) < k := by omega
          have x3 : Below wr.heap.size wr (wr.alloc (.cells #[.int .i64 ae.id, .int .i64 ae.pl, .int .i64 ae.bi, .int .i64 ae.ky, .string ae.tx] 56)) := (Below.refl _ _).alloc (Nat.le_refl _) _
          have R3 : RawAt 56 (wr.alloc (.cells #[.int .i64 ae.id, .int .i64 ae.pl, .int .i64 ae.bi, .int .i64 ae.ky, .string ae.tx] 56)) wr.heap.size #[.int .i64 ae.id, .int .i64 ae.pl, .int .i64 ae.bi, .int .i64 ae.ky, .string ae.tx] := heap_alloc_new wr _
          have hBx := RawAt.below HNX.out hb.out HNX.out.lt
          have hYb := RawAt.below hBx x3 hBx.lt
          have q0 : (wr.alloc (.cells #[.int .i64 ae.id, .int .i64 ae.pl, .int .i64 ae.bi, .int .i64 ae.ky, .string ae.tx] 56)).cell? ⟨w.heap.size, 0, none⟩ = some (.int .i64 f) := RawAt.cell hYb 0
          have q1 : (wr.alloc (.cells #[.int .i64 ae.id, .int .i64 ae.pl, .int .i64 ae.bi, .int .i64 ae.ky, .string ae.tx] 56)).cell? ⟨w.heap.size, 1, none⟩ = some (.int .i64 t) := RawAt.cell hYb 1
          have HB3 := Lib.hid (hb.out.trans (x3.mono hb.out.size))
          have HO3 := Lib.hid (own_below hown.out x3)
          obtain ⟨A9, c9, rfl⟩ := own_form hown.out
          have hlt4 := hown.out.lt
          have hz3 : (wr.alloc (.cells #[.int .i64 ae.id, .int .i64 ae.pl, .int .i64 ae.bi, .int .i64 ae.ky, .string ae.tx] 56)).heap.size = wr.heap.size + 1 := by simp
          clear hBx hYb hown hb
          by_cases g1 : ae.pl < f
          · have k1 : decide (ae.pl < f) = true := decide_eq_true g1
            have HN := HWS.out
            rw [if_pos (Or.inl g1)] at HN
            have HN := Lib.hid HN
            clear HWS
            generalize hW3 : wr.alloc (.cells #[.int .i64 ae.id, .int .i64 ae.pl, .int .i64 ae.bi, .int .i64 ae.ky, .string ae.tx] 56) = W3 at *
            have x4 : Below W3.heap.size W3 (W3.alloc (.cells #[.int .i64 ae.id, .int .i64 ae.pl, .int .i64 ae.bi, .int .i64 ae.ky, .string ae.tx] 56)) := (Below.refl _ _).alloc (Nat.le_refl _) _
            have R4 : RawAt 56 (W3.alloc (.cells #[.int .i64 ae.id, .int .i64 ae.pl, .int .i64 ae.bi, .int .i64 ae.ky, .string ae.tx] 56)) W3.heap.size #[.int .i64 ae.id, .int .i64 ae.pl, .int .i64 ae.bi, .int .i64 ae.ky, .string ae.tx] := heap_alloc_new W3 _
            have HO4 := Lib.hid (own_below HO3.out x4)
            have HS4 : Hid (RowsAt encI 5 (W3.alloc (.cells #[.int .i64 ae.id, .int .i64 ae.pl, .int .i64 ae.bi, .int .i64 ae.ky, .string ae.tx] 56)) (some ⟨wr.heap.size + 1, 0, none⟩) [ae]) := Lib.hid (by rw [← hz3]; exact rows_of_block (enc := encI) (k := 5) encI_len R4 (l := [ae]) rfl)
            have HB4 := Lib.hid (HB3.out.trans (x4.mono HB3.out.size))
            have HW3 := Lib.hid hW3
            clear x4 R4 hW3 hz3
            rw [← HW3.out] at HO4 HS4 HB4 q0 q1
            go_wp2_with (at_builtin; refine wpList_appK (enc := encI) in_slt encI_len (by omega) rfl (.tmp 55) (.tmp 57) rfl (base := W2.heap.size) (v := .slice A9 (sbes f t (List.take z b)).length c9) rfl HO4.out _ 1 1 [ae] rfl HS4.out ⟨Nat.le_refl _, fun h => by cases h⟩ rfl (kfl_one' encI_one _) (by simp only [maxLen]; omega) (by omega) HB4.out.size ?_; intro v5 w5' hown5 hg5 hor5)
            have hb5 := Lib.hid (HB4.out.grown hg5 HB4.out.size (fun j hj => (hlt4 j hj).1))
            have hO5 : Hid (w5'.ownsRow W2.heap.size 56 5 v5 (sbes f t (List.take (z + 1) b)).length (kfl encI (sbes f t (List.take (z + 1) b)))) := Lib.hid (by rw [HN.out, kfl_append, List.length_append]; exact hown5)
            clear hown5 hg5 hor5 HO4 HS4 HB4 HB3 HO3
            go_wp2
            go_roundg (gk - 1)
            case measure => omega
            case rel => exact ⟨z + 1, by go_num, by omega, by omega, hb5, hO5⟩
          · have k1 : decide (ae.pl < f) = false := decide_eq_false g1
            by_cases g2 : t < ae.pl
            · have k2 : decide (t < ae.pl) = true := decide_eq_true g2
              have HN := HWS.out
              rw [if_pos (Or.inr g2)] at HN
              have HN := Lib.hid HN
              clear HWS
              generalize hW3 : wr.alloc (.cells #[.int .i64 ae.id, .int .i64 ae.pl, .int .i64 ae.bi, .int .i64 ae.ky, .string ae.tx] 56) = W3 at *
              have x4 : Below W3.heap.size W3 (W3.alloc (.cells #[.int .i64 ae.id, .int .i64 ae.pl, .int .i64 ae.bi, .int .i64 ae.ky, .string ae.tx] 56)) := (Below.refl _ _).alloc (Nat.le_refl _) _
              have R4 : RawAt 56 (W3.alloc (.cells #[.int .i64 ae.id, .int .i64 ae.pl, .int .i64 ae.bi, .int .i64 ae.ky, .string ae.tx] 56)) W3.heap.size #[.int .i64 ae.id, .int .i64 ae.pl, .int .i64 ae.bi, .int .i64 ae.ky, .string ae.tx] := heap_alloc_new W3 _
              have HO4 := Lib.hid (own_below HO3.out x4)
              have HS4 : Hid (RowsAt encI 5 (W3.alloc (.cells #[.int .i64 ae.id, .int .i64 ae.pl, .int .i64 ae.bi, .int .i64 ae.ky, .string ae.tx] 56)) (some ⟨wr.heap.size + 1, 0, none⟩) [ae]) := Lib.hid (by rw [← hz3]; exact rows_of_block (enc := encI) (k := 5) encI_len R4 (l := [ae]) rfl)
              have HB4 := Lib.hid (HB3.out.trans (x4.mono HB3.out.size))
              have HW3 := Lib.hid hW3
              clear x4 R4 hW3 hz3
              rw [← HW3.out] at HO4 HS4 HB4 q0 q1
              go_wp2_with (at_builtin; refine wpList_appK (enc := encI) in_slt encI_len (by omega) rfl (.tmp 55) (.tmp 57) rfl (base := W2.heap.size) (v := .slice A9 (sbes f t (List.take z b)).length c9) rfl HO4.out _ 1 1 [ae] rfl HS4.out ⟨Nat.le_refl _, fun h => by cases h⟩ rfl (kfl_one' encI_one _) (by simp only [maxLen]; omega) (by omega) HB4.out.size ?_; intro v5 w5' hown5 hg5 hor5)
              have hb5 := Lib.hid (HB4.out.grown hg5 HB4.out.size (fun j hj => (hlt4 j hj).1))
              have hO5 : Hid (w5'.ownsRow W2.heap.size 56 5 v5 (sbes f t (List.take (z + 1) b)).length (kfl encI (sbes f t (List.take (z + 1) b)))) := Lib.hid (by rw [HN.out, kfl_append, List.length_append]; exact hown5)
              clear hown5 hg5 hor5 HO4 HS4 HB4 HB3 HO3
              go_wp2
              go_roundg (gk - 1)
              case measure => omega
              case rel => exact ⟨z + 1, by go_num, by omega, by omega, hb5, hO5⟩
            · have k2 : decide (t < ae.pl) = false := decide_eq_false g2
              have HN := HWS.out
              rw [if_neg (by omega), List.append_nil] at HN
              clear HWS
              go_wp2
              go_roundg (gk - 1)
              case measure => omega
              case rel => exact ⟨z + 1, by go_num, by omega, by omega, HB3, Lib.hid (by rw [HN]; exact HO3.out)⟩
        · obtain rfl : z = k := by omega
          have hx := hown.out
          rw [List.take_of_length_le (by rw [HBL.out]; exact Nat.le_refl _)] at hx
          obtain ⟨AY, cY, rfl, hYr, hYl, _⟩ := rows_of_own encI_len (by omega) hx
          have HYR := Lib.hid hYr
          have HXR3 := Lib.hid (HXR.out.below hb.out)
          have HYB := Lib.hid (HXB.out.trans (hb.out.mono HXB.out.size))
          have hyle := sbes_len f t b
          rw [HBL.out] at hyle
          clear hx hYr hYl hown hb HXR HXB HNX HN0 HB0 HA HB
          generalize sbes f t a = X at *
          generalize sbes f t b = Y at *
          obtain ⟨q, hq⟩ : ∃ q, q = X.length := ⟨_, rfl⟩
          obtain ⟨s, hs⟩ : ∃ q, q = Y.length := ⟨_, rfl⟩
          rw [← hq] at hxle ⊢
          rw [← hs] at hyle ⊢
          have HQ := Lib.hid hq
          have HS := Lib.hid hs
          clear hq hs
          obtain ⟨W3, hW3⟩ : ∃ W, W = wr := ⟨_, rfl⟩
          rw [← hW3] at HXR3 HYR HYB ⊢
          clear hW3
          go_wp2_with fail
          go_loopg [62] q (fun g i wr => ∃ (d : Nat), i = .int .i64 d ∧ d ≤ q ∧ q - d ≤ g ∧ d ≤ s ∧ Hid (X.take d = Y.take d) ∧ Hid (Below W3.heap.size W3 wr))
          case atStart => exact ⟨0, rfl, by omega, by omega, by omega, Lib.hid rfl, Lib.hid (Below.refl _ _)⟩
          case round =>
            obtain ⟨d, rfl, h1, h2, h3, hJ, hb⟩ := hrel
            by_cases hlt : d < q
            · have hxl : d < X.length := by rw [← HQ.out]; exact hlt
              have i1 : (0 : Int) ≤ d := by omega
              have i2 : (d : Int) < q := by omega
              have HB3 := Lib.hid (HYB.out.trans ((hb.out.drew).mono HYB.out.size))
              obtain ⟨bX, offX, rfl, hbX, hce⟩ := (HXR3.out.below hb.out).at1 hxl
              have e0 := hce 0 (by omega)
              have e1 := hce 1 (by omega)
              have e2 := hce 2 (by omega)
              have e3 := hce 3 (by omega)
              have e4 := hce 4 (by omega)
              rw [Nat.add_zero] at e0
              clear hce
              by_cases hlt2 : d < s
              · have hyl : d < Y.length := by rw [← HS.out]; exact hlt2
                have i3 : (d : Int) < s := by omega
                have kq : decide ((s : Int) ≤ d) = false := decide_eq_false (by omega)
                have kqn : decide (s ≤ d) = false := decide_eq_false (by omega)
                obtain ⟨bY, offY, rfl, hbY, hce⟩ := (HYR.out.below hb.out).at1 hyl
                have d0 := hce 0 (by omega)
                have d1 := hce 1 (by omega)
                have d2 := hce 2 (by omega)
                have d3 := hce 3 (by omega)
                have d4 := hce 4 (by omega)
                rw [Nat.add_zero] at d0
                clear hce
                have HT := Lib.hid fun e => takeI_snoc hxl hyl hJ.out e
                have HNE := Lib.hid fun e => takeI_ne hxl hyl e
                generalize X[d] = x at *
                generalize Y[d] = y at *
                simp [encI] at e0 e1 e2 e3 e4 d0 d1 d2 d3 d4
                obtain ⟨u0, u1, u2, u3, u4⟩ := x
                obtain ⟨v0, v1, v2, v3, v4⟩ := y
                simp only at *
                go_upto_region 17 with fail
                have HH : Hid ((fun V => (V.cell? ⟨bX, offX + d * 5, none⟩ = some (.int .i64 u0) ∧ V.cell? ⟨bX, offX + d * 5 + 1, none⟩ = some (.int .i64 u1) ∧ V.cell? ⟨bX, offX + d * 5 + 2, none⟩ = some (.int .i64 u2) ∧ V.cell? ⟨bX, offX + d * 5 + 3, none⟩ = some (.int .i64 u3) ∧ V.cell? ⟨bX, offX + d * 5 + 4, none⟩ = some (.string u4)) ∧ (V.cell? ⟨bY, offY + d * 5, none⟩ = some (.int .i64 v0) ∧ V.cell? ⟨bY, offY + d * 5 + 1, none⟩ = some (.int .i64 v1) ∧ V.cell? ⟨bY, offY + d * 5 + 2, none⟩ = some (.int .i64 v2) ∧ V.cell? ⟨bY, offY + d * 5 + 3, none⟩ = some (.int .i64 v3) ∧ V.cell? ⟨bY, offY + d * 5 + 4, none⟩ = some (.string v4))) wr.drew) := Lib.hid ⟨⟨e0, e1, e2, e3, e4⟩, ⟨d0, d1, d2, d3, d4⟩⟩
                clear e0 e1 e2 e3 e4 d0 d1 d2 d3 d4
                by_cases c0 : v0 = u0
                · subst c0
                  by_cases c1 : v1 = u1
                  · subst c1
                    by_cases c2 : v2 = u2
                    · subst c2
                      by_cases c3 : v3 = u3
                      · subst c3
                        by_cases c4 : v4 = u4
                        · subst c4
                          have HT1 := Lib.hid (HT.out rfl)
                          have HB5 := Lib.hid hb.out.drew
                          clear HT HNE
                          refine wp_region_noPanic ?_
                          refine wp_region_held_drew (S := (fun V => (V.cell? ⟨bX, offX + d * 5, none⟩ = some (.int .i64 v0) ∧ V.cell? ⟨bX, offX + d * 5 + 1, none⟩ = some (.int .i64 v1) ∧ V.cell? ⟨bX, offX + d * 5 + 2, none⟩ = some (.int .i64 v2) ∧ V.cell? ⟨bX, offX + d * 5 + 3, none⟩ = some (.int .i64 v3) ∧ V.cell? ⟨bX, offX + d * 5 + 4, none⟩ = some (.string v4)) ∧ (V.cell? ⟨bY, offY + d * 5, none⟩ = some (.int .i64 v0) ∧ V.cell? ⟨bY, offY + d * 5 + 1, none⟩ = some (.int .i64 v1) ∧ V.cell? ⟨bY, offY + d * 5 + 2, none⟩ = some (.int .i64 v2) ∧ V.cell? ⟨bY, offY + d * 5 + 3, none⟩ = some (.int .i64 v3) ∧ V.cell? ⟨bY, offY + d * 5 + 4, none⟩ = some (.string v4)))) (by kernel_rfl) (HH.out) (fun hHeld => ?_)
                          refine wpAnyH_take (i := 0) (v := ?_) rfl (by kernel_rfl) (by kernel_rfl) (by kernel_rfl) (fun _ _ _ h => h) (Or.inl ⟨by rfl, ?_⟩) hHeld ?_
                          rotate_left
                          · intro w hSw; (try dsimp only at hSw); go_simp; try with_reducible rfl
                          go_simp
                          refine wpAnyH_take (i := 1) (v := ?_) rfl (by kernel_rfl) (by kernel_rfl) (by kernel_rfl) (fun _ _ _ h => h) (Or.inl ⟨by rfl, ?_⟩) hHeld ?_
                          rotate_left
                          · intro w hSw; (try dsimp only at hSw); go_simp; try with_reducible rfl
                          go_simp
                          refine wpAnyH_take (i := 2) (v := ?_) rfl (by kernel_rfl) (by kernel_rfl) (by kernel_rfl) (fun _ _ _ h => h) (Or.inl ⟨by rfl, ?_⟩) hHeld ?_
                          rotate_left
                          · intro w hSw; (try dsimp only at hSw); go_simp; try with_reducible rfl
                          go_simp
                          refine wpAnyH_take (i := 3) (v := ?_) rfl (by kernel_rfl) (by kernel_rfl) (by kernel_rfl) (fun _ _ _ h => h) (Or.inl ⟨by rfl, ?_⟩) hHeld ?_
                          rotate_left
                          · intro w hSw; (try dsimp only at hSw); go_simp; try with_reducible rfl
                          go_simp
                          refine wpAnyH_take (i := 4) (v := ?_) rfl (by kernel_rfl) (by kernel_rfl) (by kernel_rfl) (fun _ _ _ h => h) (Or.inl ⟨by rfl, ?_⟩) hHeld ?_
                          rotate_left
                          · intro w hSw; (try dsimp only at hSw); go_simp; try with_reducible rfl
                          go_simp
                          refine wpAnyH_take (i := 5) (v := ?_) rfl (by kernel_rfl) (by kernel_rfl) (by kernel_rfl) (fun _ _ _ h => h) (Or.inl ⟨by rfl, ?_⟩) hHeld ?_
                          rotate_left
                          · intro w hSw; (try dsimp only at hSw); go_simp; try with_reducible rfl
                          go_simp
                          refine wpAnyH_take (i := 6) (v := ?_) rfl (by kernel_rfl) (by kernel_rfl) (by kernel_rfl) (fun _ _ _ h => h) (Or.inl ⟨by rfl, ?_⟩) hHeld ?_
                          rotate_left
                          · intro w hSw; (try dsimp only at hSw); go_simp; try with_reducible rfl
                          go_simp
                          refine wpAnyH_take (i := 7) (v := ?_) rfl (by kernel_rfl) (by kernel_rfl) (by kernel_rfl) (fun _ _ _ h => h) (Or.inl ⟨by rfl, ?_⟩) hHeld ?_
                          rotate_left
                          · intro w hSw; (try dsimp only at hSw); go_simp; try with_reducible rfl
                          go_simp
                          refine wpAnyH_take (i := 8) (v := ?_) rfl (by kernel_rfl) (by kernel_rfl) (by kernel_rfl) (fun _ _ _ h => h) (Or.inl ⟨by rfl, ?_⟩) hHeld ?_
                          rotate_left
                          · intro w hSw; (try dsimp only at hSw); go_simp; try with_reducible rfl
                          go_simp
                          refine wpAnyH_take (i := 9) (v := ?_) rfl (by kernel_rfl) (by kernel_rfl) (by kernel_rfl) (fun _ _ _ h => h) (Or.inl ⟨by rfl, ?_⟩) hHeld ?_
                          rotate_left
                          · intro w hSw; (try dsimp only at hSw); go_simp; try with_reducible rfl
                          go_simp
                          refine wpAnyH_take (i := 10) (v := ?_) rfl (by kernel_rfl) (by kernel_rfl) (by kernel_rfl) (fun _ _ _ h => h) (Or.inl ⟨by rfl, ?_⟩) hHeld ?_
                          rotate_left
                          · intro w hSw; (try dsimp only at hSw); go_simp; try with_reducible rfl
                          go_simp
                          refine wpAnyH_take (i := 11) (v := ?_) rfl (by kernel_rfl) (by kernel_rfl) (by kernel_rfl) (fun _ _ _ h => h) (Or.inl ⟨by rfl, ?_⟩) hHeld ?_
                          rotate_left
                          · intro w hSw; (try dsimp only at hSw); go_simp; try with_reducible rfl
                          go_simp
                          refine wpAnyH_take (i := 12) (v := ?_) rfl (by kernel_rfl) (by kernel_rfl) (by kernel_rfl) (fun _ _ _ h => h) (Or.inl ⟨by rfl, ?_⟩) hHeld ?_
                          rotate_left
                          · intro w hSw; (try dsimp only at hSw); go_simp; try with_reducible rfl
                          go_simp
                          refine wpAnyH_take (i := 13) (v := ?_) rfl (by kernel_rfl) (by kernel_rfl) (by kernel_rfl) (fun _ _ _ h => h) (Or.inl ⟨by rfl, ?_⟩) hHeld ?_
                          rotate_left
                          · intro w hSw; (try dsimp only at hSw); go_simp; try with_reducible rfl
                          go_simp
                          refine wpAnyH_take (i := 14) (v := ?_) rfl (by kernel_rfl) (by kernel_rfl) (by kernel_rfl) (fun _ _ _ h => h) (Or.inl ⟨by rfl, ?_⟩) hHeld ?_
                          rotate_left
                          · intro w hSw; (try dsimp only at hSw); go_simp; try with_reducible rfl
                          go_simp
                          refine wpAnyH_done (by kernel_rfl) ?_ _
                          refine NoPanic.normal ?_
                          go_wp2
                          go_roundg (gk - 1)
                          case measure => omega
                          case rel => exact ⟨d + 1, by go_num, by omega, by omega, by omega, HT1, HB5⟩
                        · obtain rfl : r = false := HNo.out (HNE.out (fun h => c4 (by simpa using (congrArg In.tx h).symm)))
                          have y4 : ¬ u4.toList = v4.toList := fun h => c4 (Go.WideShapes.bytes_inj (by rw [← ByteArray.toList_eq, ← ByteArray.toList_eq]; exact h.symm))
                          have z4 : ¬ v4.toList = u4.toList := fun h => y4 h.symm
                          clear HT HNE
                          refine wp_region_noPanic ?_
                          refine wp_region_held_drew (S := (fun V => (V.cell? ⟨bX, offX + d * 5, none⟩ = some (.int .i64 v0) ∧ V.cell? ⟨bX, offX + d * 5 + 1, none⟩ = some (.int .i64 v1) ∧ V.cell? ⟨bX, offX + d * 5 + 2, none⟩ = some (.int .i64 v2) ∧ V.cell? ⟨bX, offX + d * 5 + 3, none⟩ = some (.int .i64 v3) ∧ V.cell? ⟨bX, offX + d * 5 + 4, none⟩ = some (.string u4)) ∧ (V.cell? ⟨bY, offY + d * 5, none⟩ = some (.int .i64 v0) ∧ V.cell? ⟨bY, offY + d * 5 + 1, none⟩ = some (.int .i64 v1) ∧ V.cell? ⟨bY, offY + d * 5 + 2, none⟩ = some (.int .i64 v2) ∧ V.cell? ⟨bY, offY + d * 5 + 3, none⟩ = some (.int .i64 v3) ∧ V.cell? ⟨bY, offY + d * 5 + 4, none⟩ = some (.string v4)))) (by kernel_rfl) (HH.out) (fun hHeld => ?_)
                          refine wpAnyH_take (i := 0) (v := ?_) rfl (by kernel_rfl) (by kernel_rfl) (by kernel_rfl) (fun _ _ _ h => h) (Or.inl ⟨by rfl, ?_⟩) hHeld ?_
                          rotate_left
                          · intro w hSw; (try dsimp only at hSw); go_simp; try with_reducible rfl
                          go_simp
                          refine wpAnyH_take (i := 1) (v := ?_) rfl (by kernel_rfl) (by kernel_rfl) (by kernel_rfl) (fun _ _ _ h => h) (Or.inl ⟨by rfl, ?_⟩) hHeld ?_
                          rotate_left
                          · intro w hSw; (try dsimp only at hSw); go_simp; try with_reducible rfl
                          go_simp
                          refine wpAnyH_take (i := 2) (v := ?_) rfl (by kernel_rfl) (by kernel_rfl) (by kernel_rfl) (fun _ _ _ h => h) (Or.inl ⟨by rfl, ?_⟩) hHeld ?_
                          rotate_left
                          · intro w hSw; (try dsimp only at hSw); go_simp; try with_reducible rfl
                          go_simp
                          refine wpAnyH_take (i := 3) (v := ?_) rfl (by kernel_rfl) (by kernel_rfl) (by kernel_rfl) (fun _ _ _ h => h) (Or.inl ⟨by rfl, ?_⟩) hHeld ?_
                          rotate_left
                          · intro w hSw; (try dsimp only at hSw); go_simp; try with_reducible rfl
                          go_simp
                          refine wpAnyH_take (i := 4) (v := ?_) rfl (by kernel_rfl) (by kernel_rfl) (by kernel_rfl) (fun _ _ _ h => h) (Or.inl ⟨by rfl, ?_⟩) hHeld ?_
                          rotate_left
                          · intro w hSw; (try dsimp only at hSw); go_simp; try with_reducible rfl
                          go_simp
                          refine wpAnyH_take (i := 5) (v := ?_) rfl (by kernel_rfl) (by kernel_rfl) (by kernel_rfl) (fun _ _ _ h => h) (Or.inl ⟨by rfl, ?_⟩) hHeld ?_
                          rotate_left
                          · intro w hSw; (try dsimp only at hSw); go_simp; try with_reducible rfl
                          go_simp
                          refine wpAnyH_take (i := 6) (v := ?_) rfl (by kernel_rfl) (by kernel_rfl) (by kernel_rfl) (fun _ _ _ h => h) (Or.inl ⟨by rfl, ?_⟩) hHeld ?_
                          rotate_left
                          · intro w hSw; (try dsimp only at hSw); go_simp; try with_reducible rfl
                          go_simp
                          refine wpAnyH_take (i := 7) (v := ?_) rfl (by kernel_rfl) (by kernel_rfl) (by kernel_rfl) (fun _ _ _ h => h) (Or.inl ⟨by rfl, ?_⟩) hHeld ?_
                          rotate_left
                          · intro w hSw; (try dsimp only at hSw); go_simp; try with_reducible rfl
                          go_simp
                          refine wpAnyH_take (i := 8) (v := ?_) rfl (by kernel_rfl) (by kernel_rfl) (by kernel_rfl) (fun _ _ _ h => h) (Or.inl ⟨by rfl, ?_⟩) hHeld ?_
                          rotate_left
                          · intro w hSw; (try dsimp only at hSw); go_simp; try with_reducible rfl
                          go_simp
                          refine wpAnyH_take (i := 9) (v := ?_) rfl (by kernel_rfl) (by kernel_rfl) (by kernel_rfl) (fun _ _ _ h => h) (Or.inl ⟨by rfl, ?_⟩) hHeld ?_
                          rotate_left
                          · intro w hSw; (try dsimp only at hSw); go_simp; try with_reducible rfl
                          go_simp
                          refine wpAnyH_take (i := 10) (v := ?_) rfl (by kernel_rfl) (by kernel_rfl) (by kernel_rfl) (fun _ _ _ h => h) (Or.inl ⟨by rfl, ?_⟩) hHeld ?_
                          rotate_left
                          · intro w hSw; (try dsimp only at hSw); go_simp; try with_reducible rfl
                          go_simp
                          refine wpAnyH_take (i := 11) (v := ?_) rfl (by kernel_rfl) (by kernel_rfl) (by kernel_rfl) (fun _ _ _ h => h) (Or.inl ⟨by rfl, ?_⟩) hHeld ?_
                          rotate_left
                          · intro w hSw; (try dsimp only at hSw); go_simp; try with_reducible rfl
                          go_simp
                          refine wpAnyH_take (i := 12) (v := ?_) rfl (by kernel_rfl) (by kernel_rfl) (by kernel_rfl) (fun _ _ _ h => h) (Or.inl ⟨by rfl, ?_⟩) hHeld ?_
                          rotate_left
                          · intro w hSw; (try dsimp only at hSw); go_simp; try with_reducible rfl
                          go_simp
                          refine wpAnyH_take (i := 13) (v := ?_) rfl (by kernel_rfl) (by kernel_rfl) (by kernel_rfl) (fun _ _ _ h => h) (Or.inl ⟨by rfl, ?_⟩) hHeld ?_
                          rotate_left
                          · intro w hSw; (try dsimp only at hSw); go_simp; try with_reducible rfl
                          go_simp
                          refine wpAnyH_take (i := 14) (v := ?_) rfl (by kernel_rfl) (by kernel_rfl) (by kernel_rfl) (fun _ _ _ h => h) (Or.inl ⟨by rfl, ?_⟩) hHeld ?_
                          rotate_left
                          · intro w hSw; (try dsimp only at hSw); go_simp; try with_reducible rfl
                          go_simp
                          refine wpAnyH_done (by kernel_rfl) ?_ _
                          refine NoPanic.normal ?_
                          go_wp2
                          go_ret
                          exact ⟨rfl, HB3.out⟩
                      · obtain rfl : r = false := HNo.out (HNE.out (fun h => c3 (by simpa using (congrArg In.ky h).symm)))
                        have z3 : (v3 == u3) = false := by simpa using c3
                        have y3 : (u3 == v3) = false := by simpa using fun h => c3 h.symm
                        clear HT HNE
                        refine wp_region_noPanic ?_
                        refine wp_region_held_drew (S := (fun V => (V.cell? ⟨bX, offX + d * 5, none⟩ = some (.int .i64 v0) ∧ V.cell? ⟨bX, offX + d * 5 + 1, none⟩ = some (.int .i64 v1) ∧ V.cell? ⟨bX, offX + d * 5 + 2, none⟩ = some (.int .i64 v2) ∧ V.cell? ⟨bX, offX + d * 5 + 3, none⟩ = some (.int .i64 u3) ∧ V.cell? ⟨bX, offX + d * 5 + 4, none⟩ = some (.string u4)) ∧ (V.cell? ⟨bY, offY + d * 5, none⟩ = some (.int .i64 v0) ∧ V.cell? ⟨bY, offY + d * 5 + 1, none⟩ = some (.int .i64 v1) ∧ V.cell? ⟨bY, offY + d * 5 + 2, none⟩ = some (.int .i64 v2) ∧ V.cell? ⟨bY, offY + d * 5 + 3, none⟩ = some (.int .i64 v3) ∧ V.cell? ⟨bY, offY + d * 5 + 4, none⟩ = some (.string v4)))) (by kernel_rfl) (HH.out) (fun hHeld => ?_)
                        refine wpAnyH_take (i := 0) (v := ?_) rfl (by kernel_rfl) (by kernel_rfl) (by kernel_rfl) (fun _ _ _ h => h) (Or.inl ⟨by rfl, ?_⟩) hHeld ?_
                        rotate_left
                        · intro w hSw; (try dsimp only at hSw); go_simp; try with_reducible rfl
                        go_simp
                        refine wpAnyH_take (i := 1) (v := ?_) rfl (by kernel_rfl) (by kernel_rfl) (by kernel_rfl) (fun _ _ _ h => h) (Or.inl ⟨by rfl, ?_⟩) hHeld ?_
                        rotate_left
                        · intro w hSw; (try dsimp only at hSw); go_simp; try with_reducible rfl
                        go_simp
                        refine wpAnyH_take (i := 2) (v := ?_) rfl (by kernel_rfl) (by kernel_rfl) (by kernel_rfl) (fun _ _ _ h => h) (Or.inl ⟨by rfl, ?_⟩) hHeld ?_
                        rotate_left
                        · intro w hSw; (try dsimp only at hSw); go_simp; try with_reducible rfl
                        go_simp
                        refine wpAnyH_take (i := 3) (v := ?_) rfl (by kernel_rfl) (by kernel_rfl) (by kernel_rfl) (fun _ _ _ h => h) (Or.inl ⟨by rfl, ?_⟩) hHeld ?_
                        rotate_left
                        · intro w hSw; (try dsimp only at hSw); go_simp; try with_reducible rfl
                        go_simp
                        refine wpAnyH_take (i := 4) (v := ?_) rfl (by kernel_rfl) (by kernel_rfl) (by kernel_rfl) (fun _ _ _ h => h) (Or.inl ⟨by rfl, ?_⟩) hHeld ?_
                        rotate_left
                        · intro w hSw; (try dsimp only at hSw); go_simp; try with_reducible rfl
                        go_simp
                        refine wpAnyH_take (i := 5) (v := ?_) rfl (by kernel_rfl) (by kernel_rfl) (by kernel_rfl) (fun _ _ _ h => h) (Or.inl ⟨by rfl, ?_⟩) hHeld ?_
                        rotate_left
                        · intro w hSw; (try dsimp only at hSw); go_simp; try with_reducible rfl
                        go_simp
                        refine wpAnyH_take (i := 6) (v := ?_) rfl (by kernel_rfl) (by kernel_rfl) (by kernel_rfl) (fun _ _ _ h => h) (Or.inl ⟨by rfl, ?_⟩) hHeld ?_
                        rotate_left
                        · intro w hSw; (try dsimp only at hSw); go_simp; try with_reducible rfl
                        go_simp
                        refine wpAnyH_take (i := 7) (v := ?_) rfl (by kernel_rfl) (by kernel_rfl) (by kernel_rfl) (fun _ _ _ h => h) (Or.inl ⟨by rfl, ?_⟩) hHeld ?_
                        rotate_left
                        · intro w hSw; (try dsimp only at hSw); go_simp; try with_reducible rfl
                        go_simp
                        refine wpAnyH_take (i := 8) (v := ?_) rfl (by kernel_rfl) (by kernel_rfl) (by kernel_rfl) (fun _ _ _ h => h) (Or.inl ⟨by rfl, ?_⟩) hHeld ?_
                        rotate_left
                        · intro w hSw; (try dsimp only at hSw); go_simp; try with_reducible rfl
                        go_simp
                        refine wpAnyH_take (i := 9) (v := ?_) rfl (by kernel_rfl) (by kernel_rfl) (by kernel_rfl) (fun _ _ _ h => h) (Or.inl ⟨by rfl, ?_⟩) hHeld ?_
                        rotate_left
                        · intro w hSw; (try dsimp only at hSw); go_simp; try with_reducible rfl
                        go_simp
                        refine wpAnyH_take (i := 10) (v := ?_) rfl (by kernel_rfl) (by kernel_rfl) (by kernel_rfl) (fun _ _ _ h => h) (Or.inl ⟨by rfl, ?_⟩) hHeld ?_
                        rotate_left
                        · intro w hSw; (try dsimp only at hSw); go_simp; try with_reducible rfl
                        go_simp
                        refine wpAnyH_take (i := 11) (v := ?_) rfl (by kernel_rfl) (by kernel_rfl) (by kernel_rfl) (fun _ _ _ h => h) (Or.inl ⟨by rfl, ?_⟩) hHeld ?_
                        rotate_left
                        · intro w hSw; (try dsimp only at hSw); go_simp; try with_reducible rfl
                        go_simp
                        refine wpAnyH_take (i := 12) (v := ?_) rfl (by kernel_rfl) (by kernel_rfl) (by kernel_rfl) (fun _ _ _ h => h) (Or.inl ⟨by rfl, ?_⟩) hHeld ?_
                        rotate_left
                        · intro w hSw; (try dsimp only at hSw); go_simp; try with_reducible rfl
                        go_simp
                        refine wpAnyH_take (i := 13) (v := ?_) rfl (by kernel_rfl) (by kernel_rfl) (by kernel_rfl) (fun _ _ _ h => h) (Or.inl ⟨by rfl, ?_⟩) hHeld ?_
                        rotate_left
                        · intro w hSw; (try dsimp only at hSw); go_simp; try with_reducible rfl
                        go_simp
                        refine wpAnyH_take (i := 14) (v := ?_) rfl (by kernel_rfl) (by kernel_rfl) (by kernel_rfl) (fun _ _ _ h => h) (Or.inl ⟨by rfl, ?_⟩) hHeld ?_
                        rotate_left
                        · intro w hSw; (try dsimp only at hSw); go_simp; try with_reducible rfl
                        go_simp
                        refine wpAnyH_done (by kernel_rfl) ?_ _
                        refine NoPanic.normal ?_
                        go_wp2
                        go_ret
                        exact ⟨rfl, HB3.out⟩
                    · obtain rfl : r = false := HNo.out (HNE.out (fun h => c2 (by simpa using (congrArg In.bi h).symm)))
                      have z2 : (v2 == u2) = false := by simpa using c2
                      have y2 : (u2 == v2) = false := by simpa using fun h => c2 h.symm
                      clear HT HNE
                      refine wp_region_noPanic ?_
                      refine wp_region_held_drew (S := (fun V => (V.cell? ⟨bX, offX + d * 5, none⟩ = some (.int .i64 v0) ∧ V.cell? ⟨bX, offX + d * 5 + 1, none⟩ = some (.int .i64 v1) ∧ V.cell? ⟨bX, offX + d * 5 + 2, none⟩ = some (.int .i64 u2) ∧ V.cell? ⟨bX, offX + d * 5 + 3, none⟩ = some (.int .i64 u3) ∧ V.cell? ⟨bX, offX + d * 5 + 4, none⟩ = some (.string u4)) ∧ (V.cell? ⟨bY, offY + d * 5, none⟩ = some (.int .i64 v0) ∧ V.cell? ⟨bY, offY + d * 5 + 1, none⟩ = some (.int .i64 v1) ∧ V.cell? ⟨bY, offY + d * 5 + 2, none⟩ = some (.int .i64 v2) ∧ V.cell? ⟨bY, offY + d * 5 + 3, none⟩ = some (.int .i64 v3) ∧ V.cell? ⟨bY, offY + d * 5 + 4, none⟩ = some (.string v4)))) (by kernel_rfl) (HH.out) (fun hHeld => ?_)
                      refine wpAnyH_take (i := 0) (v := ?_) rfl (by kernel_rfl) (by kernel_rfl) (by kernel_rfl) (fun _ _ _ h => h) (Or.inl ⟨by rfl, ?_⟩) hHeld ?_
                      rotate_left
                      · intro w hSw; (try dsimp only at hSw); go_simp; try with_reducible rfl
                      go_simp
                      refine wpAnyH_take (i := 1) (v := ?_) rfl (by kernel_rfl) (by kernel_rfl) (by kernel_rfl) (fun _ _ _ h => h) (Or.inl ⟨by rfl, ?_⟩) hHeld ?_
                      rotate_left
                      · intro w hSw; (try dsimp only at hSw); go_simp; try with_reducible rfl
                      go_simp
                      refine wpAnyH_take (i := 2) (v := ?_) rfl (by kernel_rfl) (by kernel_rfl) (by kernel_rfl) (fun _ _ _ h => h) (Or.inl ⟨by rfl, ?_⟩) hHeld ?_
                      rotate_left
                      · intro w hSw; (try dsimp only at hSw); go_simp; try with_reducible rfl
                      go_simp
                      refine wpAnyH_take (i := 3) (v := ?_) rfl (by kernel_rfl) (by kernel_rfl) (by kernel_rfl) (fun _ _ _ h => h) (Or.inl ⟨by rfl, ?_⟩) hHeld ?_
                      rotate_left
                      · intro w hSw; (try dsimp only at hSw); go_simp; try with_reducible rfl
                      go_simp
                      refine wpAnyH_take (i := 4) (v := ?_) rfl (by kernel_rfl) (by kernel_rfl) (by kernel_rfl) (fun _ _ _ h => h) (Or.inl ⟨by rfl, ?_⟩) hHeld ?_
                      rotate_left
                      · intro w hSw; (try dsimp only at hSw); go_simp; try with_reducible rfl
                      go_simp
                      refine wpAnyH_take (i := 5) (v := ?_) rfl (by kernel_rfl) (by kernel_rfl) (by kernel_rfl) (fun _ _ _ h => h) (Or.inl ⟨by rfl, ?_⟩) hHeld ?_
                      rotate_left
                      · intro w hSw; (try dsimp only at hSw); go_simp; try with_reducible rfl
                      go_simp
                      refine wpAnyH_take (i := 6) (v := ?_) rfl (by kernel_rfl) (by kernel_rfl) (by kernel_rfl) (fun _ _ _ h => h) (Or.inl ⟨by rfl, ?_⟩) hHeld ?_
                      rotate_left
                      · intro w hSw; (try dsimp only at hSw); go_simp; try with_reducible rfl
                      go_simp
                      refine wpAnyH_take (i := 7) (v := ?_) rfl (by kernel_rfl) (by kernel_rfl) (by kernel_rfl) (fun _ _ _ h => h) (Or.inl ⟨by rfl, ?_⟩) hHeld ?_
                      rotate_left
                      · intro w hSw; (try dsimp only at hSw); go_simp; try with_reducible rfl
                      go_simp
                      refine wpAnyH_take (i := 8) (v := ?_) rfl (by kernel_rfl) (by kernel_rfl) (by kernel_rfl) (fun _ _ _ h => h) (Or.inl ⟨by rfl, ?_⟩) hHeld ?_
                      rotate_left
                      · intro w hSw; (try dsimp only at hSw); go_simp; try with_reducible rfl
                      go_simp
                      refine wpAnyH_take (i := 9) (v := ?_) rfl (by kernel_rfl) (by kernel_rfl) (by kernel_rfl) (fun _ _ _ h => h) (Or.inl ⟨by rfl, ?_⟩) hHeld ?_
                      rotate_left
                      · intro w hSw; (try dsimp only at hSw); go_simp; try with_reducible rfl
                      go_simp
                      refine wpAnyH_take (i := 10) (v := ?_) rfl (by kernel_rfl) (by kernel_rfl) (by kernel_rfl) (fun _ _ _ h => h) (Or.inl ⟨by rfl, ?_⟩) hHeld ?_
                      rotate_left
                      · intro w hSw; (try dsimp only at hSw); go_simp; try with_reducible rfl
                      go_simp
                      refine wpAnyH_take (i := 11) (v := ?_) rfl (by kernel_rfl) (by kernel_rfl) (by kernel_rfl) (fun _ _ _ h => h) (Or.inl ⟨by rfl, ?_⟩) hHeld ?_
                      rotate_left
                      · intro w hSw; (try dsimp only at hSw); go_simp; try with_reducible rfl
                      go_simp
                      refine wpAnyH_take (i := 12) (v := ?_) rfl (by kernel_rfl) (by kernel_rfl) (by kernel_rfl) (fun _ _ _ h => h) (Or.inl ⟨by rfl, ?_⟩) hHeld ?_
                      rotate_left
                      · intro w hSw; (try dsimp only at hSw); go_simp; try with_reducible rfl
                      go_simp
                      refine wpAnyH_take (i := 13) (v := ?_) rfl (by kernel_rfl) (by kernel_rfl) (by kernel_rfl) (fun _ _ _ h => h) (Or.inl ⟨by rfl, ?_⟩) hHeld ?_
                      rotate_left
                      · intro w hSw; (try dsimp only at hSw); go_simp; try with_reducible rfl
                      go_simp
                      refine wpAnyH_take (i := 14) (v := ?_) rfl (by kernel_rfl) (by kernel_rfl) (by kernel_rfl) (fun _ _ _ h => h) (Or.inl ⟨by rfl, ?_⟩) hHeld ?_
                      rotate_left
                      · intro w hSw; (try dsimp only at hSw); go_simp; try with_reducible rfl
                      go_simp
                      refine wpAnyH_done (by kernel_rfl) ?_ _
                      refine NoPanic.normal ?_
                      go_wp2
                      go_ret
                      exact ⟨rfl, HB3.out⟩
                  · obtain rfl : r = false := HNo.out (HNE.out (fun h => c1 (by simpa using (congrArg In.pl h).symm)))
                    have z1 : (v1 == u1) = false := by simpa using c1
                    have y1 : (u1 == v1) = false := by simpa using fun h => c1 h.symm
                    clear HT HNE
                    refine wp_region_noPanic ?_
                    refine wp_region_held_drew (S := (fun V => (V.cell? ⟨bX, offX + d * 5, none⟩ = some (.int .i64 v0) ∧ V.cell? ⟨bX, offX + d * 5 + 1, none⟩ = some (.int .i64 u1) ∧ V.cell? ⟨bX, offX + d * 5 + 2, none⟩ = some (.int .i64 u2) ∧ V.cell? ⟨bX, offX + d * 5 + 3, none⟩ = some (.int .i64 u3) ∧ V.cell? ⟨bX, offX + d * 5 + 4, none⟩ = some (.string u4)) ∧ (V.cell? ⟨bY, offY + d * 5, none⟩ = some (.int .i64 v0) ∧ V.cell? ⟨bY, offY + d * 5 + 1, none⟩ = some (.int .i64 v1) ∧ V.cell? ⟨bY, offY + d * 5 + 2, none⟩ = some (.int .i64 v2) ∧ V.cell? ⟨bY, offY + d * 5 + 3, none⟩ = some (.int .i64 v3) ∧ V.cell? ⟨bY, offY + d * 5 + 4, none⟩ = some (.string v4)))) (by kernel_rfl) (HH.out) (fun hHeld => ?_)
                    refine wpAnyH_take (i := 0) (v := ?_) rfl (by kernel_rfl) (by kernel_rfl) (by kernel_rfl) (fun _ _ _ h => h) (Or.inl ⟨by rfl, ?_⟩) hHeld ?_
                    rotate_left
                    · intro w hSw; (try dsimp only at hSw); go_simp; try with_reducible rfl
                    go_simp
                    refine wpAnyH_take (i := 1) (v := ?_) rfl (by kernel_rfl) (by kernel_rfl) (by kernel_rfl) (fun _ _ _ h => h) (Or.inl ⟨by rfl, ?_⟩) hHeld ?_
                    rotate_left
                    · intro w hSw; (try dsimp only at hSw); go_simp; try with_reducible rfl
                    go_simp
                    refine wpAnyH_take (i := 2) (v := ?_) rfl (by kernel_rfl) (by kernel_rfl) (by kernel_rfl) (fun _ _ _ h => h) (Or.inl ⟨by rfl, ?_⟩) hHeld ?_
                    rotate_left
                    · intro w hSw; (try dsimp only at hSw); go_simp; try with_reducible rfl
                    go_simp
                    refine wpAnyH_take (i := 3) (v := ?_) rfl (by kernel_rfl) (by kernel_rfl) (by kernel_rfl) (fun _ _ _ h => h) (Or.inl ⟨by rfl, ?_⟩) hHeld ?_
                    rotate_left
                    · intro w hSw; (try dsimp only at hSw); go_simp; try with_reducible rfl
                    go_simp
                    refine wpAnyH_take (i := 4) (v := ?_) rfl (by kernel_rfl) (by kernel_rfl) (by kernel_rfl) (fun _ _ _ h => h) (Or.inl ⟨by rfl, ?_⟩) hHeld ?_
                    rotate_left
                    · intro w hSw; (try dsimp only at hSw); go_simp; try with_reducible rfl
                    go_simp
                    refine wpAnyH_take (i := 5) (v := ?_) rfl (by kernel_rfl) (by kernel_rfl) (by kernel_rfl) (fun _ _ _ h => h) (Or.inl ⟨by rfl, ?_⟩) hHeld ?_
                    rotate_left
                    · intro w hSw; (try dsimp only at hSw); go_simp; try with_reducible rfl
                    go_simp
                    refine wpAnyH_take (i := 6) (v := ?_) rfl (by kernel_rfl) (by kernel_rfl) (by kernel_rfl) (fun _ _ _ h => h) (Or.inl ⟨by rfl, ?_⟩) hHeld ?_
                    rotate_left
                    · intro w hSw; (try dsimp only at hSw); go_simp; try with_reducible rfl
                    go_simp
                    refine wpAnyH_take (i := 7) (v := ?_) rfl (by kernel_rfl) (by kernel_rfl) (by kernel_rfl) (fun _ _ _ h => h) (Or.inl ⟨by rfl, ?_⟩) hHeld ?_
                    rotate_left
                    · intro w hSw; (try dsimp only at hSw); go_simp; try with_reducible rfl
                    go_simp
                    refine wpAnyH_take (i := 8) (v := ?_) rfl (by kernel_rfl) (by kernel_rfl) (by kernel_rfl) (fun _ _ _ h => h) (Or.inl ⟨by rfl, ?_⟩) hHeld ?_
                    rotate_left
                    · intro w hSw; (try dsimp only at hSw); go_simp; try with_reducible rfl
                    go_simp
                    refine wpAnyH_take (i := 9) (v := ?_) rfl (by kernel_rfl) (by kernel_rfl) (by kernel_rfl) (fun _ _ _ h => h) (Or.inl ⟨by rfl, ?_⟩) hHeld ?_
                    rotate_left
                    · intro w hSw; (try dsimp only at hSw); go_simp; try with_reducible rfl
                    go_simp
                    refine wpAnyH_take (i := 10) (v := ?_) rfl (by kernel_rfl) (by kernel_rfl) (by kernel_rfl) (fun _ _ _ h => h) (Or.inl ⟨by rfl, ?_⟩) hHeld ?_
                    rotate_left
                    · intro w hSw; (try dsimp only at hSw); go_simp; try with_reducible rfl
                    go_simp
                    refine wpAnyH_take (i := 11) (v := ?_) rfl (by kernel_rfl) (by kernel_rfl) (by kernel_rfl) (fun _ _ _ h => h) (Or.inl ⟨by rfl, ?_⟩) hHeld ?_
                    rotate_left
                    · intro w hSw; (try dsimp only at hSw); go_simp; try with_reducible rfl
                    go_simp
                    refine wpAnyH_take (i := 12) (v := ?_) rfl (by kernel_rfl) (by kernel_rfl) (by kernel_rfl) (fun _ _ _ h => h) (Or.inl ⟨by rfl, ?_⟩) hHeld ?_
                    rotate_left
                    · intro w hSw; (try dsimp only at hSw); go_simp; try with_reducible rfl
                    go_simp
                    refine wpAnyH_take (i := 13) (v := ?_) rfl (by kernel_rfl) (by kernel_rfl) (by kernel_rfl) (fun _ _ _ h => h) (Or.inl ⟨by rfl, ?_⟩) hHeld ?_
                    rotate_left
                    · intro w hSw; (try dsimp only at hSw); go_simp; try with_reducible rfl
                    go_simp
                    refine wpAnyH_take (i := 14) (v := ?_) rfl (by kernel_rfl) (by kernel_rfl) (by kernel_rfl) (fun _ _ _ h => h) (Or.inl ⟨by rfl, ?_⟩) hHeld ?_
                    rotate_left
                    · intro w hSw; (try dsimp only at hSw); go_simp; try with_reducible rfl
                    go_simp
                    refine wpAnyH_done (by kernel_rfl) ?_ _
                    refine NoPanic.normal ?_
                    go_wp2
                    go_ret
                    exact ⟨rfl, HB3.out⟩
                · obtain rfl : r = false := HNo.out (HNE.out (fun h => c0 (by simpa using (congrArg In.id h).symm)))
                  have z0 : (v0 == u0) = false := by simpa using c0
                  have y0 : (u0 == v0) = false := by simpa using fun h => c0 h.symm
                  clear HT HNE
                  refine wp_region_noPanic ?_
                  refine wp_region_held_drew (S := (fun V => (V.cell? ⟨bX, offX + d * 5, none⟩ = some (.int .i64 u0) ∧ V.cell? ⟨bX, offX + d * 5 + 1, none⟩ = some (.int .i64 u1) ∧ V.cell? ⟨bX, offX + d * 5 + 2, none⟩ = some (.int .i64 u2) ∧ V.cell? ⟨bX, offX + d * 5 + 3, none⟩ = some (.int .i64 u3) ∧ V.cell? ⟨bX, offX + d * 5 + 4, none⟩ = some (.string u4)) ∧ (V.cell? ⟨bY, offY + d * 5, none⟩ = some (.int .i64 v0) ∧ V.cell? ⟨bY, offY + d * 5 + 1, none⟩ = some (.int .i64 v1) ∧ V.cell? ⟨bY, offY + d * 5 + 2, none⟩ = some (.int .i64 v2) ∧ V.cell? ⟨bY, offY + d * 5 + 3, none⟩ = some (.int .i64 v3) ∧ V.cell? ⟨bY, offY + d * 5 + 4, none⟩ = some (.string v4)))) (by kernel_rfl) (HH.out) (fun hHeld => ?_)
                  refine wpAnyH_take (i := 0) (v := ?_) rfl (by kernel_rfl) (by kernel_rfl) (by kernel_rfl) (fun _ _ _ h => h) (Or.inl ⟨by rfl, ?_⟩) hHeld ?_
                  rotate_left
                  · intro w hSw; (try dsimp only at hSw); go_simp; try with_reducible rfl
                  go_simp
                  refine wpAnyH_take (i := 1) (v := ?_) rfl (by kernel_rfl) (by kernel_rfl) (by kernel_rfl) (fun _ _ _ h => h) (Or.inl ⟨by rfl, ?_⟩) hHeld ?_
                  rotate_left
                  · intro w hSw; (try dsimp only at hSw); go_simp; try with_reducible rfl
                  go_simp
                  refine wpAnyH_take (i := 2) (v := ?_) rfl (by kernel_rfl) (by kernel_rfl) (by kernel_rfl) (fun _ _ _ h => h) (Or.inl ⟨by rfl, ?_⟩) hHeld ?_
                  rotate_left
                  · intro w hSw; (try dsimp only at hSw); go_simp; try with_reducible rfl
                  go_simp
                  refine wpAnyH_take (i := 3) (v := ?_) rfl (by kernel_rfl) (by kernel_rfl) (by kernel_rfl) (fun _ _ _ h => h) (Or.inl ⟨by rfl, ?_⟩) hHeld ?_
                  rotate_left
                  · intro w hSw; (try dsimp only at hSw); go_simp; try with_reducible rfl
                  go_simp
                  refine wpAnyH_take (i := 4) (v := ?_) rfl (by kernel_rfl) (by kernel_rfl) (by kernel_rfl) (fun _ _ _ h => h) (Or.inl ⟨by rfl, ?_⟩) hHeld ?_
                  rotate_left
                  · intro w hSw; (try dsimp only at hSw); go_simp; try with_reducible rfl
                  go_simp
                  refine wpAnyH_take (i := 5) (v := ?_) rfl (by kernel_rfl) (by kernel_rfl) (by kernel_rfl) (fun _ _ _ h => h) (Or.inl ⟨by rfl, ?_⟩) hHeld ?_
                  rotate_left
                  · intro w hSw; (try dsimp only at hSw); go_simp; try with_reducible rfl
                  go_simp
                  refine wpAnyH_take (i := 6) (v := ?_) rfl (by kernel_rfl) (by kernel_rfl) (by kernel_rfl) (fun _ _ _ h => h) (Or.inl ⟨by rfl, ?_⟩) hHeld ?_
                  rotate_left
                  · intro w hSw; (try dsimp only at hSw); go_simp; try with_reducible rfl
                  go_simp
                  refine wpAnyH_take (i := 7) (v := ?_) rfl (by kernel_rfl) (by kernel_rfl) (by kernel_rfl) (fun _ _ _ h => h) (Or.inl ⟨by rfl, ?_⟩) hHeld ?_
                  rotate_left
                  · intro w hSw; (try dsimp only at hSw); go_simp; try with_reducible rfl
                  go_simp
                  refine wpAnyH_take (i := 8) (v := ?_) rfl (by kernel_rfl) (by kernel_rfl) (by kernel_rfl) (fun _ _ _ h => h) (Or.inl ⟨by rfl, ?_⟩) hHeld ?_
                  rotate_left
                  · intro w hSw; (try dsimp only at hSw); go_simp; try with_reducible rfl
                  go_simp
                  refine wpAnyH_take (i := 9) (v := ?_) rfl (by kernel_rfl) (by kernel_rfl) (by kernel_rfl) (fun _ _ _ h => h) (Or.inl ⟨by rfl, ?_⟩) hHeld ?_
                  rotate_left
                  · intro w hSw; (try dsimp only at hSw); go_simp; try with_reducible rfl
                  go_simp
                  refine wpAnyH_take (i := 10) (v := ?_) rfl (by kernel_rfl) (by kernel_rfl) (by kernel_rfl) (fun _ _ _ h => h) (Or.inl ⟨by rfl, ?_⟩) hHeld ?_
                  rotate_left
                  · intro w hSw; (try dsimp only at hSw); go_simp; try with_reducible rfl
                  go_simp
                  refine wpAnyH_take (i := 11) (v := ?_) rfl (by kernel_rfl) (by kernel_rfl) (by kernel_rfl) (fun _ _ _ h => h) (Or.inl ⟨by rfl, ?_⟩) hHeld ?_
                  rotate_left
                  · intro w hSw; (try dsimp only at hSw); go_simp; try with_reducible rfl
                  go_simp
                  refine wpAnyH_take (i := 12) (v := ?_) rfl (by kernel_rfl) (by kernel_rfl) (by kernel_rfl) (fun _ _ _ h => h) (Or.inl ⟨by rfl, ?_⟩) hHeld ?_
                  rotate_left
                  · intro w hSw; (try dsimp only at hSw); go_simp; try with_reducible rfl
                  go_simp
                  refine wpAnyH_take (i := 13) (v := ?_) rfl (by kernel_rfl) (by kernel_rfl) (by kernel_rfl) (fun _ _ _ h => h) (Or.inl ⟨by rfl, ?_⟩) hHeld ?_
                  rotate_left
                  · intro w hSw; (try dsimp only at hSw); go_simp; try with_reducible rfl
                  go_simp
                  refine wpAnyH_take (i := 14) (v := ?_) rfl (by kernel_rfl) (by kernel_rfl) (by kernel_rfl) (fun _ _ _ h => h) (Or.inl ⟨by rfl, ?_⟩) hHeld ?_
                  rotate_left
                  · intro w hSw; (try dsimp only at hSw); go_simp; try with_reducible rfl
                  go_simp
                  refine wpAnyH_done (by kernel_rfl) ?_ _
                  refine NoPanic.normal ?_
                  go_wp2
                  go_ret
                  exact ⟨rfl, HB3.out⟩
              · have kq : decide ((s : Int) ≤ d) = true := decide_eq_true (by omega)
                have kqn : decide (s ≤ d) = true := decide_eq_true (by omega)
                obtain rfl : r = false := HNo.out (fun e => by have := congrArg List.length e; rw [← HQ.out, ← HS.out] at this; omega)
                simp [encI] at e0
                go_upto_region 17 with fail
                have HH : Hid ((fun V => V.cell? ⟨bX, offX + d * 5, none⟩ = some (.int .i64 X[d].id)) wr.drew) := Lib.hid e0
                clear e0 e1 e2 e3 e4
                refine wp_region_noPanic ?_
                refine wp_region_held_drew (S := (fun V => V.cell? ⟨bX, offX + d * 5, none⟩ = some (.int .i64 X[d].id))) (by kernel_rfl) (HH.out) (fun hHeld => ?_)
                refine wpAnyH_take (i := 0) (v := ?_) rfl (by kernel_rfl) (by kernel_rfl) (by kernel_rfl) (fun _ _ _ h => h) (Or.inl ⟨by rfl, ?_⟩) hHeld ?_
                rotate_left
                · intro w hSw; (try dsimp only at hSw); go_simp; try with_reducible rfl
                go_simp
                refine wpAnyH_take (i := 1) (v := ?_) rfl (by kernel_rfl) (by kernel_rfl) (by kernel_rfl) (fun _ _ _ h => h) (Or.inl ⟨by rfl, ?_⟩) hHeld ?_
                rotate_left
                · intro w hSw; (try dsimp only at hSw); go_simp; try with_reducible rfl
                go_simp
                refine wpAnyH_take (i := 2) (v := ?_) rfl (by kernel_rfl) (by kernel_rfl) (by kernel_rfl) (fun _ _ _ h => h) (Or.inl ⟨by rfl, ?_⟩) hHeld ?_
                rotate_left
                · intro w hSw; (try dsimp only at hSw); go_simp; try with_reducible rfl
                go_simp
                refine wpAnyH_take (i := 3) (v := ?_) rfl (by kernel_rfl) (by kernel_rfl) (by kernel_rfl) (fun _ _ _ h => h) (Or.inl ⟨by rfl, ?_⟩) hHeld ?_
                rotate_left
                · intro w hSw; (try dsimp only at hSw); go_simp; try with_reducible rfl
                go_simp
                refine wpAnyH_take (i := 4) (v := ?_) rfl (by kernel_rfl) (by kernel_rfl) (by kernel_rfl) (fun _ _ _ h => h) (Or.inl ⟨by rfl, ?_⟩) hHeld ?_
                rotate_left
                · intro w hSw; (try dsimp only at hSw); go_simp; try with_reducible rfl
                go_simp
                refine wpAnyH_take (i := 5) (v := undef) rfl (by kernel_rfl) (by kernel_rfl) (by kernel_rfl) (fun _ _ _ h => h) (Or.inr ⟨by rfl, rfl⟩) hHeld ?_
                go_simp
                refine wpAnyH_take (i := 6) (v := undef) rfl (by kernel_rfl) (by kernel_rfl) (by kernel_rfl) (fun _ _ _ h => h) (Or.inr ⟨by rfl, rfl⟩) hHeld ?_
                go_simp
                refine wpAnyH_take (i := 7) (v := undef) rfl (by kernel_rfl) (by kernel_rfl) (by kernel_rfl) (fun _ _ _ h => h) (Or.inr ⟨by rfl, rfl⟩) hHeld ?_
                go_simp
                refine wpAnyH_take (i := 8) (v := undef) rfl (by kernel_rfl) (by kernel_rfl) (by kernel_rfl) (fun _ _ _ h => h) (Or.inr ⟨by rfl, rfl⟩) hHeld ?_
                go_simp
                refine wpAnyH_take (i := 9) (v := undef) rfl (by kernel_rfl) (by kernel_rfl) (by kernel_rfl) (fun _ _ _ h => h) (Or.inr ⟨by rfl, rfl⟩) hHeld ?_
                go_simp
                refine wpAnyH_take (i := 10) (v := undef) rfl (by kernel_rfl) (by kernel_rfl) (by kernel_rfl) (fun _ _ _ h => h) (Or.inr ⟨by rfl, rfl⟩) hHeld ?_
                go_simp
                refine wpAnyH_take (i := 11) (v := undef) rfl (by kernel_rfl) (by kernel_rfl) (by kernel_rfl) (fun _ _ _ h => h) (Or.inr ⟨by rfl, rfl⟩) hHeld ?_
                go_simp
                refine wpAnyH_take (i := 12) (v := undef) rfl (by kernel_rfl) (by kernel_rfl) (by kernel_rfl) (fun _ _ _ h => h) (Or.inr ⟨by rfl, rfl⟩) hHeld ?_
                go_simp
                refine wpAnyH_take (i := 13) (v := undef) rfl (by kernel_rfl) (by kernel_rfl) (by kernel_rfl) (fun _ _ _ h => h) (Or.inr ⟨by rfl, rfl⟩) hHeld ?_
                go_simp
                refine wpAnyH_take (i := 14) (v := ?_) rfl (by kernel_rfl) (by kernel_rfl) (by kernel_rfl) (fun _ _ _ h => h) (Or.inl ⟨by rfl, ?_⟩) hHeld ?_
                rotate_left
                · intro w hSw; (try dsimp only at hSw); go_simp; try with_reducible rfl
                go_simp
                refine wpAnyH_done (by kernel_rfl) ?_ _
                refine NoPanic.normal ?_
                go_wp2
                go_ret
                exact ⟨rfl, HB3.out⟩
            · obtain rfl : d = q := by omega
              have HB3 := Lib.hid (HYB.out.trans (hb.out.mono HYB.out.size))
              by_cases hqs : d = s
              · obtain rfl : r = true := HE.out.mpr (by
                  have h := hJ.out
                  rw [List.take_of_length_le (by rw [← HQ.out]; exact Nat.le_refl _), List.take_of_length_le (by rw [← HS.out, hqs]; exact Nat.le_refl _)] at h
                  exact h)
                subst hqs
                go_wp2
                go_ret
                exact ⟨by simp, HB3.out⟩
              · have kz : decide ((d : Int) = s) = false := decide_eq_false (by omega)
                have kz2 : decide (d = s) = false := decide_eq_false hqs
                obtain rfl : r = false := HNo.out (fun e => by have := congrArg List.length e; rw [← HQ.out, ← HS.out] at this; omega)
                go_wp2
                go_ret
                exact ⟨by simp; omega, HB3.out⟩
end
section
open Go.RowKit Go.Sort
set_option linter.unusedVariables false
theorem ins_last {α : Type} (lt : α → α → Bool) (x : α) : ∀ l : List α, (∀ y ∈ l, lt x y = false) → ins lt x l = l ++ [x]
  | [], _ => rfl
  | y :: l, h => by
    have h1 := h y (by simp)
    unfold ins
    rw [h1]
    simp only [Bool.false_eq_true, if_false, List.cons_append]
    rw [ins_last lt x l (fun z hz => h z (List.mem_cons_of_mem _ hz))]
theorem ord_fix {α : Type} (lt : α → α → Bool) (l : List α) : l.Pairwise (fun a b => lt b a = false) → ord lt l = l := by
  intro h
  have key : ∀ r : List α, r.reverse.Pairwise (fun a b => lt b a = false) → ord lt r.reverse = r.reverse := by
    intro r
    induction r with
    | nil => intro _; rfl
    | cons x r ih =>
      intro hp
      rw [List.reverse_cons] at hp ⊢
      obtain ⟨h1, _, h3⟩ := List.pairwise_append.1 hp
      rw [ord_snoc, ih h1]
      exact ins_last lt x _ (fun y hy => h3 y hy x (by simp))
  have := key l.reverse (by rwa [List.reverse_reverse])
  rwa [List.reverse_reverse] at this
/-- What was made in order stays when it is made again. -/
theorem oI_again (X : List In) : oI (oI X) = oI X := by
  unfold oI
  have e : (ord ilt (X.map icl)).map icl = ord ilt (X.map icl) := by
    conv => rhs; rw [← List.map_id (ord ilt (X.map icl))]
    refine List.map_congr_left fun a ha => ?_
    have := (ord_perm ilt ilt_swo (X.map icl)).mem_iff.1 ha
    obtain ⟨y, _, rfl⟩ := List.mem_map.1 this
    exact icl_icl y
  rw [e]
  exact ord_fix ilt _ (ord_sorted ilt ilt_swo _)
set_option maxHeartbeats 4000000 in
theorem rFits14g_any (n m a b c d : Int) (w : World) (hb : 0 ≤ n ∧ n ≤ 1000000 ∧ 0 ≤ m ∧ m ≤ 1000000) (r : Bool) (hr : r = true ↔ (0 ≤ a ∧ a ≤ b ∧ b ≤ n) ∧ c = a ∧ c ≤ d ∧ d ≤ m ∧ n - b = m - d) : Calls Tryz.prog 13 #[.int .i64 n, .int .i64 m, .agg #[.int .i64 a, .int .i64 b, .int .i64 c, .int .i64 d]] w fun e w' => e = .returned (.bool r) ∧ Below w.heap.size w w' := by
  have HF := Lib.hid hr; clear hr
  have HN : Hid (¬ ((0 ≤ a ∧ a ≤ b ∧ b ≤ n) ∧ c = a ∧ c ≤ d ∧ d ≤ m ∧ n - b = m - d) → r = false) := Lib.hid fun h => by cases r; rfl; exact absurd (HF.out.1 rfl) h
  by_cases g1 : 0 ≤ a
  · have k1 : decide (0 ≤ a) = true := decide_eq_true g1
    by_cases g2 : a ≤ b
    · have k2 : decide (a ≤ b) = true := decide_eq_true g2
      by_cases g3 : b ≤ n
      · have k3 : decide (b ≤ n) = true := decide_eq_true g3
        by_cases g4 : c = a
        · subst g4
          by_cases g5 : c ≤ d
          · have k5 : decide (c ≤ d) = true := decide_eq_true g5
            by_cases g6 : d ≤ m
            · have k6 : decide (d ≤ m) = true := decide_eq_true g6
              have w1 : IntKind.i64.wrap (n - b) = n - b := IntWalk.i64_in _ (by omega)
              have w2 : IntKind.i64.wrap (m - d) = m - d := IntWalk.i64_in _ (by omega)
              by_cases g7 : n - b = m - d
              · have k7 : decide (n - b = m - d) = true := decide_eq_true g7
                obtain rfl : r = true := HF.out.2 ⟨⟨g1, g2, g3⟩, rfl, g5, g6, g7⟩
                clear HF HN
                have HG := Lib.hid g7
                clear g7
                go_enter Tryz.func13, Tryz.ntmps13
                go_wp2
                go_ret
                exact ⟨by simp; exact HG.out, ((((Below.refl _ _).alloc (Nat.le_refl _) _).alloc (by simp) _).alloc (by simp; omega) _)⟩
              · have k7 : decide (n - b = m - d) = false := decide_eq_false g7
                obtain rfl : r = false := HN.out (fun h => g7 h.2.2.2.2)
                clear HF HN
                go_enter Tryz.func13, Tryz.ntmps13
                go_wp2
                go_ret
                exact ⟨by simp; exact g7, ((((Below.refl _ _).alloc (Nat.le_refl _) _).alloc (by simp) _).alloc (by simp; omega) _)⟩
            · have k6 : decide (d ≤ m) = false := decide_eq_false g6
              obtain rfl : r = false := HN.out (fun h => g6 h.2.2.2.1)
              clear HF HN
              go_enter Tryz.func13, Tryz.ntmps13
              go_wp2
              go_ret
              exact ⟨by simp, ((((Below.refl _ _).alloc (Nat.le_refl _) _).alloc (by simp) _).alloc (by simp; omega) _)⟩
          · have k5 : decide (c ≤ d) = false := decide_eq_false g5
            obtain rfl : r = false := HN.out (fun h => g5 h.2.2.1)
            clear HF HN
            go_enter Tryz.func13, Tryz.ntmps13
            go_wp2
            go_ret
            exact ⟨by simp, ((((Below.refl _ _).alloc (Nat.le_refl _) _).alloc (by simp) _).alloc (by simp; omega) _)⟩
        · have k4 : decide (c = a) = false := decide_eq_false g4
          obtain rfl : r = false := HN.out (fun h => g4 h.2.1)
          clear HF HN
          go_enter Tryz.func13, Tryz.ntmps13
          go_wp2
          go_ret
          exact ⟨by simp, ((((Below.refl _ _).alloc (Nat.le_refl _) _).alloc (by simp) _).alloc (by simp; omega) _)⟩
      · have k3 : decide (b ≤ n) = false := decide_eq_false g3
        obtain rfl : r = false := HN.out (fun h => g3 h.1.2.2)
        clear HF HN
        go_enter Tryz.func13, Tryz.ntmps13
        go_wp2
        go_ret
        exact ⟨by simp, ((((Below.refl _ _).alloc (Nat.le_refl _) _).alloc (by simp) _).alloc (by simp; omega) _)⟩
    · have k2 : decide (a ≤ b) = false := decide_eq_false g2
      obtain rfl : r = false := HN.out (fun h => g2 h.1.2.1)
      clear HF HN
      go_enter Tryz.func13, Tryz.ntmps13
      go_wp2
      go_ret
      exact ⟨by simp, ((((Below.refl _ _).alloc (Nat.le_refl _) _).alloc (by simp) _).alloc (by simp; omega) _)⟩
  · have k1 : decide (0 ≤ a) = false := decide_eq_false g1
    obtain rfl : r = false := HN.out (fun h => g1 h.1.1)
    clear HF HN
    go_enter Tryz.func13, Tryz.ntmps13
    go_wp2
    go_ret
    exact ⟨by simp, ((((Below.refl _ _).alloc (Nat.le_refl _) _).alloc (by simp) _).alloc (by simp; omega) _)⟩
end
end Go.Proofs.YtjkmkobnfhepaaaGreat
