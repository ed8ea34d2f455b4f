/- Folds: the document's Remove. -/
import Derived.Test.YtnfjleobcfhpnaaFoDA
import Derived.Test.YtnfjleobcfhpnaaFoY
namespace Go.Proofs.Ytnfjleobcfhpnaa
open Go.RowKit Go.Sort
set_option linter.unusedVariables false
/-- What is left without those that meet a span. -/
def fkeep (x : Fo) (l : List Fo) : List Fo := l.filter fun a => !fmeet x a
theorem fkeep_snoc (x : Fo) (l : List Fo) (a : Fo) : fkeep x (l ++ [a]) = if fmeet x a = true then fkeep x l else fkeep x l ++ [a] := by
  unfold fkeep
  by_cases h : fmeet x a = true <;> simp [List.filter_append, h]
theorem fkeep_len (x : Fo) (l : List Fo) : (fkeep x l).length ≤ l.length := List.length_filter_le _ _
set_option maxHeartbeats 16000000 in
set_option maxRecDepth 100000 in
theorem rRemove15 (n er : Int) (A : Option Addr) (m c : Nat) (o : List Fo) (x : Fo) (w : World) (hA : RowsAt encF 2 w A o) (hl : o.length = m) (hm : m ≤ 100000) (r : Int) (hr : r = if fsp x n then fwrong n (fkeep x o) else 1) :
    Calls Try.prog 19 #[.agg #[.int .i64 n, .slice A m c, .int .i64 er], .agg #[.int .i64 x.f, .int .i64 x.t]] w (FNewRes n (fkeep x o) w r) := by
  have ST := fo_slt
  have HA := Lib.hid hA
  have HL := Lib.hid hl
  have HRR := Lib.hid hr
  clear hA hl hr
  have x0 : Below w.heap.size w (w.alloc (.cells #[.int .i64 n, .slice A m c, .int .i64 er] 29)) := (Below.refl _ _).alloc (Nat.le_refl _) _
  have r0 : RawAt 29 (w.alloc (.cells #[.int .i64 n, .slice A m c, .int .i64 er] 29)) w.heap.size #[.int .i64 n, .slice A m c, .int .i64 er] := heap_alloc_new w _
  have x1 : Below (w.alloc (.cells #[.int .i64 n, .slice A m c, .int .i64 er] 29)).heap.size (w.alloc (.cells #[.int .i64 n, .slice A m c, .int .i64 er] 29)) ((w.alloc (.cells #[.int .i64 n, .slice A m c, .int .i64 er] 29)).alloc (.cells #[.int .i64 x.f, .int .i64 x.t] 33)) := (Below.refl _ _).alloc (Nat.le_refl _) _
  have r1 : RawAt 33 ((w.alloc (.cells #[.int .i64 n, .slice A m c, .int .i64 er] 29)).alloc (.cells #[.int .i64 x.f, .int .i64 x.t] 33)) (w.alloc (.cells #[.int .i64 n, .slice A m c, .int .i64 er] 29)).heap.size #[.int .i64 x.f, .int .i64 x.t] := heap_alloc_new (w.alloc (.cells #[.int .i64 n, .slice A m c, .int .i64 er] 29)) _
  have x2 : Below ((w.alloc (.cells #[.int .i64 n, .slice A m c, .int .i64 er] 29)).alloc (.cells #[.int .i64 x.f, .int .i64 x.t] 33)).heap.size ((w.alloc (.cells #[.int .i64 n, .slice A m c, .int .i64 er] 29)).alloc (.cells #[.int .i64 x.f, .int .i64 x.t] 33)) (((w.alloc (.cells #[.int .i64 n, .slice A m c, .int .i64 er] 29)).alloc (.cells #[.int .i64 x.f, .int .i64 x.t] 33)).alloc (.cells #[.int .i64 0, .slice none 0 0, .int .i64 0] 29)) := (Below.refl _ _).alloc (Nat.le_refl _) _
  have r2 : RawAt 29 (((w.alloc (.cells #[.int .i64 n, .slice A m c, .int .i64 er] 29)).alloc (.cells #[.int .i64 x.f, .int .i64 x.t] 33)).alloc (.cells #[.int .i64 0, .slice none 0 0, .int .i64 0] 29)) ((w.alloc (.cells #[.int .i64 n, .slice A m c, .int .i64 er] 29)).alloc (.cells #[.int .i64 x.f, .int .i64 x.t] 33)).heap.size #[.int .i64 0, .slice none 0 0, .int .i64 0] := heap_alloc_new ((w.alloc (.cells #[.int .i64 n, .slice A m c, .int .i64 er] 29)).alloc (.cells #[.int .i64 x.f, .int .i64 x.t] 33)) _
  rw [show ((w.alloc (.cells #[.int .i64 n, .slice A m c, .int .i64 er] 29)).alloc (.cells #[.int .i64 x.f, .int .i64 x.t] 33)).heap.size = w.heap.size + 2 by simp] at r2
  have x12 := x1.trans (x2.mono x1.size)
  have r0 := RawAt.below r0 x12 r0.lt
  have r1 := RawAt.below r1 x2 r1.lt
  rw [show (w.alloc (.cells #[.int .i64 n, .slice A m c, .int .i64 er] 29)).heap.size = w.heap.size + 1 by simp] at r1
  have X1 := Lib.hid (x0.trans (x12.mono x0.size))
  obtain ⟨W1, hW1⟩ : ∃ W1, W1 = (((w.alloc (.cells #[.int .i64 n, .slice A m c, .int .i64 er] 29)).alloc (.cells #[.int .i64 x.f, .int .i64 x.t] 33)).alloc (.cells #[.int .i64 0, .slice none 0 0, .int .i64 0] 29)) := ⟨_, rfl⟩
  rw [← hW1] at r0 r1 r2 X1
  have HZ1 := Lib.hid r2.lt
  have c0 := RawAt.cell r0 0
  have c1 := RawAt.cell r0 1
  have b0 := RawAt.cell r1 0
  have b1 := RawAt.cell r1 1
  simp at c0 c1 b0 b1
  have HW1 := Lib.hid hW1
  have R0 := Lib.hid r0
  have R1 := Lib.hid r1
  have R2 := Lib.hid r2
  clear x0 x1 x2 x12 r0 r1 r2 hW1
  by_cases g : fsp x n
  · have CNW := Lib.hid fun (A' : Option Addr) (m' c' : Nat) (W : World) (h1 : RowsAt encF 2 W A' (fkeep x o)) (h2 : Caps A' m' c') (h3 : (fkeep x o).length = m') => rNew15 n A' m' c' (fkeep x o) W h1 h2 h3 r (by rw [HRR.out, if_pos g])
    obtain ⟨g1, g2, g3⟩ := g
    have k1 : decide (x.f < 0) = false := decide_eq_false (by omega)
    have k2 : decide (x.t < x.f) = false := decide_eq_false (by omega)
    have k3 : decide (n < x.t) = false := decide_eq_false (by omega)
    clear HRR c0 c1 b0 b1
    go_enter Try.func19, Try.ntmps19
    go_wp2_with fail
    rw [← HW1.out]
    clear HW1 k1 k2 k3
    go_loopg [5, 29] m (fun g v i wr => ∃ (k : Nat), i = .int .i64 k ∧ k ≤ m ∧ m - k ≤ g ∧ Hid (Below W1.heap.size W1 wr) ∧ Hid (wr.ownsRow W1.heap.size 33 2 v (fkeep x (o.take k)).length (kfl encF (fkeep x (o.take k)))))
    case atStart => exact ⟨0, rfl, by omega, by omega, Lib.hid (Below.refl _ _), Lib.hid (World.ownsRow_nil _ _ _ _)⟩
    case round =>
      obtain ⟨k, rfl, h1, h2, hb, hown⟩ := hrel
      by_cases hlt : k < m
      · have hkl : k < o.length := by rw [HL.out]; exact hlt
        obtain ⟨bA, off, rfl, hbA, hce⟩ := (HA.out.below (X1.out.trans (hb.out.mono X1.out.size))).at1 hkl
        have f0 := hce 0 (by omega)
        have f1 := hce 1 (by omega)
        rw [Nat.add_zero] at f0
        have HST := Lib.hid (show fkeep x (o.take (k + 1)) = if fmeet x o[k] = true then fkeep x (o.take k) else fkeep x (o.take k) ++ [o[k]] from by rw [List.take_succ_eq_append_getElem hkl, fkeep_snoc])
        have hll := fkeep_len x (o.take k)
        rw [List.length_take] at hll
        clear hce
        generalize o[k] = a at *
        simp [encF] at f0 f1
        have i1 : (0 : Int) ≤ k := by omega
        have i2 : (k : Int) < m := by omega
        have x3 : Below wr.heap.size wr (wr.alloc (.cells #[.int .i64 a.f, .int .i64 a.t] 33)) := (Below.refl _ _).alloc (Nat.le_refl _) _
        have R3 : RawAt 33 (wr.alloc (.cells #[.int .i64 a.f, .int .i64 a.t] 33)) wr.heap.size #[.int .i64 a.f, .int .i64 a.t] := heap_alloc_new wr _
        have HB3 := Lib.hid (hb.out.trans (x3.mono hb.out.size))
        have HO3 := Lib.hid (own_below hown.out x3)
        have d0 := RawAt.cell (RawAt.below R1.out HB3.out R1.out.lt) 0
        have d1 := RawAt.cell (RawAt.below R1.out HB3.out R1.out.lt) 1
        simp at d0 d1
        have g0 := RawAt.cell R3 0
        have g1 := RawAt.cell R3 1
        simp at g0 g1
        obtain ⟨A3, c3, rfl⟩ := own_formF hown.out
        have hlt4 := hown.out.lt
        clear x3 R3 hown hb
        by_cases p1 : x.t < a.f
        · have k1 : decide (x.t < a.f) = true := decide_eq_true p1
          have hfm : fmeet x a = false := by unfold fmeet; exact decide_eq_false (by omega)
          obtain ⟨q, hq⟩ : ∃ q, q = (fkeep x (o.take k)).length := ⟨_, rfl⟩
          have HQ := Lib.hid hq
          rw [← hq] at hlt4 HO3 hll ⊢
          clear hq
          have HN := Lib.hid (HST.out.trans (by rw [if_neg (by rw [hfm]; decide)]))
          have x4 : Below (wr.alloc (.cells #[.int .i64 a.f, .int .i64 a.t] 33)).heap.size (wr.alloc (.cells #[.int .i64 a.f, .int .i64 a.t] 33)) ((wr.alloc (.cells #[.int .i64 a.f, .int .i64 a.t] 33)).alloc (.cells #[.int .i64 a.f, .int .i64 a.t] 33)) := (Below.refl _ _).alloc (Nat.le_refl _) _
          have R4 : RawAt 33 ((wr.alloc (.cells #[.int .i64 a.f, .int .i64 a.t] 33)).alloc (.cells #[.int .i64 a.f, .int .i64 a.t] 33)) (wr.alloc (.cells #[.int .i64 a.f, .int .i64 a.t] 33)).heap.size #[.int .i64 a.f, .int .i64 a.t] := heap_alloc_new (wr.alloc (.cells #[.int .i64 a.f, .int .i64 a.t] 33)) _
          rw [show (wr.alloc (.cells #[.int .i64 a.f, .int .i64 a.t] 33)).heap.size = wr.heap.size + 1 by simp] at R4
          have HO4 := Lib.hid (own_below HO3.out x4)
          have HS4 : Hid (RowsAt encF 2 ((wr.alloc (.cells #[.int .i64 a.f, .int .i64 a.t] 33)).alloc (.cells #[.int .i64 a.f, .int .i64 a.t] 33)) (some ⟨wr.heap.size + 1, 0, none⟩) [a]) := Lib.hid (rows_of_block (enc := encF) (k := 2) encF_len R4 (l := [a]) rfl)
          have HB4 := Lib.hid (HB3.out.trans (x4.mono HB3.out.size))
          clear x4 R4 HB3 HO3
          go_wp2_with (at_builtin; refine wpList_appK (enc := encF) ST encF_len (by omega) rfl (.tmp 45) (.tmp 47) rfl (base := W1.heap.size) (v := .slice A3 q c3) rfl HO4.out _ 1 1 [a] rfl HS4.out ⟨Nat.le_refl _, fun h => by cases h⟩ rfl (kfl_one' encF_one _) (by simp only [maxLen]; omega) (by omega) HB4.out.size ?_; intro v5 w6 hown5 hg5 hor5; have HB6 := Lib.hid (HB4.out.grown hg5 HB4.out.size (fun j hj => (hlt4 j hj).1)); have HO6 : Hid (w6.ownsRow W1.heap.size 33 2 v5 (fkeep x (o.take (k + 1))).length (kfl encF (fkeep x (o.take (k + 1))))) := Lib.hid (by rw [HN.out, kfl_append, List.length_append, ← HQ.out]; exact hown5); clear hown5 hg5 hor5 HO4 HS4 HB4)
          go_roundg (gk - 1)
          case measure => omega
          case rel => exact ⟨k + 1, by go_num, by omega, by omega, HB6, HO6⟩
        · have k1 : decide (x.t < a.f) = false := decide_eq_false p1
          by_cases p2 : a.t < x.f
          · have k2 : decide (a.t < x.f) = true := decide_eq_true p2
            have hfm : fmeet x a = false := by unfold fmeet; exact decide_eq_false (by omega)
            obtain ⟨q, hq⟩ : ∃ q, q = (fkeep x (o.take k)).length := ⟨_, rfl⟩
            have HQ := Lib.hid hq
            rw [← hq] at hlt4 HO3 hll ⊢
            clear hq
            have HN := Lib.hid (HST.out.trans (by rw [if_neg (by rw [hfm]; decide)]))
            have x4 : Below (wr.alloc (.cells #[.int .i64 a.f, .int .i64 a.t] 33)).heap.size (wr.alloc (.cells #[.int .i64 a.f, .int .i64 a.t] 33)) ((wr.alloc (.cells #[.int .i64 a.f, .int .i64 a.t] 33)).alloc (.cells #[.int .i64 a.f, .int .i64 a.t] 33)) := (Below.refl _ _).alloc (Nat.le_refl _) _
            have R4 : RawAt 33 ((wr.alloc (.cells #[.int .i64 a.f, .int .i64 a.t] 33)).alloc (.cells #[.int .i64 a.f, .int .i64 a.t] 33)) (wr.alloc (.cells #[.int .i64 a.f, .int .i64 a.t] 33)).heap.size #[.int .i64 a.f, .int .i64 a.t] := heap_alloc_new (wr.alloc (.cells #[.int .i64 a.f, .int .i64 a.t] 33)) _
            rw [show (wr.alloc (.cells #[.int .i64 a.f, .int .i64 a.t] 33)).heap.size = wr.heap.size + 1 by simp] at R4
            have HO4 := Lib.hid (own_below HO3.out x4)
            have HS4 : Hid (RowsAt encF 2 ((wr.alloc (.cells #[.int .i64 a.f, .int .i64 a.t] 33)).alloc (.cells #[.int .i64 a.f, .int .i64 a.t] 33)) (some ⟨wr.heap.size + 1, 0, none⟩) [a]) := Lib.hid (rows_of_block (enc := encF) (k := 2) encF_len R4 (l := [a]) rfl)
            have HB4 := Lib.hid (HB3.out.trans (x4.mono HB3.out.size))
            clear x4 R4 HB3 HO3
            go_wp2_with (at_builtin; refine wpList_appK (enc := encF) ST encF_len (by omega) rfl (.tmp 45) (.tmp 47) rfl (base := W1.heap.size) (v := .slice A3 q c3) rfl HO4.out _ 1 1 [a] rfl HS4.out ⟨Nat.le_refl _, fun h => by cases h⟩ rfl (kfl_one' encF_one _) (by simp only [maxLen]; omega) (by omega) HB4.out.size ?_; intro v5 w6 hown5 hg5 hor5; have HB6 := Lib.hid (HB4.out.grown hg5 HB4.out.size (fun j hj => (hlt4 j hj).1)); have HO6 : Hid (w6.ownsRow W1.heap.size 33 2 v5 (fkeep x (o.take (k + 1))).length (kfl encF (fkeep x (o.take (k + 1))))) := Lib.hid (by rw [HN.out, kfl_append, List.length_append, ← HQ.out]; exact hown5); clear hown5 hg5 hor5 HO4 HS4 HB4)
            go_roundg (gk - 1)
            case measure => omega
            case rel => exact ⟨k + 1, by go_num, by omega, by omega, HB6, HO6⟩
          · have k2 : decide (a.t < x.f) = false := decide_eq_false p2
            have hfm : fmeet x a = true := by unfold fmeet; exact decide_eq_true (by omega)
            have HN := Lib.hid (HST.out.trans (by rw [if_pos hfm]))
            have HO6 : Hid ((wr.alloc (.cells #[.int .i64 a.f, .int .i64 a.t] 33)).ownsRow W1.heap.size 33 2 (.slice A3 (fkeep x (o.take k)).length c3) (fkeep x (o.take (k + 1))).length (kfl encF (fkeep x (o.take (k + 1))))) := Lib.hid (by rw [HN.out]; exact HO3.out)
            clear HO3 HST HN hfm hlt4 p1 p2
            go_wp2
            go_roundg (gk - 1)
            case measure => omega
            case rel => exact ⟨k + 1, by go_num, by omega, by omega, HB3, HO6⟩
      · obtain rfl : m = k := by omega
        have e2 : o.take m = o := List.take_of_length_le (by rw [HL.out]; exact Nat.le_refl _)
        have ho2 := hown.out
        rw [e2] at ho2
        obtain ⟨A6, c6, e6, hR6, _, hC6⟩ := rows_of_own encF_len (by omega) ho2
        have c0 := RawAt.cell (RawAt.below R0.out hb.out R0.out.lt) 0
        simp at c0
        have CNW6 := Lib.hid (CNW.out A6 _ c6 wr hR6 hC6 rfl)
        have HB6 := Lib.hid hb.out
        subst e6
        clear e2 ho2 hown hb CNW hR6 hC6
        go_wp2_with fail
        with_reducible refine (CNW6.out).mono ?_
        rintro e7 w7 ⟨nn, A7, m7, c7, rfl, hres, b7⟩
        have hS1 := RawAt.below R2.out (HB6.out.trans (b7.mono HB6.out.size)) R2.out.lt
        have q0 := RawAt.cell hS1 0
        have q1 := RawAt.cell hS1 1
        have q2 := RawAt.cell hS1 2
        have f0 := RawAt.free hS1 0
        have f1 := RawAt.free hS1 1
        have f2 := RawAt.free hS1 2
        simp at q0 q1 q2
        have HR1 := Lib.hid hS1
        have HZ7 := Lib.hid (X1.out.trans ((HB6.out.trans (b7.mono HB6.out.size)).mono X1.out.size))
        have HRES := Lib.hid hres
        clear hres b7 hS1 CNW6
        go_wp2
        have t0 := ((HR1.out.set_ 0 (.int .i64 nn)).set_ 1 (.slice A7 m7 c7)).set_ 2 (.int .i64 r)
        have z0 := RawAt.cell t0 0
        have z1 := RawAt.cell t0 1
        have z2 := RawAt.cell t0 2
        simp at z0 z1 z2
        refine bodyPost_ret (v := .agg #[.int .i64 nn, .slice A7 m7 c7, .int .i64 r]) (by simp [results, Try.results19, go_sem, z0, z1, z2]) rfl ⟨nn, A7, m7, c7, rfl, fun hr0 => ?_, ?_⟩
        · obtain ⟨y1, y2, y3, y4⟩ := HRES.out hr0
          exact ⟨y1, y2, rows_apartF (rows_apartF (rows_apartF y3 HR1.out _ _) (RawAt.of_eq (HR1.out.set_ 0 (.int .i64 nn)) rfl) _ _) (RawAt.of_eq ((HR1.out.set_ 0 (.int .i64 nn)).set_ 1 (.slice A7 m7 c7)) rfl) _ _, y4⟩
        · exact (((HZ7.out.setCell (p := ⟨w.heap.size + 2, 0, none⟩) (Nat.le_add_right _ _) _).setCell (p := ⟨w.heap.size + 2, 1, none⟩) (Nat.le_add_right _ _) _).setCell (p := ⟨w.heap.size + 2, 2, none⟩) (Nat.le_add_right _ _) _)
  · have e : r = 1 := by rw [HRR.out, if_neg g]
    subst e
    clear HRR
    clear c0 c1 b0 b1
    by_cases g1 : x.f < 0
    · have k1 : decide (x.f < 0) = true := decide_eq_true g1
      go_enter Try.func19, Try.ntmps19
      go_wp2
      refine bodyPost_ret (v := .agg #[.int .i64 0, .slice none 0 0, .int .i64 1]) (by simp [results, Try.results19, go_sem]) rfl ⟨0, none, 0, 0, rfl, fun h => absurd h (by decide), ((((Below.refl _ _).alloc (Nat.le_refl _) _).alloc (by simp) _).alloc (by simp; omega) _)⟩
    · have k1 : decide (x.f < 0) = false := decide_eq_false g1
      by_cases g2 : x.t < x.f
      · have k2 : decide (x.t < x.f) = true := decide_eq_true g2
        go_enter Try.func19, Try.ntmps19
        go_wp2
        refine bodyPost_ret (v := .agg #[.int .i64 0, .slice none 0 0, .int .i64 1]) (by simp [results, Try.results19, go_sem]) rfl ⟨0, none, 0, 0, rfl, fun h => absurd h (by decide), ((((Below.refl _ _).alloc (Nat.le_refl _) _).alloc (by simp) _).alloc (by simp; omega) _)⟩
      · have k2 : decide (x.t < x.f) = false := decide_eq_false g2
        have k3 : decide (n < x.t) = true := decide_eq_true (Decidable.byContradiction fun h => g ⟨by omega, by omega, by omega⟩)
        go_enter Try.func19, Try.ntmps19
        go_wp2
        refine bodyPost_ret (v := .agg #[.int .i64 0, .slice none 0 0, .int .i64 1]) (by simp [results, Try.results19, go_sem]) rfl ⟨0, none, 0, 0, rfl, fun h => absurd h (by decide), ((((Below.refl _ _).alloc (Nat.le_refl _) _).alloc (by simp) _).alloc (by simp; omega) _)⟩
end Go.Proofs.Ytnfjleobcfhpnaa
