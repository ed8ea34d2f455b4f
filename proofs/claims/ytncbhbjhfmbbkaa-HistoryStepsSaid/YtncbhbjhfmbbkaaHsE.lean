/- Histories: the contracts of Undo and Redo. -/
import Derived.Test.YtncbhbjhfmbbkaaHsD
namespace Go.Proofs.Ytncbhbjhfmbbkaa
open Go.RowKit
set_option linter.unusedVariables false
set_option maxHeartbeats 4000000 in
set_option maxRecDepth 100000 in
theorem hMove_nil (x y : Value) (w : World) : Calls Try.prog 68 #[.pointer none, x, y] w fun e w' => e = .returned (.tuple #[.agg #[.slice none 0 0, .slice none 0 0], .int .i64 6]) ∧ Below w.heap.size w w' := by
  have x1 : Below w.heap.size w (w.alloc (.cells #[.slice none 0 0, .slice none 0 0] 69)) := (Below.refl _ _).alloc (Nat.le_refl _) _
  have R1 : RawAt 69 (w.alloc (.cells #[.slice none 0 0, .slice none 0 0] 69)) w.heap.size #[.slice none 0 0, .slice none 0 0] := heap_alloc_new w _
  have e0 := RawAt.cell R1 0
  have e1 := RawAt.cell R1 1
  have f0 := RawAt.free R1 0
  have f1 := RawAt.free R1 1
  simp at e0 e1
  have hB := Lib.hid x1
  clear R1 x1
  go_enter Try.func68, Try.ntmps68
  go_wp2
  refine bodyPost_ret (v := .tuple #[.agg #[.slice none 0 0, .slice none 0 0], .int .i64 6]) (by simp [results, Try.results68, go_sem]) rfl ⟨rfl, hB.out⟩
set_option maxHeartbeats 4000000 in
set_option maxRecDepth 100000 in
theorem hMove_none0 {B hb : Nat} {w : World} {u : List S2} (h : HAt B w hb [] u) : Calls Try.prog 68 #[.pointer (some ⟨hb, 0, none⟩), .int .i64 0, .int .i64 1] w fun e w' => e = .returned (.tuple #[.agg #[.slice none 0 0, .slice none 0 0], .int .i64 6]) ∧ Below w.heap.size w w' := by
  obtain ⟨⟨v0, v1, s0, s1, a1, a2, a3, a4, a5, a6⟩, _⟩ := h
  have hz := a5.len
  have hz0 : s0.length = 0 := by simpa using hz
  rw [hz0] at a2
  obtain ⟨A0, c0, rfl⟩ := own_form a2
  have x1 : Below w.heap.size w (w.alloc (.cells #[.slice none 0 0, .slice none 0 0] 69)) := (Below.refl _ _).alloc (Nat.le_refl _) _
  have R1 : RawAt 69 (w.alloc (.cells #[.slice none 0 0, .slice none 0 0] 69)) w.heap.size #[.slice none 0 0, .slice none 0 0] := heap_alloc_new w _
  have RH := RawAt.below a1 x1 a1.lt
  have e0 := RawAt.cell R1 0
  have e1 := RawAt.cell R1 1
  have f0 := RawAt.free R1 0
  have f1 := RawAt.free R1 1
  have g0 := RawAt.cell RH 0
  simp at e0 e1 g0
  have hB := Lib.hid x1
  clear R1 x1 RH a1 a2 a3 a4 a5 a6 hz hz0
  go_enter Try.func68, Try.ntmps68
  go_wp2
  refine bodyPost_ret (v := .tuple #[.agg #[.slice none 0 0, .slice none 0 0], .int .i64 6]) (by simp [results, Try.results68, go_sem]) rfl ⟨rfl, hB.out⟩
set_option maxHeartbeats 4000000 in
set_option maxRecDepth 100000 in
theorem hMove_none1 {B hb : Nat} {w : World} {u : List S2} (h : HAt B w hb u []) : Calls Try.prog 68 #[.pointer (some ⟨hb, 0, none⟩), .int .i64 1, .int .i64 0] w fun e w' => e = .returned (.tuple #[.agg #[.slice none 0 0, .slice none 0 0], .int .i64 6]) ∧ Below w.heap.size w w' := by
  obtain ⟨⟨v1, v0, s1, s0, a1, a3, a2, a4, a6, a5⟩, _⟩ := h
  have hz := a5.len
  have hz0 : s0.length = 0 := by simpa using hz
  rw [hz0] at a2
  obtain ⟨A0, c0, rfl⟩ := own_form a2
  have x1 : Below w.heap.size w (w.alloc (.cells #[.slice none 0 0, .slice none 0 0] 69)) := (Below.refl _ _).alloc (Nat.le_refl _) _
  have R1 : RawAt 69 (w.alloc (.cells #[.slice none 0 0, .slice none 0 0] 69)) w.heap.size #[.slice none 0 0, .slice none 0 0] := heap_alloc_new w _
  have RH := RawAt.below a1 x1 a1.lt
  have e0 := RawAt.cell R1 0
  have e1 := RawAt.cell R1 1
  have f0 := RawAt.free R1 0
  have f1 := RawAt.free R1 1
  have g0 := RawAt.cell RH 1
  simp at e0 e1 g0
  have hB := Lib.hid x1
  clear R1 x1 RH a1 a2 a3 a4 a5 a6 hz hz0
  go_enter Try.func68, Try.ntmps68
  go_wp2
  refine bodyPost_ret (v := .tuple #[.agg #[.slice none 0 0, .slice none 0 0], .int .i64 6]) (by simp [results, Try.results68, go_sem]) rfl ⟨rfl, hB.out⟩
set_option maxHeartbeats 4000000 in
set_option maxRecDepth 100000 in
theorem hUndo_nil (w : World) : Calls Try.prog 34 #[.pointer none] w fun e w' => ∃ v, e = .returned (.tuple #[v, .int .i64 6]) ∧ OwnE w' v [] ∧ Below w.heap.size w w' := by
  have CL := Lib.hid fun W => cloneE_any none 0 0 [] W (fun h => absurd h (by simp)) rfl (by omega)
  have CM := Lib.hid (hMove_nil (.int .i64 0) (.int .i64 1) w)
  have mk : ∀ W : World, RawAt 69 (W.alloc (.cells #[.slice none 0 0, .slice none 0 0] 69)) W.heap.size #[.slice none 0 0, .slice none 0 0] := fun W => heap_alloc_new W _
  go_enter Try.func34, Try.ntmps34
  go_wp2_with fail
  with_reducible refine (CM.out).mono ?_
  rintro e1 w1 ⟨rfl, h1⟩
  have e0 := RawAt.cell (mk w1) 0
  have e1 := RawAt.cell (mk w1) 1
  have f0 := RawAt.free (mk w1) 0
  have f1 := RawAt.free (mk w1) 1
  simp at e0 e1
  have hx : Below w1.heap.size w1 (w1.alloc (.cells #[.slice none 0 0, .slice none 0 0] 69)) := (Below.refl _ _).alloc (Nat.le_refl _) _
  clear mk
  go_wp2_with fail
  with_reducible refine (CL.out _).mono ?_
  rintro e2 w2 ⟨v, rfl, ho, h2⟩
  have HO := Lib.hid ho
  clear ho
  have q1 := Lib.hid (show Below w.heap.size w w2 from (h1.trans (hx.mono h1.size)).trans (h2.mono (Nat.le_trans h1.size hx.size)))
  go_wp2
  go_ret2
  exact ⟨v, rfl, HO.out, q1.out⟩
set_option maxHeartbeats 4000000 in
set_option maxRecDepth 100000 in
theorem hUndo_none {B hb : Nat} {w : World} {u : List S2} (h : HAt B w hb [] u) : Calls Try.prog 34 #[.pointer (some ⟨hb, 0, none⟩)] w fun e w' => ∃ v, e = .returned (.tuple #[v, .int .i64 6]) ∧ OwnE w' v [] ∧ Below w.heap.size w w' := by
  have CL := Lib.hid fun W => cloneE_any none 0 0 [] W (fun h => absurd h (by simp)) rfl (by omega)
  have CM := Lib.hid (hMove_none0 h)
  have mk : ∀ W : World, RawAt 69 (W.alloc (.cells #[.slice none 0 0, .slice none 0 0] 69)) W.heap.size #[.slice none 0 0, .slice none 0 0] := fun W => heap_alloc_new W _
  go_enter Try.func34, Try.ntmps34
  go_wp2_with fail
  with_reducible refine (CM.out).mono ?_
  rintro e1 w1 ⟨rfl, h1⟩
  have e0 := RawAt.cell (mk w1) 0
  have e1 := RawAt.cell (mk w1) 1
  have f0 := RawAt.free (mk w1) 0
  have f1 := RawAt.free (mk w1) 1
  simp at e0 e1
  have hx : Below w1.heap.size w1 (w1.alloc (.cells #[.slice none 0 0, .slice none 0 0] 69)) := (Below.refl _ _).alloc (Nat.le_refl _) _
  clear mk
  go_wp2_with fail
  with_reducible refine (CL.out _).mono ?_
  rintro e2 w2 ⟨v, rfl, ho, h2⟩
  have HO := Lib.hid ho
  clear ho
  have q1 := Lib.hid (show Below w.heap.size w w2 from (h1.trans (hx.mono h1.size)).trans (h2.mono (Nat.le_trans h1.size hx.size)))
  go_wp2
  go_ret2
  exact ⟨v, rfl, HO.out, q1.out⟩
set_option maxHeartbeats 4000000 in
set_option maxRecDepth 100000 in
theorem hUndo_any {B hb : Nat} {w : World} {d u : List S2} {y : S2} (h : HAt B w hb (d ++ [y]) u) (hBw : B ≤ w.heap.size) (hd : d.length ≤ 100) (hu : u.length ≤ 100) (hy : y.b.length ≤ 1000000) :
    Calls Try.prog 34 #[.pointer (some ⟨hb, 0, none⟩)] w fun e w' => ∃ v, e = .returned (.tuple #[v, .int .i64 0]) ∧ OwnE w' v y.b ∧ HAt B w' hb d (u ++ [y]) ∧ OnT [69, 131] w w' ∧ Below B w w' := by
  have CM := Lib.hid (hMove01 h hBw hd hu)
  clear h
  have mk : ∀ (W : World) (a b : Value), RawAt 69 (W.alloc (.cells #[a, b] 69)) W.heap.size #[a, b] := fun W a b => heap_alloc_new W _
  go_enter Try.func34, Try.ntmps34
  go_wp2_with fail
  with_reducible refine (CM.out).mono ?_
  rintro e1 w1 ⟨vb, vf, rfl, o1, o2, h1, t1, b1⟩
  obtain ⟨Ab, cb, rfl⟩ := own_form o1
  obtain ⟨Af, cf, rfl⟩ := own_form o2
  have O1 := Lib.hid o1
  have O2 := Lib.hid o2
  have H1 := Lib.hid h1
  have T1 := Lib.hid t1
  have B1 := Lib.hid b1
  clear o1 o2 h1 t1 b1
  have e0 := RawAt.cell (mk w1 (.slice Ab y.b.length cb) (.slice Af y.f.length cf)) 0
  have e1 := RawAt.cell (mk w1 (.slice Ab y.b.length cb) (.slice Af y.f.length cf)) 1
  have f0 := RawAt.free (mk w1 (.slice Ab y.b.length cb) (.slice Af y.f.length cf)) 0
  have f1 := RawAt.free (mk w1 (.slice Ab y.b.length cb) (.slice Af y.f.length cf)) 1
  simp at e0 e1
  have hx : Below w1.heap.size w1 (w1.alloc (.cells #[.slice Ab y.b.length cb, .slice Af y.f.length cf] 69)) := (Below.refl _ _).alloc (Nat.le_refl _) _
  clear mk
  obtain ⟨A, c, hv, hE, hl, hc⟩ := eds_of_own (own_below O1.out hx)
  have CL := Lib.hid (cloneE_any A y.b.length c y.b _ hE hl (by omega))
  rw [← hv] at CL
  clear hE hv hl hc
  go_wp2_with fail
  with_reducible refine (CL.out).mono ?_
  rintro e2 w2 ⟨v, rfl, ho, h2⟩
  have HO := Lib.hid ho
  clear ho
  have hz : B ≤ w1.heap.size := Nat.le_trans hBw B1.out.size
  have q1 := Lib.hid (show Below B w w2 from (B1.out.trans (hx.mono hz)).trans (h2.mono (Nat.le_trans hz hx.size)))
  have q2 := Lib.hid ((T1.out.trans (OnT.of hx)).trans (OnT.of h2))
  have q3 := Lib.hid (HAt.below (HAt.below H1.out hx) h2)
  go_wp2
  go_ret2
  exact ⟨v, rfl, HO.out, q3.out, q2.out, q1.out⟩
set_option maxHeartbeats 4000000 in
set_option maxRecDepth 100000 in
theorem hRedo_nil (w : World) : Calls Try.prog 37 #[.pointer none] w fun e w' => ∃ v, e = .returned (.tuple #[v, .int .i64 6]) ∧ OwnE w' v [] ∧ Below w.heap.size w w' := by
  have CL := Lib.hid fun W => cloneE_any none 0 0 [] W (fun h => absurd h (by simp)) rfl (by omega)
  have CM := Lib.hid (hMove_nil (.int .i64 1) (.int .i64 0) w)
  have mk : ∀ W : World, RawAt 69 (W.alloc (.cells #[.slice none 0 0, .slice none 0 0] 69)) W.heap.size #[.slice none 0 0, .slice none 0 0] := fun W => heap_alloc_new W _
  go_enter Try.func37, Try.ntmps37
  go_wp2_with fail
  with_reducible refine (CM.out).mono ?_
  rintro e1 w1 ⟨rfl, h1⟩
  have e0 := RawAt.cell (mk w1) 0
  have e1 := RawAt.cell (mk w1) 1
  have f0 := RawAt.free (mk w1) 0
  have f1 := RawAt.free (mk w1) 1
  simp at e0 e1
  have hx : Below w1.heap.size w1 (w1.alloc (.cells #[.slice none 0 0, .slice none 0 0] 69)) := (Below.refl _ _).alloc (Nat.le_refl _) _
  clear mk
  go_wp2_with fail
  with_reducible refine (CL.out _).mono ?_
  rintro e2 w2 ⟨v, rfl, ho, h2⟩
  have HO := Lib.hid ho
  clear ho
  have q1 := Lib.hid (show Below w.heap.size w w2 from (h1.trans (hx.mono h1.size)).trans (h2.mono (Nat.le_trans h1.size hx.size)))
  go_wp2
  go_ret2
  exact ⟨v, rfl, HO.out, q1.out⟩
set_option maxHeartbeats 4000000 in
set_option maxRecDepth 100000 in
theorem hRedo_none {B hb : Nat} {w : World} {u : List S2} (h : HAt B w hb u []) : Calls Try.prog 37 #[.pointer (some ⟨hb, 0, none⟩)] w fun e w' => ∃ v, e = .returned (.tuple #[v, .int .i64 6]) ∧ OwnE w' v [] ∧ Below w.heap.size w w' := by
  have CL := Lib.hid fun W => cloneE_any none 0 0 [] W (fun h => absurd h (by simp)) rfl (by omega)
  have CM := Lib.hid (hMove_none1 h)
  have mk : ∀ W : World, RawAt 69 (W.alloc (.cells #[.slice none 0 0, .slice none 0 0] 69)) W.heap.size #[.slice none 0 0, .slice none 0 0] := fun W => heap_alloc_new W _
  go_enter Try.func37, Try.ntmps37
  go_wp2_with fail
  with_reducible refine (CM.out).mono ?_
  rintro e1 w1 ⟨rfl, h1⟩
  have e0 := RawAt.cell (mk w1) 0
  have e1 := RawAt.cell (mk w1) 1
  have f0 := RawAt.free (mk w1) 0
  have f1 := RawAt.free (mk w1) 1
  simp at e0 e1
  have hx : Below w1.heap.size w1 (w1.alloc (.cells #[.slice none 0 0, .slice none 0 0] 69)) := (Below.refl _ _).alloc (Nat.le_refl _) _
  clear mk
  go_wp2_with fail
  with_reducible refine (CL.out _).mono ?_
  rintro e2 w2 ⟨v, rfl, ho, h2⟩
  have HO := Lib.hid ho
  clear ho
  have q1 := Lib.hid (show Below w.heap.size w w2 from (h1.trans (hx.mono h1.size)).trans (h2.mono (Nat.le_trans h1.size hx.size)))
  go_wp2
  go_ret2
  exact ⟨v, rfl, HO.out, q1.out⟩
set_option maxHeartbeats 4000000 in
set_option maxRecDepth 100000 in
theorem hRedo_any {B hb : Nat} {w : World} {d u : List S2} {y : S2} (h : HAt B w hb u (d ++ [y])) (hBw : B ≤ w.heap.size) (hd : d.length ≤ 100) (hu : u.length ≤ 100) (hy : y.f.length ≤ 1000000) :
    Calls Try.prog 37 #[.pointer (some ⟨hb, 0, none⟩)] w fun e w' => ∃ v, e = .returned (.tuple #[v, .int .i64 0]) ∧ OwnE w' v y.f ∧ HAt B w' hb (u ++ [y]) d ∧ OnT [69, 131] w w' ∧ Below B w w' := by
  have CM := Lib.hid (hMove10 h hBw hd hu)
  clear h
  have mk : ∀ (W : World) (a b : Value), RawAt 69 (W.alloc (.cells #[a, b] 69)) W.heap.size #[a, b] := fun W a b => heap_alloc_new W _
  go_enter Try.func37, Try.ntmps37
  go_wp2_with fail
  with_reducible refine (CM.out).mono ?_
  rintro e1 w1 ⟨vb, vf, rfl, o1, o2, h1, t1, b1⟩
  obtain ⟨Ab, cb, rfl⟩ := own_form o1
  obtain ⟨Af, cf, rfl⟩ := own_form o2
  have O1 := Lib.hid o1
  have O2 := Lib.hid o2
  have H1 := Lib.hid h1
  have T1 := Lib.hid t1
  have B1 := Lib.hid b1
  clear o1 o2 h1 t1 b1
  have e0 := RawAt.cell (mk w1 (.slice Ab y.b.length cb) (.slice Af y.f.length cf)) 0
  have e1 := RawAt.cell (mk w1 (.slice Ab y.b.length cb) (.slice Af y.f.length cf)) 1
  have f0 := RawAt.free (mk w1 (.slice Ab y.b.length cb) (.slice Af y.f.length cf)) 0
  have f1 := RawAt.free (mk w1 (.slice Ab y.b.length cb) (.slice Af y.f.length cf)) 1
  simp at e0 e1
  have hx : Below w1.heap.size w1 (w1.alloc (.cells #[.slice Ab y.b.length cb, .slice Af y.f.length cf] 69)) := (Below.refl _ _).alloc (Nat.le_refl _) _
  clear mk
  obtain ⟨A, c, hv, hE, hl, hc⟩ := eds_of_own (own_below O2.out hx)
  have CL := Lib.hid (cloneE_any A y.f.length c y.f _ hE hl (by omega))
  rw [← hv] at CL
  clear hE hv hl hc
  go_wp2_with fail
  with_reducible refine (CL.out).mono ?_
  rintro e2 w2 ⟨v, rfl, ho, h2⟩
  have HO := Lib.hid ho
  clear ho
  have hz : B ≤ w1.heap.size := Nat.le_trans hBw B1.out.size
  have q1 := Lib.hid (show Below B w w2 from (B1.out.trans (hx.mono hz)).trans (h2.mono (Nat.le_trans hz hx.size)))
  have q2 := Lib.hid ((T1.out.trans (OnT.of hx)).trans (OnT.of h2))
  have q3 := Lib.hid (HAt.below (HAt.below H1.out hx) h2)
  go_wp2
  go_ret2
  exact ⟨v, rfl, HO.out, q3.out, q2.out, q1.out⟩
end Go.Proofs.Ytncbhbjhfmbbkaa
