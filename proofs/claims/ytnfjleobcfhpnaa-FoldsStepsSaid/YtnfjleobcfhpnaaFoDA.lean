/- Folds: the document's Add. -/
import Derived.Test.YtnfjleobcfhpnaaFoR
import Derived.Test.YtnfjleobcfhpnaaFoD
namespace Go.Proofs.Ytnfjleobcfhpnaa
open Go.RowKit Go.Sort
set_option linter.unusedVariables false
/-- Rows of two numbers lie in no block of a number, a row and a number. -/
theorem rows_apartF {w : World} {A : Option Addr} {l : List Fo} (h : RowsAt encF 2 w A l) {t : TypeId} {b : Nat} {x z : Int} {A' : Option Addr} {m' c' : Nat} (r : RawAt t w b #[.int .i64 x, .slice A' m' c', .int .i64 z]) (k : Nat) (u : Value) : RowsAt encF 2 (w.setCell ⟨b, k, none⟩ u) A l := by
  intro hl
  obtain ⟨b', off, rfl, h1, h2⟩ := h hl
  have hne : b ≠ b' := fun e => by
    subst e
    have e0 := h2 0 hl 0 (by omega)
    have e1 := h2 0 hl 1 (by omega)
    rw [RawAt.cell r] at e0 e1
    rcases off with _ | _ | off
    · simp [encF] at e1
    · simp [encF] at e0
    · rcases off with _ | off
      · simp [encF] at e1
      · simp [encF] at e0
  exact ⟨b', off, rfl, Nat.lt_of_lt_of_le h1 ((Below.refl 0 w).setCell (p := ⟨b, k, none⟩) (Nat.zero_le _) u).size, fun j h3 c h4 => by rw [World.cell?_setCell_other w ⟨b, k, none⟩ ⟨b', _, none⟩ u (fun e => hne (by injection e))]; exact h2 j h3 c h4⟩
set_option maxHeartbeats 16000000 in
set_option maxRecDepth 100000 in
theorem rAdd15 (n er : Int) (A : Option Addr) (m c : Nat) (o : List Fo) (x : Fo) (w : World) (hA : RowsAt encF 2 w A o) (hcap : Caps A m c) (hl : o.length = m) (hm : m ≤ 100000) (r : Int) (hr : fwrong n (o ++ [x]) = r) :
    Calls Try.prog 17 #[.agg #[.int .i64 n, .slice A m c, .int .i64 er], .agg #[.int .i64 x.f, .int .i64 x.t]] w (FNewRes n (o ++ [x]) w r) := by
  have ST := fo_slt
  have HA := Lib.hid hA
  have HL := Lib.hid hl
  have HC := Lib.hid hcap
  have CNW := Lib.hid fun (A' : Option Addr) (m' c' : Nat) (W : World) (h1 : RowsAt encF 2 W A' (o ++ [x])) (h2 : Caps A' m' c') (h3 : (o ++ [x]).length = m') => rNew15 n A' m' c' (o ++ [x]) W h1 h2 h3 r hr
  clear hA hl hcap hr
  have x0 : Below w.heap.size w (w.alloc (.cells #[.int .i64 n, .slice A m c, .int .i64 er] 29)) := (Below.refl _ _).alloc (Nat.le_refl _) _
  have r0 : RawAt 29 (w.alloc (.cells #[.int .i64 n, .slice A m c, .int .i64 er] 29)) w.heap.size #[.int .i64 n, .slice A m c, .int .i64 er] := heap_alloc_new w _
  have x1 : Below (w.alloc (.cells #[.int .i64 n, .slice A m c, .int .i64 er] 29)).heap.size (w.alloc (.cells #[.int .i64 n, .slice A m c, .int .i64 er] 29)) ((w.alloc (.cells #[.int .i64 n, .slice A m c, .int .i64 er] 29)).alloc (.cells #[.int .i64 x.f, .int .i64 x.t] 33)) := (Below.refl _ _).alloc (Nat.le_refl _) _
  have r1 : RawAt 33 ((w.alloc (.cells #[.int .i64 n, .slice A m c, .int .i64 er] 29)).alloc (.cells #[.int .i64 x.f, .int .i64 x.t] 33)) (w.alloc (.cells #[.int .i64 n, .slice A m c, .int .i64 er] 29)).heap.size #[.int .i64 x.f, .int .i64 x.t] := heap_alloc_new (w.alloc (.cells #[.int .i64 n, .slice A m c, .int .i64 er] 29)) _
  have x2 : Below ((w.alloc (.cells #[.int .i64 n, .slice A m c, .int .i64 er] 29)).alloc (.cells #[.int .i64 x.f, .int .i64 x.t] 33)).heap.size ((w.alloc (.cells #[.int .i64 n, .slice A m c, .int .i64 er] 29)).alloc (.cells #[.int .i64 x.f, .int .i64 x.t] 33)) (((w.alloc (.cells #[.int .i64 n, .slice A m c, .int .i64 er] 29)).alloc (.cells #[.int .i64 x.f, .int .i64 x.t] 33)).alloc (.cells #[.int .i64 0, .slice none 0 0, .int .i64 0] 29)) := (Below.refl _ _).alloc (Nat.le_refl _) _
  have r2 : RawAt 29 (((w.alloc (.cells #[.int .i64 n, .slice A m c, .int .i64 er] 29)).alloc (.cells #[.int .i64 x.f, .int .i64 x.t] 33)).alloc (.cells #[.int .i64 0, .slice none 0 0, .int .i64 0] 29)) ((w.alloc (.cells #[.int .i64 n, .slice A m c, .int .i64 er] 29)).alloc (.cells #[.int .i64 x.f, .int .i64 x.t] 33)).heap.size #[.int .i64 0, .slice none 0 0, .int .i64 0] := heap_alloc_new ((w.alloc (.cells #[.int .i64 n, .slice A m c, .int .i64 er] 29)).alloc (.cells #[.int .i64 x.f, .int .i64 x.t] 33)) _
  rw [show ((w.alloc (.cells #[.int .i64 n, .slice A m c, .int .i64 er] 29)).alloc (.cells #[.int .i64 x.f, .int .i64 x.t] 33)).heap.size = w.heap.size + 2 by simp] at r2
  have x12 := x1.trans (x2.mono x1.size)
  have r0 := RawAt.below r0 x12 r0.lt
  have r1 := RawAt.below r1 x2 r1.lt
  rw [show (w.alloc (.cells #[.int .i64 n, .slice A m c, .int .i64 er] 29)).heap.size = w.heap.size + 1 by simp] at r1
  have X1 := Lib.hid (x0.trans (x12.mono x0.size))
  obtain ⟨W1, hW1⟩ : ∃ W1, W1 = (((w.alloc (.cells #[.int .i64 n, .slice A m c, .int .i64 er] 29)).alloc (.cells #[.int .i64 x.f, .int .i64 x.t] 33)).alloc (.cells #[.int .i64 0, .slice none 0 0, .int .i64 0] 29)) := ⟨_, rfl⟩
  rw [← hW1] at r0 r1 r2 X1
  have HZ1 := Lib.hid r2.lt
  have c0 := RawAt.cell r0 0
  have c1 := RawAt.cell r0 1
  have b0 := RawAt.cell r1 0
  have b1 := RawAt.cell r1 1
  simp at c0 c1 b0 b1
  have HW1 := Lib.hid hW1
  have R0 := Lib.hid r0
  have R1 := Lib.hid r1
  have R2 := Lib.hid r2
  clear x0 x1 x2 x12 r0 r1 r2 hW1
  have HA1 : Hid (RowsAt encF 2 (((w.alloc (.cells #[.int .i64 n, .slice A m c, .int .i64 er] 29)).alloc (.cells #[.int .i64 x.f, .int .i64 x.t] 33)).alloc (.cells #[.int .i64 0, .slice none 0 0, .int .i64 0] 29)) A o) := Lib.hid (by rw [← HW1.out]; exact HA.out.below X1.out)
  have O0 := Lib.hid (World.ownsRow_nil (((w.alloc (.cells #[.int .i64 n, .slice A m c, .int .i64 er] 29)).alloc (.cells #[.int .i64 x.f, .int .i64 x.t] 33)).alloc (.cells #[.int .i64 0, .slice none 0 0, .int .i64 0] 29)) (((w.alloc (.cells #[.int .i64 n, .slice A m c, .int .i64 er] 29)).alloc (.cells #[.int .i64 x.f, .int .i64 x.t] 33)).alloc (.cells #[.int .i64 0, .slice none 0 0, .int .i64 0] 29)).heap.size 33 2)
  clear c0 c1 b0 b1
  go_enter Try.func17, Try.ntmps17
  go_wp2_with (first | (at_builtin; refine wpList_appK (enc := encF) ST encF_len (by omega) rfl (.tmp 6) (.tmp 8) rfl (base := (((w.alloc (.cells #[.int .i64 n, .slice A m c, .int .i64 er] 29)).alloc (.cells #[.int .i64 x.f, .int .i64 x.t] 33)).alloc (.cells #[.int .i64 0, .slice none 0 0, .int .i64 0] 29)).heap.size) (v := .slice none 0 0) rfl O0.out A m c o rfl HA1.out HC.out HL.out (kfl_one' encF_one _) (by simp only [maxLen]; omega) (by omega) (Nat.le_refl _) ?_; intro v2 w2 hown2 hg2 hor2; have bb : Below (((w.alloc (.cells #[.int .i64 n, .slice A m c, .int .i64 er] 29)).alloc (.cells #[.int .i64 x.f, .int .i64 x.t] 33)).alloc (.cells #[.int .i64 0, .slice none 0 0, .int .i64 0] 29)).heap.size (((w.alloc (.cells #[.int .i64 n, .slice A m c, .int .i64 er] 29)).alloc (.cells #[.int .i64 x.f, .int .i64 x.t] 33)).alloc (.cells #[.int .i64 0, .slice none 0 0, .int .i64 0] 29)) w2 := (Below.refl _ _).grown hg2 (Nat.le_refl _) (fun j hj => by cases hj); have O2 : Hid (w2.ownsRow (((w.alloc (.cells #[.int .i64 n, .slice A m c, .int .i64 er] 29)).alloc (.cells #[.int .i64 x.f, .int .i64 x.t] 33)).alloc (.cells #[.int .i64 0, .slice none 0 0, .int .i64 0] 29)).heap.size 33 2 v2 m (kfl encF o)) := Lib.hid (by rw [Nat.zero_add, List.nil_append] at hown2; exact hown2); have B2 := Lib.hid bb; clear bb hown2 hg2 hor2 O0 HA1; rw [← HW1.out] at O2 B2; clear HW1; have d0 := RawAt.cell (RawAt.below R1.out B2.out R1.out.lt) 0; have d1 := RawAt.cell (RawAt.below R1.out B2.out R1.out.lt) 1; have c0 := RawAt.cell (RawAt.below R0.out B2.out R0.out.lt) 0; simp at c0 d0 d1; have R02 := Lib.hid (RawAt.below R0.out B2.out R0.out.lt); have x3 : Below w2.heap.size w2 (w2.alloc (.cells #[.int .i64 x.f, .int .i64 x.t] 33)) := (Below.refl _ _).alloc (Nat.le_refl _) _; have R3 : RawAt 33 (w2.alloc (.cells #[.int .i64 x.f, .int .i64 x.t] 33)) w2.heap.size #[.int .i64 x.f, .int .i64 x.t] := heap_alloc_new w2 _; have HS3 : Hid (RowsAt encF 2 (w2.alloc (.cells #[.int .i64 x.f, .int .i64 x.t] 33)) (some ⟨w2.heap.size, 0, none⟩) [x]) := Lib.hid (rows_of_block (enc := encF) (k := 2) encF_len R3 (l := [x]) rfl); have HO3 := Lib.hid (own_below O2.out x3); have hlt2 := O2.out.lt; have HB3 := Lib.hid (B2.out.trans (x3.mono B2.out.size)); clear R3 x3) | (at_builtin; refine wpList_appK (enc := encF) ST encF_len (by omega) rfl (.tmp 10) (.tmp 12) rfl (base := W1.heap.size) rfl HO3.out _ 1 1 [x] rfl HS3.out ⟨Nat.le_refl _, fun h => by cases h⟩ rfl (kfl_one' encF_one _) (by simp only [maxLen]; omega) (by omega) HB3.out.size ?_; intro v5 w6 hown5 hg5 hor5; have hb6 := HB3.out.grown hg5 HB3.out.size (fun j hj => (hlt2 j hj).1); have HB6 := Lib.hid hb6; have hS0 := RawAt.below R0.out hb6 R0.out.lt; have c0 := RawAt.cell hS0 0; simp at c0; have hl6 : (o ++ [x]).length = m + 1 := (by rw [List.length_append, HL.out]; rfl); have hown6 : w6.ownsRow W1.heap.size 33 2 v5 (m + 1) (kfl encF (o ++ [x])) := (by rw [kfl_append]; exact hown5); obtain ⟨A6, c6, e6, hR6, _, hC6⟩ := rows_of_own encF_len (by omega) hown6; subst e6; have CNW6 := Lib.hid (CNW.out A6 _ c6 w6 hR6 hC6 hl6); clear hown5 hg5 hor5 hown6 hR6 hC6 hS0 hb6))
  with_reducible refine (CNW6.out).mono ?_
  rintro e7 w7 ⟨nn, A7, m7, c7, rfl, hres, b7⟩
  have hS1 := RawAt.below R2.out (HB6.out.trans (b7.mono HB6.out.size)) R2.out.lt
  have q0 := RawAt.cell hS1 0
  have q1 := RawAt.cell hS1 1
  have q2 := RawAt.cell hS1 2
  have f0 := RawAt.free hS1 0
  have f1 := RawAt.free hS1 1
  have f2 := RawAt.free hS1 2
  simp at q0 q1 q2
  have HR1 := Lib.hid hS1
  have HZ7 := Lib.hid (X1.out.trans ((HB6.out.trans (b7.mono HB6.out.size)).mono X1.out.size))
  have HRES := Lib.hid hres
  clear hres b7 hS1 CNW6
  go_wp2
  have t0 := ((HR1.out.set_ 0 (.int .i64 nn)).set_ 1 (.slice A7 m7 c7)).set_ 2 (.int .i64 r)
  have z0 := RawAt.cell t0 0
  have z1 := RawAt.cell t0 1
  have z2 := RawAt.cell t0 2
  simp at z0 z1 z2
  refine bodyPost_ret (v := .agg #[.int .i64 nn, .slice A7 m7 c7, .int .i64 r]) (by simp [results, Try.results17, go_sem, z0, z1, z2]) rfl ⟨nn, A7, m7, c7, rfl, fun hr0 => ?_, ?_⟩
  · obtain ⟨y1, y2, y3, y4⟩ := HRES.out hr0
    exact ⟨y1, y2, rows_apartF (rows_apartF (rows_apartF y3 HR1.out _ _) (RawAt.of_eq (HR1.out.set_ 0 (.int .i64 nn)) rfl) _ _) (RawAt.of_eq ((HR1.out.set_ 0 (.int .i64 nn)).set_ 1 (.slice A7 m7 c7)) rfl) _ _, y4⟩
  · exact (((HZ7.out.setCell (p := ⟨w.heap.size + 2, 0, none⟩) (Nat.le_add_right _ _) _).setCell (p := ⟨w.heap.size + 2, 1, none⟩) (Nat.le_add_right _ _) _).setCell (p := ⟨w.heap.size + 2, 2, none⟩) (Nat.le_add_right _ _) _)
end Go.Proofs.Ytnfjleobcfhpnaa
