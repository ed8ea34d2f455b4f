/- Anchors: the contracts of kept, All, Within, Get. -/
import Derived.Test.YtncbhbjhfmbbkaaAnB
namespace Go.Proofs.Ytncbhbjhfmbbkaa
open Go.RowKit Go.Sort
set_option linter.unusedVariables false
theorem fld_s0 (n : Int) (A : Option Addr) (m c : Nat) (mb : Option Nat) (w : World) : (Instr.field 118 (.agg #[.int .i64 n, .slice A m c, .map mb]) 0).run Try.prog w = .ok (.int .i64 n) w := by kernel_rfl
theorem fld_s1 (n : Int) (A : Option Addr) (m c : Nat) (mb : Option Nat) (w : World) : (Instr.field 118 (.agg #[.int .i64 n, .slice A m c, .map mb]) 1).run Try.prog w = .ok (.slice A m c) w := by kernel_rfl
theorem fld_s2 (n : Int) (A : Option Addr) (m c : Nat) (mb : Option Nat) (w : World) : (Instr.field 118 (.agg #[.int .i64 n, .slice A m c, .map mb]) 2).run Try.prog w = .ok (.map mb) w := by kernel_rfl
theorem an_zero (w : World) : (zeroValue 36).run Try.prog w = .ok (.agg #[.int .i64 0, .int .i64 0, .int .i64 0]) w := by kernel_rfl
set_option maxHeartbeats 4000000 in
set_option maxRecDepth 100000 in
theorem aKept_nil (w : World) : Calls Try.prog 59 #[.pointer none] w fun e w' => e = .returned (.agg #[.int .i64 0, .slice none 0 0, .map none]) ∧ Below w.heap.size w w' := by
  have x1 : Below w.heap.size w (w.alloc (.cells #[.int .i64 0, .slice none 0 0, .map none] 118)) := (Below.refl _ _).alloc (Nat.le_refl _) _
  have R1 : RawAt 118 (w.alloc (.cells #[.int .i64 0, .slice none 0 0, .map none] 118)) w.heap.size #[.int .i64 0, .slice none 0 0, .map none] := heap_alloc_new w _
  have e0 := RawAt.cell R1 0
  have e1 := RawAt.cell R1 1
  have e2 := RawAt.cell R1 2
  have f0 := RawAt.free R1 0
  have f1 := RawAt.free R1 1
  have f2 := RawAt.free R1 2
  simp at e0 e1 e2
  clear R1
  go_enter Try.func59, Try.ntmps59
  go_wp2
  refine bodyPost_ret (v := .agg #[.int .i64 0, .slice none 0 0, .map none]) (by simp [results, Try.results59, go_sem]) rfl ⟨rfl, x1⟩
set_option maxHeartbeats 4000000 in
set_option maxRecDepth 100000 in
theorem aKept_any {sb : Nat} {n : Int} {o : List An} {w : World} {A : Option Addr} {c mb : Nat} (h : RawAt 118 w sb #[.int .i64 n, .slice A o.length c, .map (some mb)]) : Calls Try.prog 59 #[.pointer (some ⟨sb, 0, none⟩)] w fun e w' => e = .returned (.agg #[.int .i64 n, .slice A o.length c, .map (some mb)]) ∧ Below w.heap.size w w' := by
  generalize o.length = k at *
  have x1 : Below w.heap.size w (w.alloc (.cells #[.int .i64 0, .slice none 0 0, .map none] 118)) := (Below.refl _ _).alloc (Nat.le_refl _) _
  have R1 : RawAt 118 (w.alloc (.cells #[.int .i64 0, .slice none 0 0, .map none] 118)) w.heap.size #[.int .i64 0, .slice none 0 0, .map none] := heap_alloc_new w _
  have e0 := RawAt.cell R1 0
  have e1 := RawAt.cell R1 1
  have e2 := RawAt.cell R1 2
  have f0 := RawAt.free R1 0
  have f1 := RawAt.free R1 1
  have f2 := RawAt.free R1 2
  have h1 := h.below x1 h.lt
  have c0 := RawAt.cell h1 0
  have c1 := RawAt.cell h1 1
  have c2 := RawAt.cell h1 2
  simp at e0 e1 e2 c0 c1 c2
  have x2 : Below w.heap.size w (w.alloc (.cells #[.int .i64 n, .slice A k c, .map (some mb)] 118)) := (Below.refl _ _).alloc (Nat.le_refl _) _
  clear R1 h1
  go_enter Try.func59, Try.ntmps59
  go_wp2
  refine bodyPost_ret (v := .agg #[.int .i64 n, .slice A k c, .map (some mb)]) (by simp [results, Try.results59, go_sem]) rfl ⟨rfl, ?_⟩
  exact x2
/-- What All answers: the anchors, in memory of one's own. -/
def AOwn (w : World) (v : Value) (o : List An) : Prop := ∃ B, w.ownsRow B 36 3 v o.length (kfl encA o)
set_option maxHeartbeats 4000000 in
set_option maxRecDepth 100000 in
theorem aAll_nil (w : World) : Calls Try.prog 23 #[.pointer none] w fun e w' => ∃ v, e = .returned v ∧ w'.ownsRow w.heap.size 36 3 v 0 [] ∧ Below w.heap.size w w' := by
  have CK := Lib.hid (aKept_nil w)
  have CC := Lib.hid fun W => aClone_any none 0 0 [] W (fun h => absurd h (by simp)) ⟨Nat.le_refl _, fun _ => rfl⟩ rfl (by omega)
  go_enter Try.func23, Try.ntmps23
  have tf0 := fld_s0
  have tf1 := fld_s1
  have tf2 := fld_s2
  go_wp2_with fail
  with_reducible refine (CK.out).mono ?_
  rintro e1 w1 ⟨rfl, b1⟩
  go_wp2_with fail
  with_reducible refine (CC.out _).mono ?_
  rintro e2 w2 ⟨v2, rfl, o2, b2, _⟩
  have HO := Lib.hid (own_base o2 b1.size)
  have q := b1.trans (b2.mono b1.size)
  clear o2
  go_wp2
  go_ret
  exact ⟨v2, rfl, HO.out, q⟩
set_option maxHeartbeats 4000000 in
set_option maxRecDepth 100000 in
theorem aAll_any {sb : Nat} {n : Int} {o : List An} {w : World} (h : ASet w sb n o) (ho : o.length ≤ 100000) : Calls Try.prog 23 #[.pointer (some ⟨sb, 0, none⟩)] w fun e w' => ∃ v, e = .returned v ∧ w'.ownsRow w.heap.size 36 3 v o.length (kfl encA o) ∧ Below w.heap.size w w' := by
  obtain ⟨v, mb, nn, f, h1, h2, h3, h4⟩ := h
  obtain ⟨A, c, rfl, hR, _, hcap⟩ := rows_of_own encA_len (by omega) h2
  have CK := Lib.hid (aKept_any h1)
  have CC := Lib.hid fun (W : World) (hW : Below w.heap.size w W) => aClone_any A o.length c o W (hR.below hW) hcap rfl ho
  clear h1 h2 h3 h4 hR hcap
  go_enter Try.func23, Try.ntmps23
  have tf0 := fld_s0
  have tf1 := fld_s1
  have tf2 := fld_s2
  go_wp2_with fail
  with_reducible refine (CK.out).mono ?_
  rintro e1 w1 ⟨rfl, b1⟩
  go_wp2_with fail
  with_reducible refine (CC.out _ b1).mono ?_
  rintro e2 w2 ⟨v2, rfl, o2, b2, _⟩
  have HO := Lib.hid (own_base o2 b1.size)
  have q := b1.trans (b2.mono b1.size)
  clear o2
  go_wp2
  go_ret
  exact ⟨v2, rfl, HO.out, q⟩
set_option maxHeartbeats 4000000 in
set_option maxRecDepth 100000 in
theorem aGet_nil (id : Int) (w : World) (hwf : (Lit.int .i64 id).wf = true) : Calls Try.prog 21 #[.pointer none, .int .i64 id] w fun e w' => e = .returned (.tuple #[.agg #[.int .i64 0, .int .i64 0, .int .i64 0], .int .i64 6]) ∧ Below w.heap.size w w' := by
  have x0 : Below w.heap.size w (w.alloc (.cells #[.int .i64 0, .int .i64 0, .int .i64 0] 36)) := (Below.refl _ _).alloc (Nat.le_refl _) _
  have R0 : RawAt 36 (w.alloc (.cells #[.int .i64 0, .int .i64 0, .int .i64 0] 36)) w.heap.size #[.int .i64 0, .int .i64 0, .int .i64 0] := heap_alloc_new w _
  have CK := Lib.hid fun W => aKept_nil W
  have HL := Lib.hid fun W : World => Maps.look_nil (P := Try.prog) (w := W) true intK.keyed Try.underlying112 (an_zero W) (intK.of id hwf)
  go_enter Try.func21, Try.ntmps21
  have tf0 := fld_s0
  have tf1 := fld_s1
  have tf2 := fld_s2
  go_wp2_with fail
  with_reducible refine (CK.out _).mono ?_
  rintro e1 w1 ⟨rfl, b1⟩
  have q1 := x0.trans (b1.mono x0.size)
  have R1 := RawAt.below R0 b1 R0.lt
  have HL1 := Lib.hid (HL.out w1)
  have x2 : Below w1.heap.size w1 (w1.alloc (.cells #[.int .i64 0, .int .i64 0, .int .i64 0] 36)) := (Below.refl _ _).alloc (Nat.le_refl _) _
  have R2 := RawAt.below R1 x2 R1.lt
  have f0 := RawAt.free R2 0
  have f1 := RawAt.free R2 1
  have f2 := RawAt.free R2 2
  have c0 := RawAt.cell R2 0
  have c1 := RawAt.cell R2 1
  have c2 := RawAt.cell R2 2
  have R3 := ((R2.set_ 0 (.int .i64 0)).set_ 1 (.int .i64 0)).set_ 2 (.int .i64 0)
  have p0 := RawAt.cell R3 0
  have p1 := RawAt.cell R3 1
  have p2 := RawAt.cell R3 2
  simp at c0 c1 c2 p0 p1 p2
  have q3 := (((q1.trans (x2.mono q1.size)).setCell (p := ⟨w.heap.size, 0, none⟩) (Nat.le_refl _) (.int .i64 0)).setCell (p := ⟨w.heap.size, 1, none⟩) (Nat.le_refl _) (.int .i64 0)).setCell (p := ⟨w.heap.size, 2, none⟩) (Nat.le_refl _) (.int .i64 0)
  clear R0 R1 R2 R3 HL
  go_wp2_with (at_lookup; refine wpList_lookV2 rfl (.tmp 11) (.tmp 12) _ rfl _ _ rfl rfl HL1.out ?_)
  refine bodyPost_ret (v := .tuple #[.agg #[.int .i64 0, .int .i64 0, .int .i64 0], .int .i64 6]) (by simp [results, Try.results21, go_sem, p0, p1, p2]) rfl ⟨rfl, ?_⟩
  exact q3
set_option maxHeartbeats 4000000 in
set_option maxRecDepth 100000 in
theorem aGet_no {sb : Nat} {n : Int} {o : List An} {w : World} (h : ASet w sb n o) (id : Int) (hwf : (Lit.int .i64 id).wf = true)  (hno : ∀ a ∈ o, a.id ≠ id) : Calls Try.prog 21 #[.pointer (some ⟨sb, 0, none⟩), .int .i64 id] w fun e w' => e = .returned (.tuple #[.agg #[.int .i64 0, .int .i64 0, .int .i64 0], .int .i64 6]) ∧ Below w.heap.size w w' := by
  have x0 : Below w.heap.size w (w.alloc (.cells #[.int .i64 0, .int .i64 0, .int .i64 0] 36)) := (Below.refl _ _).alloc (Nat.le_refl _) _
  have R0 : RawAt 36 (w.alloc (.cells #[.int .i64 0, .int .i64 0, .int .i64 0] 36)) w.heap.size #[.int .i64 0, .int .i64 0, .int .i64 0] := heap_alloc_new w _
  obtain ⟨v, mb, nn, f, h1, h2, h3, h4⟩ := h
  obtain ⟨A, c, rfl⟩ := own_form h2
  have CK := Lib.hid (aKept_any (o := o) (h1.below x0 h1.lt))
  have hfo : f id = none := h4.non _ hno
  have HM := Lib.hid (h3.below x0)
  have HFO := Lib.hid hfo
  clear h1 h2 h3 h4 hfo hno
  go_enter Try.func21, Try.ntmps21
  have tf0 := fld_s0
  have tf1 := fld_s1
  have tf2 := fld_s2
  go_wp2_with fail
  with_reducible refine (CK.out).mono ?_
  rintro e1 w1 ⟨rfl, b1⟩
  have q1 := x0.trans (b1.mono x0.size)
  have R1 := RawAt.below R0 b1 R0.lt
  have L4 := (HM.out.below b1).look2 intK Try.underlying112 (an_zero _) id hwf
  rw [HFO.out] at L4
  simp only [Option.getD_none, Option.isSome_none] at L4
  have HL1 := Lib.hid L4
  have x2 : Below w1.heap.size w1 (w1.alloc (.cells #[.int .i64 0, .int .i64 0, .int .i64 0] 36)) := (Below.refl _ _).alloc (Nat.le_refl _) _
  have N2 : RawAt 36 (w1.alloc (.cells #[.int .i64 0, .int .i64 0, .int .i64 0] 36)) w1.heap.size #[.int .i64 0, .int .i64 0, .int .i64 0] := heap_alloc_new w1 _
  have R2 := RawAt.below R1 x2 R1.lt
  have f0 := RawAt.free R2 0
  have f1 := RawAt.free R2 1
  have f2 := RawAt.free R2 2
  have c0 := RawAt.cell R2 0
  have c1 := RawAt.cell R2 1
  have c2 := RawAt.cell R2 2
  have n0 := RawAt.cell N2 0
  have n1 := RawAt.cell N2 1
  have n2 := RawAt.cell N2 2
  have R3 := ((R2.set_ 0 (.int .i64 0)).set_ 1 (.int .i64 0)).set_ 2 (.int .i64 0)
  have p0 := RawAt.cell R3 0
  have p1 := RawAt.cell R3 1
  have p2 := RawAt.cell R3 2
  simp at c0 c1 c2 p0 p1 p2 n0 n1 n2
  have q3 := (((q1.trans (x2.mono q1.size)).setCell (p := ⟨w.heap.size, 0, none⟩) (Nat.le_refl _) (.int .i64 0)).setCell (p := ⟨w.heap.size, 1, none⟩) (Nat.le_refl _) (.int .i64 0)).setCell (p := ⟨w.heap.size, 2, none⟩) (Nat.le_refl _) (.int .i64 0)
  clear R0 R1 R2 R3 N2 L4
  go_wp2_with (at_lookup; refine wpList_lookV2 rfl (.tmp 11) (.tmp 12) _ rfl _ _ rfl rfl HL1.out ?_)
  refine bodyPost_ret (v := .tuple #[.agg #[.int .i64 0, .int .i64 0, .int .i64 0], .int .i64 6]) (by simp [results, Try.results21, go_sem, p0, p1, p2]) rfl ⟨rfl, ?_⟩
  exact q3
set_option maxHeartbeats 4000000 in
set_option maxRecDepth 100000 in
theorem aGet_yes {sb : Nat} {n : Int} {o : List An} {w : World} (h : ASet w sb n o) (id : Int) (hwf : (Lit.int .i64 id).wf = true) {y : An} (hy : y ∈ o) (hid : y.id = id) : Calls Try.prog 21 #[.pointer (some ⟨sb, 0, none⟩), .int .i64 id] w fun e w' => e = .returned (.tuple #[.agg #[.int .i64 y.id, .int .i64 y.pl, .int .i64 y.bi], .int .i64 0]) ∧ Below w.heap.size w w' := by
  have x0 : Below w.heap.size w (w.alloc (.cells #[.int .i64 0, .int .i64 0, .int .i64 0] 36)) := (Below.refl _ _).alloc (Nat.le_refl _) _
  have R0 : RawAt 36 (w.alloc (.cells #[.int .i64 0, .int .i64 0, .int .i64 0] 36)) w.heap.size #[.int .i64 0, .int .i64 0, .int .i64 0] := heap_alloc_new w _
  obtain ⟨v, mb, nn, f, h1, h2, h3, h4⟩ := h
  obtain ⟨A, c, rfl⟩ := own_form h2
  have CK := Lib.hid (aKept_any (o := o) (h1.below x0 h1.lt))
  have hfo : f id = some (aagg y) := by rw [← hid]; exact h4.has y hy
  have HM := Lib.hid (h3.below x0)
  have HFO := Lib.hid hfo
  clear h1 h2 h3 h4 hfo hy hid
  go_enter Try.func21, Try.ntmps21
  have tf0 := fld_s0
  have tf1 := fld_s1
  have tf2 := fld_s2
  go_wp2_with fail
  with_reducible refine (CK.out).mono ?_
  rintro e1 w1 ⟨rfl, b1⟩
  have q1 := x0.trans (b1.mono x0.size)
  have R1 := RawAt.below R0 b1 R0.lt
  have L4 := (HM.out.below b1).look2 intK Try.underlying112 (an_zero _) id hwf
  rw [HFO.out] at L4
  simp only [Option.getD_some, Option.isSome_some, aagg] at L4
  have HL1 := Lib.hid L4
  have x2 : Below w1.heap.size w1 (w1.alloc (.cells #[.int .i64 y.id, .int .i64 y.pl, .int .i64 y.bi] 36)) := (Below.refl _ _).alloc (Nat.le_refl _) _
  have N2 : RawAt 36 (w1.alloc (.cells #[.int .i64 y.id, .int .i64 y.pl, .int .i64 y.bi] 36)) w1.heap.size #[.int .i64 y.id, .int .i64 y.pl, .int .i64 y.bi] := heap_alloc_new w1 _
  have R2 := RawAt.below R1 x2 R1.lt
  have f0 := RawAt.free R2 0
  have f1 := RawAt.free R2 1
  have f2 := RawAt.free R2 2
  have c0 := RawAt.cell R2 0
  have c1 := RawAt.cell R2 1
  have c2 := RawAt.cell R2 2
  have n0 := RawAt.cell N2 0
  have n1 := RawAt.cell N2 1
  have n2 := RawAt.cell N2 2
  have R3 := ((R2.set_ 0 (.int .i64 y.id)).set_ 1 (.int .i64 y.pl)).set_ 2 (.int .i64 y.bi)
  have p0 := RawAt.cell R3 0
  have p1 := RawAt.cell R3 1
  have p2 := RawAt.cell R3 2
  simp at c0 c1 c2 p0 p1 p2 n0 n1 n2
  have q3 := (((q1.trans (x2.mono q1.size)).setCell (p := ⟨w.heap.size, 0, none⟩) (Nat.le_refl _) (.int .i64 y.id)).setCell (p := ⟨w.heap.size, 1, none⟩) (Nat.le_refl _) (.int .i64 y.pl)).setCell (p := ⟨w.heap.size, 2, none⟩) (Nat.le_refl _) (.int .i64 y.bi)
  clear R0 R1 R2 R3 N2 L4
  go_wp2_with (at_lookup; refine wpList_lookV2 rfl (.tmp 11) (.tmp 12) _ rfl _ _ rfl rfl HL1.out ?_)
  refine bodyPost_ret (v := .tuple #[.agg #[.int .i64 y.id, .int .i64 y.pl, .int .i64 y.bi], .int .i64 0]) (by simp [results, Try.results21, go_sem, p0, p1, p2]) rfl ⟨rfl, ?_⟩
  exact q3
end Go.Proofs.Ytncbhbjhfmbbkaa
