/- Folds: a set in memory; kept, All, Len. -/
import Derived.Test.YtnfjleobcfhpnaaFoK
import Derived.Test.YtnfjleobcfhpnaaOnT
namespace Go.Proofs.Ytnfjleobcfhpnaa
open Go.RowKit Go.Sort
set_option linter.unusedVariables false
theorem own_formF {w : World} {base n size : Nat} {e : TypeId} {v : Value} {xs : List Value} (h : w.ownsRow base e size v n xs) : ∃ A c, v = .slice A n c := by
  rcases h.2 with ⟨rfl, rfl⟩ | ⟨g, cap, cur, rfl, _⟩
  · exact ⟨_, _, rfl⟩
  · exact ⟨_, _, rfl⟩
theorem own_baseF {w : World} {base base' n size : Nat} {e : TypeId} {v : Value} {xs : List Value} (h : w.ownsRow base e size v n xs) (hb : base' ≤ base) : w.ownsRow base' e size v n xs := by
  refine ⟨h.1, ?_⟩
  rcases h.2 with g | ⟨g, cap, cur, e', hB, c⟩
  · exact .inl g
  · exact .inr ⟨g, cap, cur, e', by omega, c⟩
/-- A set of folds in memory. -/
def FSet (w : World) (sb : Nat) (n : Int) (o : List Fo) : Prop := ∃ v, RawAt 87 w sb #[.int .i64 n, v] ∧ w.ownsRow 0 33 2 v o.length (kfl encF o)
theorem FSet.below {w w' : World} {sb : Nat} {n : Int} {o : List Fo} (h : FSet w sb n o) (hb : Below w.heap.size w w') : FSet w' sb n o := by
  obtain ⟨v, h1, h2⟩ := h
  exact ⟨v, h1.below hb h1.lt, own_below h2 hb⟩
theorem ffld0 (n : Int) (A : Option Addr) (m c : Nat) (w : World) : (Instr.field 87 (.agg #[.int .i64 n, .slice A m c]) 0).run Try.prog w = .ok (.int .i64 n) w := by kernel_rfl
theorem ffld1 (n : Int) (A : Option Addr) (m c : Nat) (w : World) : (Instr.field 87 (.agg #[.int .i64 n, .slice A m c]) 1).run Try.prog w = .ok (.slice A m c) w := by kernel_rfl
set_option maxHeartbeats 4000000 in
set_option maxRecDepth 100000 in
theorem fKept_nil (w : World) : Calls Try.prog 42 #[.pointer none] w fun e w' => e = .returned (.agg #[.int .i64 0, .slice none 0 0]) ∧ Below w.heap.size w w' := by
  have x1 : Below w.heap.size w (w.alloc (.cells #[.int .i64 0, .slice none 0 0] 87)) := (Below.refl _ _).alloc (Nat.le_refl _) _
  have R1 : RawAt 87 (w.alloc (.cells #[.int .i64 0, .slice none 0 0] 87)) w.heap.size #[.int .i64 0, .slice none 0 0] := heap_alloc_new w _
  have e0 := RawAt.cell R1 0
  have e1 := RawAt.cell R1 1
  have f0 := RawAt.free R1 0
  have f1 := RawAt.free R1 1
  simp at e0 e1
  clear R1
  go_enter Try.func42, Try.ntmps42
  go_wp2
  refine bodyPost_ret (v := .agg #[.int .i64 0, .slice none 0 0]) (by simp [results, Try.results42, go_sem]) rfl ⟨rfl, x1⟩
set_option maxHeartbeats 4000000 in
set_option maxRecDepth 100000 in
theorem fKept_any {sb : Nat} {n : Int} {o : List Fo} {w : World} {A : Option Addr} {c : Nat} (h : RawAt 87 w sb #[.int .i64 n, .slice A o.length c]) : Calls Try.prog 42 #[.pointer (some ⟨sb, 0, none⟩)] w fun e w' => e = .returned (.agg #[.int .i64 n, .slice A o.length c]) ∧ Below w.heap.size w w' := by
  generalize o.length = k at *
  have x1 : Below w.heap.size w (w.alloc (.cells #[.int .i64 0, .slice none 0 0] 87)) := (Below.refl _ _).alloc (Nat.le_refl _) _
  have R1 : RawAt 87 (w.alloc (.cells #[.int .i64 0, .slice none 0 0] 87)) w.heap.size #[.int .i64 0, .slice none 0 0] := heap_alloc_new w _
  have e0 := RawAt.cell R1 0
  have e1 := RawAt.cell R1 1
  have f0 := RawAt.free R1 0
  have f1 := RawAt.free R1 1
  have h1 := h.below x1 h.lt
  have c0 := RawAt.cell h1 0
  have c1 := RawAt.cell h1 1
  simp at e0 e1 c0 c1
  have x2 : Below w.heap.size w (w.alloc (.cells #[.int .i64 n, .slice A k c] 87)) := (Below.refl _ _).alloc (Nat.le_refl _) _
  clear R1 h1
  go_enter Try.func42, Try.ntmps42
  go_wp2
  refine bodyPost_ret (v := .agg #[.int .i64 n, .slice A k c]) (by simp [results, Try.results42, go_sem]) rfl ⟨rfl, ?_⟩
  exact x2
/-- What All answers: the anchors, in memory of one's own. -/
def FOwn (w : World) (v : Value) (o : List Fo) : Prop := ∃ B, w.ownsRow B 33 2 v o.length (kfl encF o)
set_option maxHeartbeats 4000000 in
set_option maxRecDepth 100000 in
theorem fAll_nil (w : World) : Calls Try.prog 24 #[.pointer none] w fun e w' => ∃ v, e = .returned v ∧ w'.ownsRow w.heap.size 33 2 v 0 [] ∧ Below w.heap.size w w' := by
  have CK := Lib.hid (fKept_nil w)
  have CC := Lib.hid fun W => fClone_any none 0 0 [] W (fun h => absurd h (by simp)) ⟨Nat.le_refl _, fun _ => rfl⟩ rfl (by omega)
  go_enter Try.func24, Try.ntmps24
  have tf0 := ffld0
  have tf1 := ffld1
  go_wp2_with fail
  with_reducible refine (CK.out).mono ?_
  rintro e1 w1 ⟨rfl, b1⟩
  go_wp2_with fail
  with_reducible refine (CC.out _).mono ?_
  rintro e2 w2 ⟨v2, rfl, o2, b2, _⟩
  have HO := Lib.hid (own_base o2 b1.size)
  have q := b1.trans (b2.mono b1.size)
  clear o2
  go_wp2
  go_ret
  exact ⟨v2, rfl, HO.out, q⟩
set_option maxHeartbeats 4000000 in
set_option maxRecDepth 100000 in
theorem fAll_any {sb : Nat} {n : Int} {o : List Fo} {w : World} (h : FSet w sb n o) (ho : o.length ≤ 100000) : Calls Try.prog 24 #[.pointer (some ⟨sb, 0, none⟩)] w fun e w' => ∃ v, e = .returned v ∧ w'.ownsRow w.heap.size 33 2 v o.length (kfl encF o) ∧ Below w.heap.size w w' := by
  obtain ⟨v, h1, h2⟩ := h
  obtain ⟨A, c, rfl, hR, _, hcap⟩ := rows_of_own encF_len (by omega) h2
  have CK := Lib.hid (fKept_any h1)
  have CC := Lib.hid fun (W : World) (hW : Below w.heap.size w W) => fClone_any A o.length c o W (hR.below hW) hcap rfl ho
  clear h1 h2 hR hcap
  go_enter Try.func24, Try.ntmps24
  have tf0 := ffld0
  have tf1 := ffld1
  go_wp2_with fail
  with_reducible refine (CK.out).mono ?_
  rintro e1 w1 ⟨rfl, b1⟩
  go_wp2_with fail
  with_reducible refine (CC.out _ b1).mono ?_
  rintro e2 w2 ⟨v2, rfl, o2, b2, _⟩
  have HO := Lib.hid (own_base o2 b1.size)
  have q := b1.trans (b2.mono b1.size)
  clear o2
  go_wp2
  go_ret
  exact ⟨v2, rfl, HO.out, q⟩
set_option maxHeartbeats 4000000 in
set_option maxRecDepth 100000 in
theorem fLen_nil (w : World) : Calls Try.prog 34 #[.pointer none] w fun e w' => e = .returned (.int .i64 0) ∧ Below w.heap.size w w' := by
  have CK := Lib.hid (fKept_nil w)
  go_enter Try.func34, Try.ntmps34
  have tf0 := ffld0
  go_wp2_with fail
  with_reducible refine (CK.out).mono ?_
  rintro e1 w1 ⟨rfl, b1⟩
  go_wp2
  go_ret
  exact ⟨rfl, b1⟩
set_option maxHeartbeats 4000000 in
set_option maxRecDepth 100000 in
theorem fLen_any {sb : Nat} {n : Int} {o : List Fo} {w : World} (h : FSet w sb n o) : Calls Try.prog 34 #[.pointer (some ⟨sb, 0, none⟩)] w fun e w' => e = .returned (.int .i64 n) ∧ Below w.heap.size w w' := by
  obtain ⟨v, h1, h2⟩ := h
  obtain ⟨A, c, rfl, hR, _, hcap⟩ := rows_of_own encF_len (by omega) h2
  have CK := Lib.hid (fKept_any h1)
  clear h1 h2 hR hcap
  go_enter Try.func34, Try.ntmps34
  have tf0 := ffld0
  go_wp2_with fail
  with_reducible refine (CK.out).mono ?_
  rintro e1 w1 ⟨rfl, b1⟩
  go_wp2
  go_ret
  exact ⟨rfl, b1⟩
end Go.Proofs.Ytnfjleobcfhpnaa
