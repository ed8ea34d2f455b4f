/- Closed facts of this seat's program: which node is which; the contracts of sum, heightOf, countOf. -/
import Derived.Test.YtbbplppcabeojaaNodeP
namespace Go.Proofs.Ytbbplppcabeojaa
open Go.RowKit
section
variable (w : World) (b : Nat) (xT : TypeId)
theorem ta_ll : (Instr.typeAssert (lfv b) xT 126 true).run Try.prog w = .ok (.tuple #[.pointer (some ⟨b, 0, none⟩), .bool true]) w := by
  simp [Instr.typeAssert, run_underlying Try.underlying126, lfv]
theorem ta_bb : (Instr.typeAssert (brv b) xT 132 true).run Try.prog w = .ok (.tuple #[.pointer (some ⟨b, 0, none⟩), .bool true]) w := by
  simp [Instr.typeAssert, run_underlying Try.underlying132, brv]
theorem ta_bl : (Instr.typeAssert (brv b) xT 126 true).run Try.prog w = .ok (.tuple #[.pointer none, .bool false]) w := by
  kernel_rfl
theorem ta_lb : (Instr.typeAssert (lfv b) xT 132 true).run Try.prog w = .ok (.tuple #[.pointer none, .bool false]) w := by
  kernel_rfl
theorem ta_nl : (Instr.typeAssert .nilIface xT 126 true).run Try.prog w = .ok (.tuple #[.pointer none, .bool false]) w := by
  kernel_rfl
theorem ta_nb : (Instr.typeAssert .nilIface xT 132 true).run Try.prog w = .ok (.tuple #[.pointer none, .bool false]) w := by
  kernel_rfl
theorem tp_l : (Instr.typeAssert (lfv b) xT 126 false).run Try.prog w = .ok (.pointer (some ⟨b, 0, none⟩)) w := by
  kernel_rfl
theorem tp_b : (Instr.typeAssert (brv b) xT 132 false).run Try.prog w = .ok (.pointer (some ⟨b, 0, none⟩)) w := by
  kernel_rfl
end
set_option maxHeartbeats 1000000 in
theorem heightOf_nil (w : World) : Calls Try.prog 85 #[.nilIface] w fun e w' => e = .returned (.int .i64 0) ∧ w' = w := by
  have t1 := ta_nl
  have t2 := ta_nb
  go_enter Try.func85, Try.ntmps85
  go_wp2
  go_ret
  exact ⟨rfl, rfl⟩
set_option maxHeartbeats 1000000 in
theorem heightOf_leaf (b : Nat) (w : World) : Calls Try.prog 85 #[lfv b] w fun e w' => e = .returned (.int .i64 1) ∧ w' = w := by
  have t1 := ta_ll
  unfold lfv at *
  go_enter Try.func85, Try.ntmps85
  go_wp2
  go_ret
  exact ⟨rfl, rfl⟩
set_option maxHeartbeats 1000000 in
theorem heightOf_branch (b h : Nat) (w : World) (h7 : w.cell? ⟨b, 7, none⟩ = some (.int .i64 h)) : Calls Try.prog 85 #[brv b] w fun e w' => e = .returned (.int .i64 h) ∧ w' = w := by
  have t1 := ta_bl
  have t2 := ta_bb
  unfold brv at *
  go_enter Try.func85, Try.ntmps85
  go_wp2
  go_ret
  exact ⟨rfl, rfl⟩
theorem heightOf_any (h : Nat) (w : World) (k : Kd) (hk : NodeAt h w k) : Calls Try.prog 85 #[k.v] w fun e w' => e = .returned (.int .i64 h) ∧ w' = w := by
  match h, hk with
  | 1, ⟨b, A, c, q⟩ => rw [q.v]; exact heightOf_leaf b w
  | h + 2, ⟨b, A, c, ks, q, _⟩ => rw [q.v]; exact heightOf_branch b (h + 2) w (raw_bcs q.raw).2.2.2.2.2.2.2
set_option maxHeartbeats 1000000 in
theorem countOf_leaf (b n c : Nat) (A : Option Addr) (w : World) (h0 : w.cell? ⟨b, 0, none⟩ = some (.slice A n c)) : Calls Try.prog 115 #[lfv b] w fun e w' => e = .returned (.int .i64 n) ∧ w' = w := by
  have t1 := ta_ll
  unfold lfv at *
  go_enter Try.func115, Try.ntmps115
  go_wp2
  go_ret
  exact ⟨rfl, rfl⟩
set_option maxHeartbeats 1000000 in
theorem countOf_branch (b n c : Nat) (A : Option Addr) (w : World) (h0 : w.cell? ⟨b, 0, none⟩ = some (.slice A n c)) : Calls Try.prog 115 #[brv b] w fun e w' => e = .returned (.int .i64 n) ∧ w' = w := by
  have t1 := ta_bl
  have t2 := tp_b
  unfold brv at *
  go_enter Try.func115, Try.ntmps115
  go_wp2
  go_ret
  exact ⟨rfl, rfl⟩
theorem countOf_any (h : Nat) (w : World) (k : Kd) (hk : NodeAt h w k) : Calls Try.prog 115 #[k.v] w fun e w' => e = .returned (.int .i64 k.c) ∧ w' = w := by
  match h, hk with
  | 1, ⟨b, A, c, q⟩ => rw [q.v]; exact countOf_leaf b k.c c A w (raw_lcs q.raw).1
  | h + 2, ⟨b, A, c, ks, q, _⟩ => rw [q.v]; exact countOf_branch b k.c c A w (raw_bcs q.raw).1
set_option maxHeartbeats 1000000 in
theorem lsum_any (b n c : Nat) (A : Option Addr) (s : S6) (w : World) (hr : RawAt 130 w b (lcs A n c s)) :
    Calls Try.prog 157 #[.pointer (some ⟨b, 0, none⟩)] w fun e w' => e = .returned (.agg (scs s)) ∧ Below w.heap.size w w' := by
  have hb1 : Below w.heap.size w (w.alloc (.cells (scs s0) 52)) := (Below.refl _ _).alloc (Nat.le_refl _) _
  have h1 := raw_lcs (hr.below hb1 hr.lt)
  have r1 : RawAt 52 (w.alloc (.cells (scs s0) 52)) w.heap.size (scs s0) := heap_alloc_new w _
  have hlt := hr.lt
  obtain ⟨e0, e1, e2, e3, e4, e5, e6⟩ := h1
  have f0 := r1.free 0
  have f1 := r1.free 1
  have f2 := r1.free 2
  have f3 := r1.free 3
  have f4 := r1.free 4
  have f5 := r1.free 5
  have hlt1 := r1.lt
  clear r1 hr
  unfold scs s0 at *
  go_enter Try.func157, Try.ntmps157
  go_wp2
  refine bodyPost_ret (v := .agg #[.int .i64 s.n, .int .i64 s.d0, .int .i64 s.d1, .int .i64 s.d2, .int .i64 s.mx, .int .i64 s.pl]) (by simp [results, Try.results157, go_sem]) rfl ⟨rfl, ?_⟩
  (repeat' (first | (with_reducible exact hb1) | (with_reducible exact Below.refl _ _) | (with_reducible refine Below.setCell ?_ ?_ _) | (with_reducible refine Below.drew ?_) | (with_reducible refine Below.alloc ?_ ?_ _))) <;> first | exact Nat.le_refl _ | (simp; done) | (simp; omega)
set_option maxHeartbeats 1000000 in
theorem bsum_any (b n c h : Nat) (A : Option Addr) (s : S6) (w : World) (hr : RawAt 157 w b (bcs A n c s h)) :
    Calls Try.prog 158 #[.pointer (some ⟨b, 0, none⟩)] w fun e w' => e = .returned (.agg (scs s)) ∧ Below w.heap.size w w' := by
  have hb1 : Below w.heap.size w (w.alloc (.cells (scs s0) 52)) := (Below.refl _ _).alloc (Nat.le_refl _) _
  have h1 := raw_bcs (hr.below hb1 hr.lt)
  have r1 : RawAt 52 (w.alloc (.cells (scs s0) 52)) w.heap.size (scs s0) := heap_alloc_new w _
  have hlt := hr.lt
  obtain ⟨e0, e1, e2, e3, e4, e5, e6, e7⟩ := h1
  have f0 := r1.free 0
  have f1 := r1.free 1
  have f2 := r1.free 2
  have f3 := r1.free 3
  have f4 := r1.free 4
  have f5 := r1.free 5
  have hlt1 := r1.lt
  clear r1 hr
  unfold scs s0 at *
  go_enter Try.func158, Try.ntmps158
  go_wp2
  refine bodyPost_ret (v := .agg #[.int .i64 s.n, .int .i64 s.d0, .int .i64 s.d1, .int .i64 s.d2, .int .i64 s.mx, .int .i64 s.pl]) (by simp [results, Try.results158, go_sem]) rfl ⟨rfl, ?_⟩
  (repeat' (first | (with_reducible exact hb1) | (with_reducible exact Below.refl _ _) | (with_reducible refine Below.setCell ?_ ?_ _) | (with_reducible refine Below.drew ?_) | (with_reducible refine Below.alloc ?_ ?_ _))) <;> first | exact Nat.le_refl _ | (simp; done) | (simp; omega)
/-- What a call of sum through the interface comes to. -/
theorem na_l (f b : Nat) (w : World) : (nilAhead (f + 1) 126 (.pointer (some ⟨b, 0, none⟩)) "bodkin/tree.sum").run Try.prog w = .ok (some false) w := by kernel_rfl
theorem na_b (f b : Nat) (w : World) : (nilAhead (f + 1) 132 (.pointer (some ⟨b, 0, none⟩)) "bodkin/tree.sum").run Try.prog w = .ok (some false) w := by kernel_rfl
theorem me_l (f b : Nat) (w : World) : (method (f + 1) 126 (.pointer (some ⟨b, 0, none⟩)) "bodkin/tree.sum").run Try.prog w = .ok (157, .pointer (some ⟨b, 0, none⟩)) w := by kernel_rfl
theorem me_b (f b : Nat) (w : World) : (method (f + 1) 132 (.pointer (some ⟨b, 0, none⟩)) "bodkin/tree.sum").run Try.prog w = .ok (158, .pointer (some ⟨b, 0, none⟩)) w := by kernel_rfl
end Go.Proofs.Ytbbplppcabeojaa
