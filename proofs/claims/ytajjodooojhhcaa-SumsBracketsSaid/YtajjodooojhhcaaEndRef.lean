/- The contracts of sums.End and of the law's ref. -/
import Derived.Test.YtajjodooojhhcaaOf
namespace Go.Proofs.Ytajjodooojhhcaa
open Go.RowKit
theorem ints_of_block {kd : IntKind} {w : World} {g : Nat} {l : List Int} {cs : Array Value} {t : TypeId} {fz : Nat × Nat} (h : w.heap[g]? = some (.cells cs t fz)) (hc : cs.toList = l.map (.int kd)) : IntsAt kd w (some ⟨g, 0, none⟩) l := by
  intro _
  refine ⟨g, 0, rfl, block_lt h, fun k hk => ?_⟩
  rw [cell_of_row w g _ cs t fz h, ← Array.getElem?_toList, hc, Nat.zero_add]
  simp [nth, List.getD, hk]
set_option maxHeartbeats 1000000 in
theorem end_any (q : Q) (w : World) : Calls Try.prog 15 #[qv q] w fun e w' => e = .returned (.agg #[.int .i64 q.br, .int .i64 q.la]) ∧ Below w.heap.size w w' := by
  unfold qv qcs
  go_enter Try.func15, Try.ntmps15
  go_wp2
  refine bodyPost_ret (v := .agg #[.int .i64 q.br, .int .i64 q.la]) (by simp [results, Try.results15, go_sem]) rfl ⟨rfl, ?_⟩
  (repeat' (first | (with_reducible exact Below.refl _ _) | (with_reducible refine Below.setCell ?_ ?_ _) | (with_reducible refine Below.drew ?_) | (with_reducible refine Below.alloc ?_ ?_ _))) <;> first | exact Nat.le_refl _ | (simp; done) | (simp; omega)
set_option maxHeartbeats 1000000 in
theorem ref_any (q : Q) (w : World) : Calls Try.prog 13 #[qv q] w fun e w' => e = .returned (qv q) ∧ Below w.heap.size w w' := by
  unfold qv qcs
  go_enter Try.func13, Try.ntmps13
  go_wp2
  refine bodyPost_ret (v := .agg #[.int .i64 q.by_, .int .i64 q.ru, .int .i64 q.br, .int .i64 q.fi, .int .i64 q.la, .int .i64 q.lo, .int .i64 q.rw]) (by simp [results, Try.results13, go_sem]) rfl ⟨rfl, ?_⟩
  (repeat' (first | (with_reducible exact Below.refl _ _) | (with_reducible refine Below.setCell ?_ ?_ _) | (with_reducible refine Below.drew ?_) | (with_reducible refine Below.alloc ?_ ?_ _))) <;> first | exact Nat.le_refl _ | (simp; done) | (simp; omega)
set_option maxHeartbeats 1000000 in
theorem two_any (w : World) : Calls Try.prog 11 #[] w fun e w' => e = .returned (.bool true) ∧ Below w.heap.size w w' := by
  go_enter Try.func11, Try.ntmps11
  go_wp2_with fail
  refine (of_any (some ⟨w.heap.size, 0, none⟩) 4 4 [97, 98, 10, 99] _ (ints_of_block (heap_alloc_new w _) rfl) rfl (by omega)).mono ?_
  rintro e w1 ⟨rfl, hb1⟩
  rw [show qof [97, 98, 10, 99] = ⟨4, 4, 1, 2, 1, 2, 0⟩ from Q.ext_ (by decide) (by decide) (by decide) (by decide) (by decide) (by decide) (by decide)]
  unfold qv qcs
  go_wp2_with fail
  go_ret
  exact ⟨rfl, ((Below.refl _ _).alloc (Nat.le_refl _) _).trans (hb1.mono (by simp))⟩
end Go.Proofs.Ytajjodooojhhcaa
