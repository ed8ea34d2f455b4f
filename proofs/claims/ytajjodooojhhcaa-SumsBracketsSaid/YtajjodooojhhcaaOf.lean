/- The sum of runes: the contract of sums.Of. -/
import Derived.Test.YtajjodooojhhcaaTake
namespace Go.Proofs.Ytajjodooojhhcaa
open Go.RowKit
theorem qof_take (l : List Int) {j : Nat} (h : j < l.length) : qof (l.take (j + 1)) = qstep (qof (l.take j)) (nth l j) := by
  rw [List.take_succ_eq_append_getElem h, qof_snoc]
  have e : nth l j = l[j] := by simp [nth, List.getD, h]
  rw [e]
theorem new2 (w : World) (t t' : TypeId) (cs cs' : Array Value) : RawAt t ((w.alloc (.cells cs t)).alloc (.cells cs' t')) w.heap.size cs ∧ RawAt t' ((w.alloc (.cells cs t)).alloc (.cells cs' t')) (w.heap.size + 1) cs' ∧ Below w.heap.size w ((w.alloc (.cells cs t)).alloc (.cells cs' t')) ∧ ((w.alloc (.cells cs t)).alloc (.cells cs' t')).heap.size = w.heap.size + 2 :=
  ⟨heap_alloc2_old w _ _, heap_alloc2_new w _ _, ((Below.refl _ _).alloc (Nat.le_refl _) _).alloc (by simp) _, by simp⟩
/-- A sum, as a value. -/
def qv (q : Q) : Value := .agg (qcs q)
set_option maxHeartbeats 4000000 in
set_option maxRecDepth 100000 in
theorem of_any (A : Option Addr) (n c : Nat) (l : List Int) (w : World) (hA : IntsAt .i32 w A l) (hl : l.length = n) (hn : n ≤ 1000000) :
    Calls Try.prog 12 #[.slice A n c] w fun e w' => e = .returned (qv (qof l)) ∧ Below w.heap.size w w' := by
  have hmf : ∀ (fn : Fn) (first cap : Array Value) (w : World), (Instr.makeFunc fn first cap).run Try.prog w = .ok (.func fn first cap) w := fun _ _ _ _ => rfl
  have HA := Lib.hid hA; clear hA
  have HL := Lib.hid hl; clear hl
  go_enter Try.func12, Try.ntmps12
  go_wp2
  obtain ⟨hr0, hq0, hb0, hs0⟩ := new2 w 25 25 (qcs q0) (qcs q0)
  change Code.wp _ _ _ _ ((w.alloc (.cells (qcs q0) 25)).alloc (.cells (qcs q0) 25))
  generalize ((w.alloc (.cells (qcs q0) 25)).alloc (.cells (qcs q0) 25)) = W1 at *
  have HQ := Lib.hid hq0; clear hq0
  have HR := Lib.hid hr0; clear hr0
  have HS := Lib.hid hs0; clear hs0
  go_loopg [10] n (fun k i wr => ∃ j : Nat, i = .int .i64 j ∧ j ≤ n ∧ n - j ≤ k ∧ Below (w.heap.size + 1) W1 wr ∧ Hid (QAt wr (w.heap.size + 1) (qof (l.take j))))
  case atStart => exact ⟨0, rfl, by omega, by omega, (Below.refl _ _).mono (Nat.le_of_eq rfl), HQ⟩
  case round =>
    obtain ⟨j, rfl, h1, h2, hb, hq⟩ := hrel
    have hsz : w.heap.size + 2 ≤ wr.heap.size := by have := HS.out; have := hb.size; omega
    have hbw := hb0.trans (hb.mono (Nat.le_succ _))
    by_cases hlt : j < n
    · have hm : j < l.length := by rw [HL.out]; exact hlt
      obtain ⟨b, off, rfl, hbs, hc⟩ := HA.out (by omega)
      have q := hc j hm
      clear hc
      obtain ⟨H1, H2⟩ := old_cells hbw
      have HM := Lib.hid hm; clear hm
      have hok := qof_ok (l.take j)
      have hlj : (l.take j).length ≤ 1000000000 := by have := List.length_take_le j l; omega
      have HK := Lib.hid hok; clear hok
      go_wp2_with fail
      refine (take_any _ _ _ _ (by omega) HK.out _ hq.out).mono ?_
      rintro e w1 ⟨rfl, hq1, hb1⟩
      rw [← qof_take l HM.out] at hq1
      have HQ1 := Lib.hid hq1; clear hq1
      go_wp2_with fail
      go_roundg (gk - 1)
      case measure => omega
      case rel => exact ⟨j + 1, by go_num, by omega, by omega, hb.trans hb1, HQ1⟩
    · rw [List.take_of_length_le (by rw [HL.out]; omega)] at hq
      have hr1 := HR.out.below hb (Nat.lt_succ_self _)
      obtain ⟨c0, c1, c2, c3, c4, c5, c6⟩ := hq.out.cells
      obtain ⟨r0, r1, r2, r3, r4, r5, r6⟩ := QAt.cells hr1
      have f0 := hr1.free 0
      have f1 := hr1.free 1
      have f2 := hr1.free 2
      have f3 := hr1.free 3
      have f4 := hr1.free 4
      have f5 := hr1.free 5
      have f6 := hr1.free 6
      go_wp2
      refine bodyPost_ret (v := qv (qof l)) ?_ rfl ⟨rfl, ?_⟩
      · simp [results, Try.results12, go_sem, qv, qcs, r0, r1, r2, r3, r4, r5, r6]
      · exact ((((((hbw.setCell (p := ⟨w.heap.size, _, none⟩) (Nat.le_refl _) _).setCell (p := ⟨w.heap.size, _, none⟩) (Nat.le_refl _) _).setCell (p := ⟨w.heap.size, _, none⟩) (Nat.le_refl _) _).setCell (p := ⟨w.heap.size, _, none⟩) (Nat.le_refl _) _).setCell (p := ⟨w.heap.size, _, none⟩) (Nat.le_refl _) _).setCell (p := ⟨w.heap.size, _, none⟩) (Nat.le_refl _) _).setCell (p := ⟨w.heap.size, _, none⟩) (Nat.le_refl _) _
end Go.Proofs.Ytajjodooojhhcaa
