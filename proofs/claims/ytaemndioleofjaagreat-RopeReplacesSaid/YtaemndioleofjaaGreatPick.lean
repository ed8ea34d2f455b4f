/- An item by its index: the contract of tree.pick. -/
import Derived.Test.YtaemndioleofjaaGreatCutP
namespace Go.Proofs.YtaemndioleofjaaGreat
open Go.RowKit
set_option maxHeartbeats 4000000 in
set_option maxRecDepth 100000 in
theorem pick_leaf (k : Kd) (i : Nat) (w : World) (hk : NodeAt 1 w k) (hi : i < k.l.length) :
    Calls Tryz.prog 103 #[k.v, .int .i64 i] w fun e w' => e = .returned (.agg (ics (ith k.l i))) ∧ Below w.heap.size w w' := by
  obtain ⟨b, A, c, q⟩ := hk
  have t1 := ta_ll
  have hb1 : Below w.heap.size w (w.alloc (.cells (ics ⟨0, 0, 0, 0, 0, 0, ⟨#[]⟩⟩) 101)) := (Below.refl _ _).alloc (Nat.le_refl _) _
  have r1 : RawAt 101 (w.alloc (.cells (ics ⟨0, 0, 0, 0, 0, 0, ⟨#[]⟩⟩) 101)) w.heap.size (ics ⟨0, 0, 0, 0, 0, 0, ⟨#[]⟩⟩) := heap_alloc_new w _
  have e0 := (raw_lcs (q.raw.below hb1 q.raw.lt)).1
  obtain ⟨bA, off, rfl, hbA, hcell⟩ := (q.its.below hb1) (by omega)
  obtain ⟨d0, d1, d2, d3, d4, d5, d6⟩ := hcell i hi
  have hic : i < k.c := by rw [← q.len]; exact hi
  have hic2 : (i : Int) < (k.c : Int) := by omega
  have hic3 : (0 : Int) ≤ (i : Int) := by omega
  have f0 := r1.free 0
  have f1 := r1.free 1
  have f2 := r1.free 2
  have f3 := r1.free 3
  have f4 := r1.free 4
  have f5 := r1.free 5
  have f6 := r1.free 6
  have hlt1 := r1.lt
  rw [q.v]
  clear q hcell r1
  generalize ith k.l i = x at *
  unfold lfv ics at *
  go_enter Tryz.func103, Tryz.ntmps103
  go_wp2
  refine bodyPost_ret (v := .agg #[.int .i64 x.tag, .int .i64 x.id, .int .i64 x.d0, .int .i64 x.d1, .int .i64 x.d2, .int .i64 x.mx, .string x.tx]) (by simp [results, Tryz.results103, go_sem]) rfl ⟨rfl, ?_⟩
  (repeat' (first | (with_reducible exact hb1) | (with_reducible exact Below.refl _ _) | (with_reducible refine Below.setCell ?_ ?_ _) | (with_reducible refine Below.drew ?_) | (with_reducible refine Below.alloc ?_ ?_ _))) <;> first | exact Nat.le_refl _ | (simp; done) | (simp; omega)
theorem ith_fl (ks : List Kd) {j r : Nat} (hj : j < ks.length) (hr : r < (kth ks j).l.length) : ith (fl ks) (sz ks j + r) = ith (kth ks j).l r := by
  have e1 : fl ks = fl (ks.take j) ++ ((kth ks j).l ++ fl (ks.drop (j + 1))) := by
    rw [← List.append_assoc, ← fl_take ks hj, ← fl_append, List.take_append_drop]
  have hl : (fl (ks.take j)).length = sz ks j := rfl
  unfold ith
  rw [e1]
  simp only [List.getD]
  rw [List.getElem?_append_right (by omega), hl, Nat.add_sub_cancel_left, List.getElem?_append_left hr]
set_option maxHeartbeats 8000000 in
set_option maxRecDepth 100000 in
theorem pick_bl (k : Kd) (i : Nat) (w : World) (hk : NodeAt (0 + 2) w k) (hi : i < k.l.length) (hz : k.l.length ≤ 100000)
    (IH : ∀ (j : Kd) (W : World) (i : Nat), NodeAt (1) W j → i < j.l.length → j.l.length ≤ 100000 → Calls Tryz.prog 103 #[j.v, .int .i64 i] W fun e w' => e = .returned (.agg (ics (ith j.l i))) ∧ Below W.heap.size W w') :
    Calls Tryz.prog 103 #[k.v, .int .i64 i] w fun e w' => e = .returned (.agg (ics (ith k.l i))) ∧ Below w.heap.size w w' := by
  obtain ⟨b, A, c, ks, q, r⟩ := hk
  have t1 := ta_bl
  have t2 := tp_b
  have t3 := me_l
  have tf := fld_n
  have hb1 : Below w.heap.size w (w.alloc (.cells (ics ⟨0, 0, 0, 0, 0, 0, ⟨#[]⟩⟩) 101)) := (Below.refl _ _).alloc (Nat.le_refl _) _
  have r1 : RawAt 101 (w.alloc (.cells (ics ⟨0, 0, 0, 0, 0, 0, ⟨#[]⟩⟩) 101)) w.heap.size (ics ⟨0, 0, 0, 0, 0, 0, ⟨#[]⟩⟩) := heap_alloc_new w _
  have e0 := (raw_bcs (q.raw.below hb1 q.raw.lt)).1
  have HA := Lib.hid q.kids
  have HL := Lib.hid q.len
  have hn8 := q.most
  have HR := Lib.hid (show Row (1) w ks from fun x hx => (r x hx).1)
  have hfl := q.fl
  rw [q.v]
  rw [← hfl] at hi hz ⊢
  have HI := Lib.hid IH
  clear q r hfl IH
  generalize k.c = n at *
  unfold brv at *
  unfold ics at hb1 r1 e0
  go_enter Tryz.func103, Tryz.ntmps103
  go_wp2_with fail
  have W1def : ∃ W1, W1 = w.alloc (.cells #[.int .i64 0, .int .i64 0, .int .i64 0, .int .i64 0, .int .i64 0, .int .i64 0, .string ⟨#[]⟩] 101) := ⟨_, rfl⟩
  obtain ⟨W1, hW1⟩ := W1def
  rw [← hW1] at hb1 r1 e0 ⊢
  have hs1 : W1.heap.size = w.heap.size + 1 := by rw [hW1]; simp
  clear hW1
  have HR1 := Lib.hid r1; clear r1 e0
  have HS1 := Lib.hid hs1; clear hs1
  have hn0 : 0 < n := Nat.pos_of_ne_zero (fun h0 => by
    have e1 : ks = [] := List.eq_nil_of_length_eq_zero (by rw [HL.out, h0])
    rw [e1] at hi
    exact absurd hi (by simp [fl]))
  go_loopg [1, 8] n (fun g iv kv wr => ∃ j r : Nat, iv = .int .i64 r ∧ kv = .int .i64 j ∧ j < n ∧ n - j ≤ g ∧ Below W1.heap.size W1 wr ∧ Hid (sz ks j + r = i))
  case atStart => exact ⟨0, i, rfl, rfl, hn0, by omega, Below.refl _ _, by rw [sz_zero, Nat.zero_add]; exact Lib.hid rfl⟩
  case round =>
    obtain ⟨j, r, rfl, rfl, hlt, g2, hb, hS⟩ := hrel
    have hm : j < ks.length := by rw [HL.out]; exact hlt
    have hbw := hb1.trans (hb.mono hb1.size)
    obtain ⟨bA, off, rfl, hbA, hcell⟩ := HA.out (by rw [kvs_length]; omega)
    have EK := Lib.hid fun (W : World) (hW : Below w.heap.size w W) => ((old_cells hW).1 _ _ hbA).trans ((hcell j (by rw [kvs_length]; exact hm)).trans (by rw [vth_kvs ks hm]))
    clear hcell
    have hK := HR.out _ (kth_mem ks hm)
    have es := sz_succ ks hm
    have esl := sz_le ks (j + 1)
    have CC := Lib.hid fun (W : World) (hW : Below w.heap.size w W) (h2 : r < (kth ks j).l.length) => HI.out (kth ks j) W r (hK.below hW) h2 (by omega)
    obtain ⟨bk, Ak, ck, qk⟩ := hK
    obtain ⟨N, hN⟩ : ∃ N, N = (kth ks j).l.length := ⟨_, rfl⟩
    have CS := Lib.hid fun (W : World) (hW : Below w.heap.size w W) => lsum_n bk (kth ks j).c ck N Ak _ (by rw [hN]; exact sall_n _ qk.ok) W (qk.raw.below hW qk.raw.lt)
    have HIth := Lib.hid fun (h2 : r < (kth ks j).l.length) => ith_fl ks hm h2
    have Hend := Lib.hid (show N ≤ r → j + 1 < n from fun h => by
      rcases Nat.lt_or_eq_of_le (show j + 1 ≤ n from hlt) with h3 | h3
      · exact h3
      · exfalso
        have e1 : ks.take (j + 1) = ks := List.take_of_length_le (by rw [HL.out]; omega)
        have e2 : sz ks (j + 1) = (fl ks).length := by unfold sz; rw [e1]
        have := hS.out
        omega)
    rw [← hN] at es CC HIth
    rw [qk.v] at EK CC
    clear qk hN
    generalize sall (kth ks j).l = s at *
    have hrb : r ≤ 100000 := by have := hS.out; omega
    unfold lfv at *
    have eK := EK.out _ hbw
    have hj0 : (0 : Int) ≤ (j : Int) := by omega
    have hjn : (j : Int) < (n : Int) := by omega
    go_wp2_with fail
    refine (CS.out _ hbw).mono ?_
    rintro e w2 ⟨rfl, hb2⟩
    have a2 := hb.trans (hb2.mono hb.size)
    have aw2 := hb1.trans (a2.mono hb1.size)
    have eK2 := EK.out _ aw2
    by_cases hge : N ≤ r
    · obtain ⟨r', hr'⟩ : ∃ r', r = N + r' := ⟨r - N, by omega⟩
      have HS' : Hid (sz ks (j + 1) + r' = i) := by have := hS.out; show _ = _; omega
      have hend := Hend.out hge
      subst hr'
      have hsub : IntKind.i64.wrap (((N + r' : Nat) : Int) - (N : Int)) = (r' : Int) := by rw [IntWalk.i64_in _ (by omega)]; omega
      go_wp2_with fail
      refine (CS.out _ aw2).mono ?_
      rintro e w3 ⟨rfl, hb3⟩
      have a3 := a2.trans (hb3.mono a2.size)
      go_wp2_with fail
      go_roundg (gk - 1)
      case measure => omega
      case rel => exact ⟨j + 1, r', by go_num, by go_num, hend, by omega, a3, HS'⟩
    · have hlt2 : r < N := by omega
      have CP := Lib.hid (CC.out _ aw2 hlt2)
      have HX := Lib.hid (HIth.out hlt2)
      rw [hS.out] at HX
      rw [← HX.out] at CP
      generalize hx : ith (fl ks) i = x at *
      have HXX := Lib.hid hx; clear hx
      unfold ics at CP
      go_wp2_with fail
      refine CP.out.mono ?_
      rintro e w3 ⟨rfl, hb3⟩
      have a3 := a2.trans (hb3.mono a2.size)
      have aw3 := aw2.trans (hb3.mono aw2.size)
      have r3 := HR1.out.below a3 HR1.out.lt
      have f0 := r3.free 0
      have f1 := r3.free 1
      have f2 := r3.free 2
      have f3 := r3.free 3
      have f4 := r3.free 4
      have f5 := r3.free 5
      have f6 := r3.free 6
      obtain ⟨d0, d1, d2, d3, d4, d5, d6⟩ := raw_ics (i := ⟨0, 0, 0, 0, 0, 0, ⟨#[]⟩⟩) r3
      go_wp2
      refine bodyPost_ret (v := .agg #[.int .i64 x.tag, .int .i64 x.id, .int .i64 x.d0, .int .i64 x.d1, .int .i64 x.d2, .int .i64 x.mx, .string x.tx]) (by simp [results, Tryz.results103, go_sem, d0, d1, d2, d3, d4, d5, d6]) rfl ⟨by rw [HXX.out]; rfl, ?_⟩
      (repeat' (first | (with_reducible exact aw3) | (with_reducible refine Below.setCell ?_ ?_ _) | (with_reducible refine Below.drew ?_))) <;> first | exact Nat.le_refl _ | (simp; done) | (simp; omega)
set_option maxHeartbeats 8000000 in
set_option maxRecDepth 100000 in
theorem pick_bb (h : Nat) (k : Kd) (i : Nat) (w : World) (hk : NodeAt (h + 1 + 2) w k) (hi : i < k.l.length) (hz : k.l.length ≤ 100000)
    (IH : ∀ (j : Kd) (W : World) (i : Nat), NodeAt (h + 2) W j → i < j.l.length → j.l.length ≤ 100000 → Calls Tryz.prog 103 #[j.v, .int .i64 i] W fun e w' => e = .returned (.agg (ics (ith j.l i))) ∧ Below W.heap.size W w') :
    Calls Tryz.prog 103 #[k.v, .int .i64 i] w fun e w' => e = .returned (.agg (ics (ith k.l i))) ∧ Below w.heap.size w w' := by
  obtain ⟨b, A, c, ks, q, r⟩ := hk
  have t1 := ta_bl
  have t2 := tp_b
  have t3 := me_b
  have tf := fld_n
  have hb1 : Below w.heap.size w (w.alloc (.cells (ics ⟨0, 0, 0, 0, 0, 0, ⟨#[]⟩⟩) 101)) := (Below.refl _ _).alloc (Nat.le_refl _) _
  have r1 : RawAt 101 (w.alloc (.cells (ics ⟨0, 0, 0, 0, 0, 0, ⟨#[]⟩⟩) 101)) w.heap.size (ics ⟨0, 0, 0, 0, 0, 0, ⟨#[]⟩⟩) := heap_alloc_new w _
  have e0 := (raw_bcs (q.raw.below hb1 q.raw.lt)).1
  have HA := Lib.hid q.kids
  have HL := Lib.hid q.len
  have hn8 := q.most
  have HR := Lib.hid (show Row (h + 2) w ks from fun x hx => (r x hx).1)
  have hfl := q.fl
  rw [q.v]
  rw [← hfl] at hi hz ⊢
  have HI := Lib.hid IH
  clear q r hfl IH
  generalize k.c = n at *
  unfold brv at *
  unfold ics at hb1 r1 e0
  go_enter Tryz.func103, Tryz.ntmps103
  go_wp2_with fail
  have W1def : ∃ W1, W1 = w.alloc (.cells #[.int .i64 0, .int .i64 0, .int .i64 0, .int .i64 0, .int .i64 0, .int .i64 0, .string ⟨#[]⟩] 101) := ⟨_, rfl⟩
  obtain ⟨W1, hW1⟩ := W1def
  rw [← hW1] at hb1 r1 e0 ⊢
  have hs1 : W1.heap.size = w.heap.size + 1 := by rw [hW1]; simp
  clear hW1
  have HR1 := Lib.hid r1; clear r1 e0
  have HS1 := Lib.hid hs1; clear hs1
  have hn0 : 0 < n := Nat.pos_of_ne_zero (fun h0 => by
    have e1 : ks = [] := List.eq_nil_of_length_eq_zero (by rw [HL.out, h0])
    rw [e1] at hi
    exact absurd hi (by simp [fl]))
  go_loopg [1, 8] n (fun g iv kv wr => ∃ j r : Nat, iv = .int .i64 r ∧ kv = .int .i64 j ∧ j < n ∧ n - j ≤ g ∧ Below W1.heap.size W1 wr ∧ Hid (sz ks j + r = i))
  case atStart => exact ⟨0, i, rfl, rfl, hn0, by omega, Below.refl _ _, by rw [sz_zero, Nat.zero_add]; exact Lib.hid rfl⟩
  case round =>
    obtain ⟨j, r, rfl, rfl, hlt, g2, hb, hS⟩ := hrel
    have hm : j < ks.length := by rw [HL.out]; exact hlt
    have hbw := hb1.trans (hb.mono hb1.size)
    obtain ⟨bA, off, rfl, hbA, hcell⟩ := HA.out (by rw [kvs_length]; omega)
    have EK := Lib.hid fun (W : World) (hW : Below w.heap.size w W) => ((old_cells hW).1 _ _ hbA).trans ((hcell j (by rw [kvs_length]; exact hm)).trans (by rw [vth_kvs ks hm]))
    clear hcell
    have hK := HR.out _ (kth_mem ks hm)
    have es := sz_succ ks hm
    have esl := sz_le ks (j + 1)
    have CC := Lib.hid fun (W : World) (hW : Below w.heap.size w W) (h2 : r < (kth ks j).l.length) => HI.out (kth ks j) W r (hK.below hW) h2 (by omega)
    obtain ⟨bk, Ak, ck, kk, qk, rk⟩ := hK
    obtain ⟨N, hN⟩ : ∃ N, N = (kth ks j).l.length := ⟨_, rfl⟩
    have CS := Lib.hid fun (W : World) (hW : Below w.heap.size w W) => bsum_n bk (kth ks j).c ck (h + 2) N Ak _ (by rw [hN]; exact sall_n _ qk.ok) W (qk.raw.below hW qk.raw.lt)
    have HIth := Lib.hid fun (h2 : r < (kth ks j).l.length) => ith_fl ks hm h2
    have Hend := Lib.hid (show N ≤ r → j + 1 < n from fun h => by
      rcases Nat.lt_or_eq_of_le (show j + 1 ≤ n from hlt) with h3 | h3
      · exact h3
      · exfalso
        have e1 : ks.take (j + 1) = ks := List.take_of_length_le (by rw [HL.out]; omega)
        have e2 : sz ks (j + 1) = (fl ks).length := by unfold sz; rw [e1]
        have := hS.out
        omega)
    rw [← hN] at es CC HIth
    rw [qk.v] at EK CC
    clear qk hN rk
    generalize sall (kth ks j).l = s at *
    have hrb : r ≤ 100000 := by have := hS.out; omega
    unfold brv at *
    have eK := EK.out _ hbw
    have hj0 : (0 : Int) ≤ (j : Int) := by omega
    have hjn : (j : Int) < (n : Int) := by omega
    go_wp2_with fail
    refine (CS.out _ hbw).mono ?_
    rintro e w2 ⟨rfl, hb2⟩
    have a2 := hb.trans (hb2.mono hb.size)
    have aw2 := hb1.trans (a2.mono hb1.size)
    have eK2 := EK.out _ aw2
    by_cases hge : N ≤ r
    · obtain ⟨r', hr'⟩ : ∃ r', r = N + r' := ⟨r - N, by omega⟩
      have HS' : Hid (sz ks (j + 1) + r' = i) := by have := hS.out; show _ = _; omega
      have hend := Hend.out hge
      subst hr'
      have hsub : IntKind.i64.wrap (((N + r' : Nat) : Int) - (N : Int)) = (r' : Int) := by rw [IntWalk.i64_in _ (by omega)]; omega
      go_wp2_with fail
      refine (CS.out _ aw2).mono ?_
      rintro e w3 ⟨rfl, hb3⟩
      have a3 := a2.trans (hb3.mono a2.size)
      go_wp2_with fail
      go_roundg (gk - 1)
      case measure => omega
      case rel => exact ⟨j + 1, r', by go_num, by go_num, hend, by omega, a3, HS'⟩
    · have hlt2 : r < N := by omega
      have CP := Lib.hid (CC.out _ aw2 hlt2)
      have HX := Lib.hid (HIth.out hlt2)
      rw [hS.out] at HX
      rw [← HX.out] at CP
      generalize hx : ith (fl ks) i = x at *
      have HXX := Lib.hid hx; clear hx
      unfold ics at CP
      go_wp2_with fail
      refine CP.out.mono ?_
      rintro e w3 ⟨rfl, hb3⟩
      have a3 := a2.trans (hb3.mono a2.size)
      have aw3 := aw2.trans (hb3.mono aw2.size)
      have r3 := HR1.out.below a3 HR1.out.lt
      have f0 := r3.free 0
      have f1 := r3.free 1
      have f2 := r3.free 2
      have f3 := r3.free 3
      have f4 := r3.free 4
      have f5 := r3.free 5
      have f6 := r3.free 6
      obtain ⟨d0, d1, d2, d3, d4, d5, d6⟩ := raw_ics (i := ⟨0, 0, 0, 0, 0, 0, ⟨#[]⟩⟩) r3
      go_wp2
      refine bodyPost_ret (v := .agg #[.int .i64 x.tag, .int .i64 x.id, .int .i64 x.d0, .int .i64 x.d1, .int .i64 x.d2, .int .i64 x.mx, .string x.tx]) (by simp [results, Tryz.results103, go_sem, d0, d1, d2, d3, d4, d5, d6]) rfl ⟨by rw [HXX.out]; rfl, ?_⟩
      (repeat' (first | (with_reducible exact aw3) | (with_reducible refine Below.setCell ?_ ?_ _) | (with_reducible refine Below.drew ?_))) <;> first | exact Nat.le_refl _ | (simp; done) | (simp; omega)
theorem pick_any : ∀ (h : Nat) (k : Kd) (w : World) (i : Nat), NodeAt h w k → i < k.l.length → k.l.length ≤ 100000 →
    Calls Tryz.prog 103 #[k.v, .int .i64 i] w fun e w' => e = .returned (.agg (ics (ith k.l i))) ∧ Below w.heap.size w w' := by
  intro h
  induction h with
  | zero => intro k w i hk; exact hk.elim
  | succ h ih =>
    intro k w i hk hi hz
    match h, hk, ih with
    | 0, hk, _ => exact pick_leaf k i w hk hi
    | 1, hk, ih => exact pick_bl k i w hk hi hz (fun j W i a1 a2 a3 => ih j W i a1 a2 a3)
    | h + 2, hk, ih => exact pick_bb h k i w hk hi hz (fun j W i a1 a2 a3 => ih j W i a1 a2 a3)
end Go.Proofs.YtaemndioleofjaaGreat
