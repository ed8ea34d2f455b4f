/- A part of a tree: the contract of tree.cut, over that of tree.cutBranch. A part of a tree: the contract of tree.cutBranch. An item by its index: the contract of tree.pick. -/
import Derived.Test.YtpnjokhhbjpciaaGreatDoorTop
namespace Go.Proofs.YtpnjokhhbjpciaaGreatDoor
open Go.RowKit
theorem sall_n (l : List I7) (ho : Okl l) : (sall l).n = (l.length : Int) := (sall_ok _ l rfl ho).1
theorem lsum_n (b n c N : Nat) (A : Option Addr) (s : S6) (hN : s.n = (N : Int)) (w : World) (hr : RawAt 223 w b (lcs A n c s)) :
    Calls Tryz.prog 200 #[.pointer (some ⟨b, 0, none⟩)] w fun e w' => e = .returned (.agg #[.int .i64 N, .int .i64 s.d0, .int .i64 s.d1, .int .i64 s.d2, .int .i64 s.mx, .int .i64 s.pl]) ∧ Below w.heap.size w w' := by
  have := lsum_any b n c A s w hr
  unfold scs at this
  rwa [hN] at this
theorem bsum_n (b n c h N : Nat) (A : Option Addr) (s : S6) (hN : s.n = (N : Int)) (w : World) (hr : RawAt 251 w b (bcs A n c s h)) :
    Calls Tryz.prog 201 #[.pointer (some ⟨b, 0, none⟩)] w fun e w' => e = .returned (.agg #[.int .i64 N, .int .i64 s.d0, .int .i64 s.d1, .int .i64 s.d2, .int .i64 s.mx, .int .i64 s.pl]) ∧ Below w.heap.size w w' := by
  have := bsum_any b n c h A s w hr
  unfold scs at this
  rwa [hN] at this
theorem fld_n (a b c d e g : Int) (w : World) : (Instr.field 129 (.agg #[.int .i64 a, .int .i64 b, .int .i64 c, .int .i64 d, .int .i64 e, .int .i64 g]) 0).run Tryz.prog w = .ok (.int .i64 a) w := by kernel_rfl
set_option maxHeartbeats 4000000 in
set_option maxRecDepth 100000 in
theorem cut_none (v : Value) (x : Nat) (w : World) : Calls Tryz.prog 110 #[v, .int .i64 x, .int .i64 x] w fun e w' => e = .returned .nilIface ∧ w' = w := by
  go_enter Tryz.func110, Tryz.ntmps110
  go_wp2
  go_ret
  exact ⟨rfl, rfl⟩
set_option maxHeartbeats 4000000 in
set_option maxRecDepth 100000 in
/-- The whole of a node. -/
theorem cut_all_leaf (k : Kd) (w : World) (N : Nat) (hN : N = k.l.length) (hp : 0 < N) (hk : NodeAt 1 w k) :
    Calls Tryz.prog 110 #[k.v, .int .i64 0, .int .i64 N] w fun e w' => e = .returned k.v ∧ Below w.heap.size w w' := by
  obtain ⟨b, A, c, q⟩ := hk
  have t1 := me_l
  have tf := fld_n
  have C1 := Lib.hid (lsum_n b k.c c N A _ (by rw [hN]; exact sall_n _ q.ok) w q.raw)
  have i1 : ((0 : Int) == (N : Int)) = false := by simp; omega
  rw [q.v]
  clear q hN
  unfold lfv
  go_enter Tryz.func110, Tryz.ntmps110
  go_wp2_with fail
  refine C1.out.mono ?_
  rintro e w1 ⟨rfl, hb1⟩
  go_wp2
  go_ret
  exact ⟨rfl, hb1⟩
set_option maxHeartbeats 4000000 in
set_option maxRecDepth 100000 in
/-- The whole of a node. -/
theorem cut_all_br (h : Nat) (k : Kd) (w : World) (N : Nat) (hN : N = k.l.length) (hp : 0 < N) (hk : NodeAt (h + 2) w k) :
    Calls Tryz.prog 110 #[k.v, .int .i64 0, .int .i64 N] w fun e w' => e = .returned k.v ∧ Below w.heap.size w w' := by
  obtain ⟨b, A, c, ks, q, hq⟩ := hk
  have t1 := me_b
  have tf := fld_n
  have C1 := Lib.hid (bsum_n b k.c c (h + 2) N A _ (by rw [hN]; exact sall_n _ q.ok) w q.raw)
  have i1 : ((0 : Int) == (N : Int)) = false := by simp; omega
  rw [q.v]
  clear q hq hN
  unfold brv
  go_enter Tryz.func110, Tryz.ntmps110
  go_wp2_with fail
  refine C1.out.mono ?_
  rintro e w1 ⟨rfl, hb1⟩
  go_wp2
  go_ret
  exact ⟨rfl, hb1⟩
set_option maxHeartbeats 4000000 in
set_option maxRecDepth 100000 in
theorem cut_leaf (k : Kd) (x y : Nat) (w : World) (hk : NodeAt 1 w k) (hx : x < y) (hy : y ≤ k.l.length) (hne : ¬ (x = 0 ∧ y = k.l.length)) :
    Calls Tryz.prog 110 #[k.v, .int .i64 x, .int .i64 y] w fun e w' => ∃ v, e = .returned v ∧ NodeAt 1 w' ⟨v, (k.l.drop x).take (y - x), y - x⟩ ∧ Below w.heap.size w w' := by
  have hz := hk.cnt
  obtain ⟨b, A, c, q⟩ := hk
  have t1 := me_l
  have t2 := ta_ll
  have tf := fld_n
  obtain ⟨N, hN⟩ : ∃ N, N = k.l.length := ⟨_, rfl⟩
  have C1 := Lib.hid (lsum_n b k.c c N A _ (by rw [hN]; exact sall_n _ q.ok) w q.raw)
  have hlen := q.len
  have hcap := q.caps
  have E := Lib.hid fun (W : World) (hW : Below w.heap.size w W) => (raw_lcs (q.raw.below hW q.raw.lt)).1
  have e0 := E.out w (Below.refl _ _)
  have hxc : ¬ c = x := by have := hcap.1; omega
  have hI := q.its.cut (show k.l.length = k.c from hlen) hcap.1 x (y - x) (by omega)
  have hC := hcap.cut x (y - x) (by omega)
  simp only [cutI, if_neg hxc] at hI hC
  have CL := Lib.hid fun (W : World) (hW : Below w.heap.size w W) => newLeaf_any (A.map (·.add (x * 7))) (y - x) (c - x) _ W (hI.below hW) (by rw [List.length_take, List.length_drop]; omega) (by omega) (by omega) hC (fun i hi => q.ok i (List.mem_of_mem_drop (List.mem_of_mem_take hi)))
  obtain ⟨i1, hi1, _, _, _⟩ := info_parts item_info
  have s1 : ∀ W : World, (Instr.slice 138 (.slice A k.c c) (some (.int .i64 x)) (some (.int .i64 y)) none).run Tryz.prog W = .ok (.slice (A.map (·.add (x * 7))) (y - x) (c - x)) W := fun W => by
    have := cut_both7 (P := Tryz.prog) Tryz.underlying138 hi1 (by kernel_rfl) A k.c c x y (by omega) (by have := hcap.1; omega) W
    rwa [cutI, if_neg hxc] at this
  have s2 : ∀ W : World, (Instr.slice 138 (.slice A k.c c) (some (.int .i64 0)) (some (.int .i64 y)) none).run Tryz.prog W = .ok (.slice (A.map (·.add (x * 7))) (y - x) (c - x)) W ∨ x ≠ 0 := fun W => by
    by_cases h0 : x = 0
    · subst h0; exact .inl (s1 W)
    · exact .inr h0
  have hxy : ((x : Int) == (y : Int)) = false := by simp; omega
  have hyN : x = 0 → ((y : Int) == (N : Int)) = false := fun h => by simp; omega
  have hNy : x = 0 → ((N : Int) == (y : Int)) = false := fun h => by simp; omega
  have hyc : y ≤ c := by have := hcap.1; omega
  have hxy2 : x ≤ y := by omega
  rw [q.v]
  clear q hN hne hlen hI hC hcap hy hx
  generalize (k.l.drop x).take (y - x) = l at *
  by_cases hx0 : x = 0
  · subst hx0
    have hyN := hyN rfl
    have hNy := hNy rfl
    have s3 := fun W => (s2 W).resolve_right (fun h => h rfl)
    have i0 : ((0 : Int) == (y : Int)) = false := hxy
    clear s2 s1
    generalize hAA : A.map (·.add (0 * 7)) = AA at *
    generalize hcc : c - 0 = cc at *
    generalize hyy : y - 0 = yy at *
    clear hAA hcc hyy
    unfold lfv at *
    go_enter Tryz.func110, Tryz.ntmps110
    go_wp2_with fail
    refine C1.out.mono ?_
    rintro e w1 ⟨rfl, hb1⟩
    have e1 := E.out w1 hb1
    go_wp2_with fail
    refine (CL.out _ hb1).mono ?_
    rintro e w2 ⟨b2, rfl, hN2, hb2⟩
    have HN := Lib.hid (hN2 w2 (Agr.self _ _)); clear hN2
    go_wp2
    go_ret
    exact ⟨_, rfl, HN.out, hb1.trans (hb2.mono hb1.size)⟩
  · have i0 : ((x : Int) == 0) = false := by simp; omega
    clear s2 hyN hNy
    generalize hAA : A.map (·.add (x * 7)) = AA at *
    generalize hcc : c - x = cc at *
    generalize hyy : y - x = yy at *
    clear hAA hcc hyy
    unfold lfv at *
    go_enter Tryz.func110, Tryz.ntmps110
    go_wp2_with fail
    refine (CL.out _ (Below.refl _ _)).mono ?_
    rintro e w2 ⟨b2, rfl, hN2, hb2⟩
    have HN := Lib.hid (hN2 w2 (Agr.self _ _)); clear hN2
    go_wp2
    go_ret
    exact ⟨_, rfl, HN.out, hb2⟩
/-- How many items the first nodes have. -/
def sz (ks : List Kd) (j : Nat) : Nat := (fl (ks.take j)).length
theorem sz_zero (ks : List Kd) : sz ks 0 = 0 := rfl
theorem sz_succ (ks : List Kd) {j : Nat} (h : j < ks.length) : sz ks (j + 1) = sz ks j + (kth ks j).l.length := by unfold sz; rw [fl_take ks h, List.length_append]
theorem sz_le (ks : List Kd) (j : Nat) : sz ks j ≤ (fl ks).length := by
  unfold sz
  have e : fl ks = fl (ks.take j) ++ fl (ks.drop j) := by rw [← fl_append, List.take_append_drop]
  rw [e, List.length_append]
  omega
theorem lst_front (L K : List I7) (x y a : Nat) (ha : L.length = a) (hx : a ≤ x) : ((L ++ K).take y).drop x = (K.drop (x - a)).take (min (y - a) K.length - (x - a)) := by
  rw [List.drop_take, List.drop_append, ha, List.drop_eq_nil_of_le (by omega), List.nil_append, List.take_eq_take_iff, List.length_drop]
  omega
theorem lst_whole (L K : List I7) (x y a : Nat) (ha : L.length = a) (hx : x ≤ a) (hy : a + K.length ≤ y) : ((L ++ K).take y).drop x = (L.take y).drop x ++ K := by
  have e1 : (L ++ K).take y = L ++ K := List.take_of_length_le (by rw [List.length_append]; omega)
  have e2 : L.take y = L := List.take_of_length_le (by omega)
  rw [e1, e2, List.drop_append_of_le_length (by omega)]
theorem lst_back (L K : List I7) (x y a : Nat) (ha : L.length = a) (hx : x ≤ a) (hy : a ≤ y) : ((L ++ K).take y).drop x = (L.take y).drop x ++ K.take (y - a) := by
  have e2 : L.take y = L := List.take_of_length_le (by omega)
  rw [List.take_append, e2, ha, List.drop_append_of_le_length (by omega)]
/-- What was gathered of the first j nodes. -/
def CI (w wr : World) (ks : List Kd) (x y j : Nat) (fv bv v : Value) : Prop :=
  ∃ (wf : World) (f g : List I7) (m : List Kd) (hf hb : Nat),
    Below w.heap.size w wf ∧ Below wf.heap.size wf wr ∧ Top wf fv f hf ∧ Top wr bv g hb ∧ wr.ownsRow wf.heap.size 183 1 v m.length (kvs m) ∧ (∀ κ ∈ m, κ ∈ ks) ∧ m.length ≤ j ∧
    f ++ fl m ++ g = ((fl (ks.take j)).take y).drop x ∧ (sz ks j ≤ x → v = .slice none 0 0 ∧ m = [] ∧ fv = .nilIface ∧ f = []) ∧ (sz ks j < y → bv = .nilIface ∧ g = [])
theorem CI.start (w : World) (ks : List Kd) (x y : Nat) : CI w w ks x y 0 .nilIface .nilIface (.slice none 0 0) :=
  ⟨w, [], [], [], 0, 0, Below.refl _ _, Below.refl _ _, .inl ⟨rfl, rfl, rfl⟩, .inl ⟨rfl, rfl, rfl⟩, World.ownsRow_nil _ _ _ _, fun κ h => absurd h (by simp), Nat.le_refl _, by simp [fl], fun _ => ⟨rfl, rfl, rfl, rfl⟩, fun _ => ⟨rfl, rfl⟩⟩
theorem CI.below {w wr wr' : World} {ks : List Kd} {x y j : Nat} {fv bv v : Value} (hc : CI w wr ks x y j fv bv v) (hb : Below wr.heap.size wr wr') : CI w wr' ks x y j fv bv v := by
  obtain ⟨wf, f, g, m, hf, hg, h1, h2, h3, h4, h5, h6⟩ := hc
  exact ⟨wf, f, g, m, hf, hg, h1, h2.trans (hb.mono h2.size), h3, h4.below hb, own_below h5 hb, h6⟩
theorem CI.toBelow {w wr : World} {ks : List Kd} {x y j : Nat} {fv bv v : Value} (hc : CI w wr ks x y j fv bv v) : Below w.heap.size w wr := by
  obtain ⟨wf, f, g, m, hf, hg, h1, h2, _⟩ := hc
  exact h1.trans (h2.mono h1.size)
/-- A node that has none of them. -/
theorem CI.skip {w wr : World} {ks : List Kd} {x y j : Nat} {fv bv v : Value} (hc : CI w wr ks x y j fv bv v) (hj : j < ks.length) (h : sz ks (j + 1) ≤ x ∨ y ≤ sz ks j) (hp : 1 ≤ (kth ks j).l.length) : CI w wr ks x y (j + 1) fv bv v := by
  obtain ⟨wf, f, g, m, hf, hg, h1, h2, h3, h4, h5, h6, h7, h8, h9, h10⟩ := hc
  have e := sz_succ ks hj
  refine ⟨wf, f, g, m, hf, hg, h1, h2, h3, h4, h5, h6, by omega, ?_, fun ha => ?_, fun ha => ?_⟩
  · rw [h8, fl_take ks hj]
    have hl : (fl (ks.take j)).length = sz ks j := rfl
    rcases h with h | h
    · rw [List.drop_eq_nil_of_le (by rw [List.length_take]; omega), List.drop_eq_nil_of_le (by rw [List.length_take, List.length_append]; omega)]
    · rw [List.take_append_of_le_length (by omega)]
  · exact h9 (by omega)
  · rcases h with h | h
    · exact h10 (by omega)
    · omega
/-- A node that is taken whole. -/
theorem CI.whole {w wr' : World} {ks : List Kd} {x y j : Nat} {fv bv v' : Value} {wf : World} {f g : List I7} {m : List Kd} {hf : Nat}
    (h1 : Below w.heap.size w wf) (h2 : Below wf.heap.size wf wr') (h3 : Top wf fv f hf) (h5 : wr'.ownsRow wf.heap.size 183 1 v' (m.length + 1) (kvs m ++ [(kth ks j).v])) (h6 : ∀ κ ∈ m, κ ∈ ks) (h7 : m.length ≤ j)
    (h8 : f ++ fl m ++ g = ((fl (ks.take j)).take y).drop x) (h10 : sz ks j < y → bv = .nilIface ∧ g = []) (hj : j < ks.length) (hx : x ≤ sz ks j) (hy : sz ks (j + 1) ≤ y) (hp : 1 ≤ (kth ks j).l.length) : CI w wr' ks x y (j + 1) fv bv v' := by
  have e := sz_succ ks hj
  obtain ⟨rfl, rfl⟩ := h10 (by omega)
  have hl : (fl (ks.take j)).length = sz ks j := rfl
  have h11 : (m ++ [kth ks j]).length = m.length + 1 := by rw [List.length_append]; rfl
  refine ⟨wf, f, [], m ++ [kth ks j], hf, 0, h1, h2, h3, .inl ⟨rfl, rfl, rfl⟩, ?_, fun κ hk => ?_, by omega, ?_, fun ha => by omega, fun _ => ⟨rfl, rfl⟩⟩
  · rw [h11, kvs_append]; exact h5
  · rcases List.mem_append.1 hk with hk | hk
    · exact h6 κ hk
    · rw [List.mem_singleton.1 hk]; exact kth_mem ks hj
  · rw [List.append_nil] at h8
    rw [fl_take ks hj, lst_whole _ _ x y _ hl hx (by omega), fl_append, fl_one, List.append_nil, ← List.append_assoc, h8]
/-- A node of which the later items are taken. -/
theorem CI.front {w wr wr' : World} {ks : List Kd} {x y j : Nat} {fv bv v fv' : Value} {hf : Nat} (hc : CI w wr ks x y j fv bv v) (hb : Below wr.heap.size wr wr') (hj : j < ks.length) (hx : sz ks j < x) (hxy : x < y) (hy : x < sz ks (j + 1))
    (hT : Top wr' fv' (((kth ks j).l.drop (x - sz ks j)).take (min (y - sz ks j) (kth ks j).l.length - (x - sz ks j))) hf) : CI w wr' ks x y (j + 1) fv' bv v := by
  have hbw := hc.toBelow
  obtain ⟨wf, f, g, m, hf', hg, h1, h2, h3, h4, h5, h6, h7, h8, h9, h10⟩ := hc
  have e := sz_succ ks hj
  obtain ⟨rfl, rfl, rfl, rfl⟩ := h9 (by omega)
  obtain ⟨rfl, rfl⟩ := h10 (by omega)
  have hl : (fl (ks.take j)).length = sz ks j := rfl
  refine ⟨wr', _, [], [], hf, 0, hbw.trans (hb.mono hbw.size), Below.refl _ _, hT, .inl ⟨rfl, rfl, rfl⟩, World.ownsRow_nil _ _ _ _, h6, by simp, ?_, fun ha => by omega, fun _ => ⟨rfl, rfl⟩⟩
  rw [fl_take ks hj, lst_front _ _ x y _ hl (by omega)]
  simp [fl]
/-- A node of which the first items are taken. -/
theorem CI.back {w wr wr' : World} {ks : List Kd} {x y j : Nat} {fv bv v bv' : Value} {hb' : Nat} (hc : CI w wr ks x y j fv bv v) (hb : Below wr.heap.size wr wr') (hj : j < ks.length) (hx : x ≤ sz ks j) (ha : sz ks j < y) (hy : y < sz ks (j + 1))
    (hT : Top wr' bv' (((kth ks j).l.drop 0).take (y - sz ks j - 0)) hb') : CI w wr' ks x y (j + 1) fv bv' v := by
  obtain ⟨wf, f, g, m, hf', hg, h1, h2, h3, h4, h5, h6, h7, h8, h9, h10⟩ := hc
  have e := sz_succ ks hj
  obtain ⟨rfl, rfl⟩ := h10 ha
  have hl : (fl (ks.take j)).length = sz ks j := rfl
  refine ⟨wf, f, _, m, hf', hb', h1, h2.trans (hb.mono h2.size), h3, hT, own_below h5 hb, h6, by omega, ?_, fun h => by omega, fun h => by omega⟩
  rw [List.append_nil] at h8
  rw [h8, fl_take ks hj, lst_back _ _ x y _ hl hx (by omega)]
  simp
set_option maxHeartbeats 4000000 in
set_option maxRecDepth 100000 in
theorem pick_leaf (k : Kd) (i : Nat) (w : World) (hk : NodeAt 1 w k) (hi : i < k.l.length) :
    Calls Tryz.prog 159 #[k.v, .int .i64 i] w fun e w' => e = .returned (.agg (ics (ith k.l i))) ∧ Below w.heap.size w w' := by
  obtain ⟨b, A, c, q⟩ := hk
  have t1 := ta_ll
  have hb1 : Below w.heap.size w (w.alloc (.cells (ics ⟨0, 0, 0, 0, 0, 0, ⟨#[]⟩⟩) 162)) := (Below.refl _ _).alloc (Nat.le_refl _) _
  have r1 : RawAt 162 (w.alloc (.cells (ics ⟨0, 0, 0, 0, 0, 0, ⟨#[]⟩⟩) 162)) w.heap.size (ics ⟨0, 0, 0, 0, 0, 0, ⟨#[]⟩⟩) := heap_alloc_new w _
  have e0 := (raw_lcs (q.raw.below hb1 q.raw.lt)).1
  obtain ⟨bA, off, rfl, hbA, hcell⟩ := (q.its.below hb1) (by omega)
  obtain ⟨d0, d1, d2, d3, d4, d5, d6⟩ := hcell i hi
  have hic : i < k.c := by rw [← q.len]; exact hi
  have hic2 : (i : Int) < (k.c : Int) := by omega
  have hic3 : (0 : Int) ≤ (i : Int) := by omega
  have f0 := r1.free 0
  have f1 := r1.free 1
  have f2 := r1.free 2
  have f3 := r1.free 3
  have f4 := r1.free 4
  have f5 := r1.free 5
  have f6 := r1.free 6
  have hlt1 := r1.lt
  rw [q.v]
  clear q hcell r1
  generalize ith k.l i = x at *
  unfold lfv ics at *
  go_enter Tryz.func159, Tryz.ntmps159
  go_wp2
  refine bodyPost_ret (v := .agg #[.int .i64 x.tag, .int .i64 x.id, .int .i64 x.d0, .int .i64 x.d1, .int .i64 x.d2, .int .i64 x.mx, .string x.tx]) (by simp [results, Tryz.results159, go_sem]) rfl ⟨rfl, ?_⟩
  (repeat' (first | (with_reducible exact hb1) | (with_reducible exact Below.refl _ _) | (with_reducible refine Below.setCell ?_ ?_ _) | (with_reducible refine Below.drew ?_) | (with_reducible refine Below.alloc ?_ ?_ _))) <;> first | exact Nat.le_refl _ | (simp; done) | (simp; omega)
theorem ith_fl (ks : List Kd) {j r : Nat} (hj : j < ks.length) (hr : r < (kth ks j).l.length) : ith (fl ks) (sz ks j + r) = ith (kth ks j).l r := by
  have e1 : fl ks = fl (ks.take j) ++ ((kth ks j).l ++ fl (ks.drop (j + 1))) := by
    rw [← List.append_assoc, ← fl_take ks hj, ← fl_append, List.take_append_drop]
  have hl : (fl (ks.take j)).length = sz ks j := rfl
  unfold ith
  rw [e1]
  simp only [List.getD]
  rw [List.getElem?_append_right (by omega), hl, Nat.add_sub_cancel_left, List.getElem?_append_left hr]
set_option maxHeartbeats 8000000 in
set_option maxRecDepth 100000 in
theorem pick_bl (k : Kd) (i : Nat) (w : World) (hk : NodeAt (0 + 2) w k) (hi : i < k.l.length) (hz : k.l.length ≤ 100000)
    (IH : ∀ (j : Kd) (W : World) (i : Nat), NodeAt (1) W j → i < j.l.length → j.l.length ≤ 100000 → Calls Tryz.prog 159 #[j.v, .int .i64 i] W fun e w' => e = .returned (.agg (ics (ith j.l i))) ∧ Below W.heap.size W w') :
    Calls Tryz.prog 159 #[k.v, .int .i64 i] w fun e w' => e = .returned (.agg (ics (ith k.l i))) ∧ Below w.heap.size w w' := by
  obtain ⟨b, A, c, ks, q, r⟩ := hk
  have t1 := ta_bl
  have t2 := tp_b
  have t3 := me_l
  have tf := fld_n
  have hb1 : Below w.heap.size w (w.alloc (.cells (ics ⟨0, 0, 0, 0, 0, 0, ⟨#[]⟩⟩) 162)) := (Below.refl _ _).alloc (Nat.le_refl _) _
  have r1 : RawAt 162 (w.alloc (.cells (ics ⟨0, 0, 0, 0, 0, 0, ⟨#[]⟩⟩) 162)) w.heap.size (ics ⟨0, 0, 0, 0, 0, 0, ⟨#[]⟩⟩) := heap_alloc_new w _
  have e0 := (raw_bcs (q.raw.below hb1 q.raw.lt)).1
  have HA := Lib.hid q.kids
  have HL := Lib.hid q.len
  have hn8 := q.most
  have HR := Lib.hid (show Row (1) w ks from fun x hx => (r x hx).1)
  have hfl := q.fl
  rw [q.v]
  rw [← hfl] at hi hz ⊢
  have HI := Lib.hid IH
  clear q r hfl IH
  generalize k.c = n at *
  unfold brv at *
  unfold ics at hb1 r1 e0
  go_enter Tryz.func159, Tryz.ntmps159
  go_wp2_with fail
  have W1def : ∃ W1, W1 = w.alloc (.cells #[.int .i64 0, .int .i64 0, .int .i64 0, .int .i64 0, .int .i64 0, .int .i64 0, .string ⟨#[]⟩] 162) := ⟨_, rfl⟩
  obtain ⟨W1, hW1⟩ := W1def
  rw [← hW1] at hb1 r1 e0 ⊢
  have hs1 : W1.heap.size = w.heap.size + 1 := by rw [hW1]; simp
  clear hW1
  have HR1 := Lib.hid r1; clear r1 e0
  have HS1 := Lib.hid hs1; clear hs1
  have hn0 : 0 < n := Nat.pos_of_ne_zero (fun h0 => by
    have e1 : ks = [] := List.eq_nil_of_length_eq_zero (by rw [HL.out, h0])
    rw [e1] at hi
    exact absurd hi (by simp [fl]))
  go_loopg [1, 8] n (fun g iv kv wr => ∃ j r : Nat, iv = .int .i64 r ∧ kv = .int .i64 j ∧ j < n ∧ n - j ≤ g ∧ Below W1.heap.size W1 wr ∧ Hid (sz ks j + r = i))
  case atStart => exact ⟨0, i, rfl, rfl, hn0, by omega, Below.refl _ _, by rw [sz_zero, Nat.zero_add]; exact Lib.hid rfl⟩
  case round =>
    obtain ⟨j, r, rfl, rfl, hlt, g2, hb, hS⟩ := hrel
    have hm : j < ks.length := by rw [HL.out]; exact hlt
    have hbw := hb1.trans (hb.mono hb1.size)
    obtain ⟨bA, off, rfl, hbA, hcell⟩ := HA.out (by rw [kvs_length]; omega)
    have EK := Lib.hid fun (W : World) (hW : Below w.heap.size w W) => ((old_cells hW).1 _ _ hbA).trans ((hcell j (by rw [kvs_length]; exact hm)).trans (by rw [vth_kvs ks hm]))
    clear hcell
    have hK := HR.out _ (kth_mem ks hm)
    have es := sz_succ ks hm
    have esl := sz_le ks (j + 1)
    have CC := Lib.hid fun (W : World) (hW : Below w.heap.size w W) (h2 : r < (kth ks j).l.length) => HI.out (kth ks j) W r (hK.below hW) h2 (by omega)
    obtain ⟨bk, Ak, ck, qk⟩ := hK
    obtain ⟨N, hN⟩ : ∃ N, N = (kth ks j).l.length := ⟨_, rfl⟩
    have CS := Lib.hid fun (W : World) (hW : Below w.heap.size w W) => lsum_n bk (kth ks j).c ck N Ak _ (by rw [hN]; exact sall_n _ qk.ok) W (qk.raw.below hW qk.raw.lt)
    have HIth := Lib.hid fun (h2 : r < (kth ks j).l.length) => ith_fl ks hm h2
    have Hend := Lib.hid (show N ≤ r → j + 1 < n from fun h => by
      rcases Nat.lt_or_eq_of_le (show j + 1 ≤ n from hlt) with h3 | h3
      · exact h3
      · exfalso
        have e1 : ks.take (j + 1) = ks := List.take_of_length_le (by rw [HL.out]; omega)
        have e2 : sz ks (j + 1) = (fl ks).length := by unfold sz; rw [e1]
        have := hS.out
        omega)
    rw [← hN] at es CC HIth
    rw [qk.v] at EK CC
    clear qk hN
    generalize sall (kth ks j).l = s at *
    have hrb : r ≤ 100000 := by have := hS.out; omega
    unfold lfv at *
    have eK := EK.out _ hbw
    have hj0 : (0 : Int) ≤ (j : Int) := by omega
    have hjn : (j : Int) < (n : Int) := by omega
    go_wp2_with fail
    refine (CS.out _ hbw).mono ?_
    rintro e w2 ⟨rfl, hb2⟩
    have a2 := hb.trans (hb2.mono hb.size)
    have aw2 := hb1.trans (a2.mono hb1.size)
    have eK2 := EK.out _ aw2
    by_cases hge : N ≤ r
    · obtain ⟨r', hr'⟩ : ∃ r', r = N + r' := ⟨r - N, by omega⟩
      have HS' : Hid (sz ks (j + 1) + r' = i) := by have := hS.out; show _ = _; omega
      have hend := Hend.out hge
      subst hr'
      have hsub : IntKind.i64.wrap (((N + r' : Nat) : Int) - (N : Int)) = (r' : Int) := by rw [IntWalk.i64_in _ (by omega)]; omega
      go_wp2_with fail
      refine (CS.out _ aw2).mono ?_
      rintro e w3 ⟨rfl, hb3⟩
      have a3 := a2.trans (hb3.mono a2.size)
      go_wp2_with fail
      go_roundg (gk - 1)
      case measure => omega
      case rel => exact ⟨j + 1, r', by go_num, by go_num, hend, by omega, a3, HS'⟩
    · have hlt2 : r < N := by omega
      have CP := Lib.hid (CC.out _ aw2 hlt2)
      have HX := Lib.hid (HIth.out hlt2)
      rw [hS.out] at HX
      rw [← HX.out] at CP
      generalize hx : ith (fl ks) i = x at *
      have HXX := Lib.hid hx; clear hx
      unfold ics at CP
      go_wp2_with fail
      refine CP.out.mono ?_
      rintro e w3 ⟨rfl, hb3⟩
      have a3 := a2.trans (hb3.mono a2.size)
      have aw3 := aw2.trans (hb3.mono aw2.size)
      have r3 := HR1.out.below a3 HR1.out.lt
      have f0 := r3.free 0
      have f1 := r3.free 1
      have f2 := r3.free 2
      have f3 := r3.free 3
      have f4 := r3.free 4
      have f5 := r3.free 5
      have f6 := r3.free 6
      obtain ⟨d0, d1, d2, d3, d4, d5, d6⟩ := raw_ics (i := ⟨0, 0, 0, 0, 0, 0, ⟨#[]⟩⟩) r3
      go_wp2
      refine bodyPost_ret (v := .agg #[.int .i64 x.tag, .int .i64 x.id, .int .i64 x.d0, .int .i64 x.d1, .int .i64 x.d2, .int .i64 x.mx, .string x.tx]) (by simp [results, Tryz.results159, go_sem, d0, d1, d2, d3, d4, d5, d6]) rfl ⟨by rw [HXX.out]; rfl, ?_⟩
      (repeat' (first | (with_reducible exact aw3) | (with_reducible refine Below.setCell ?_ ?_ _) | (with_reducible refine Below.drew ?_))) <;> first | exact Nat.le_refl _ | (simp; done) | (simp; omega)
set_option maxHeartbeats 8000000 in
set_option maxRecDepth 100000 in
theorem pick_bb (h : Nat) (k : Kd) (i : Nat) (w : World) (hk : NodeAt (h + 1 + 2) w k) (hi : i < k.l.length) (hz : k.l.length ≤ 100000)
    (IH : ∀ (j : Kd) (W : World) (i : Nat), NodeAt (h + 2) W j → i < j.l.length → j.l.length ≤ 100000 → Calls Tryz.prog 159 #[j.v, .int .i64 i] W fun e w' => e = .returned (.agg (ics (ith j.l i))) ∧ Below W.heap.size W w') :
    Calls Tryz.prog 159 #[k.v, .int .i64 i] w fun e w' => e = .returned (.agg (ics (ith k.l i))) ∧ Below w.heap.size w w' := by
  obtain ⟨b, A, c, ks, q, r⟩ := hk
  have t1 := ta_bl
  have t2 := tp_b
  have t3 := me_b
  have tf := fld_n
  have hb1 : Below w.heap.size w (w.alloc (.cells (ics ⟨0, 0, 0, 0, 0, 0, ⟨#[]⟩⟩) 162)) := (Below.refl _ _).alloc (Nat.le_refl _) _
  have r1 : RawAt 162 (w.alloc (.cells (ics ⟨0, 0, 0, 0, 0, 0, ⟨#[]⟩⟩) 162)) w.heap.size (ics ⟨0, 0, 0, 0, 0, 0, ⟨#[]⟩⟩) := heap_alloc_new w _
  have e0 := (raw_bcs (q.raw.below hb1 q.raw.lt)).1
  have HA := Lib.hid q.kids
  have HL := Lib.hid q.len
  have hn8 := q.most
  have HR := Lib.hid (show Row (h + 2) w ks from fun x hx => (r x hx).1)
  have hfl := q.fl
  rw [q.v]
  rw [← hfl] at hi hz ⊢
  have HI := Lib.hid IH
  clear q r hfl IH
  generalize k.c = n at *
  unfold brv at *
  unfold ics at hb1 r1 e0
  go_enter Tryz.func159, Tryz.ntmps159
  go_wp2_with fail
  have W1def : ∃ W1, W1 = w.alloc (.cells #[.int .i64 0, .int .i64 0, .int .i64 0, .int .i64 0, .int .i64 0, .int .i64 0, .string ⟨#[]⟩] 162) := ⟨_, rfl⟩
  obtain ⟨W1, hW1⟩ := W1def
  rw [← hW1] at hb1 r1 e0 ⊢
  have hs1 : W1.heap.size = w.heap.size + 1 := by rw [hW1]; simp
  clear hW1
  have HR1 := Lib.hid r1; clear r1 e0
  have HS1 := Lib.hid hs1; clear hs1
  have hn0 : 0 < n := Nat.pos_of_ne_zero (fun h0 => by
    have e1 : ks = [] := List.eq_nil_of_length_eq_zero (by rw [HL.out, h0])
    rw [e1] at hi
    exact absurd hi (by simp [fl]))
  go_loopg [1, 8] n (fun g iv kv wr => ∃ j r : Nat, iv = .int .i64 r ∧ kv = .int .i64 j ∧ j < n ∧ n - j ≤ g ∧ Below W1.heap.size W1 wr ∧ Hid (sz ks j + r = i))
  case atStart => exact ⟨0, i, rfl, rfl, hn0, by omega, Below.refl _ _, by rw [sz_zero, Nat.zero_add]; exact Lib.hid rfl⟩
  case round =>
    obtain ⟨j, r, rfl, rfl, hlt, g2, hb, hS⟩ := hrel
    have hm : j < ks.length := by rw [HL.out]; exact hlt
    have hbw := hb1.trans (hb.mono hb1.size)
    obtain ⟨bA, off, rfl, hbA, hcell⟩ := HA.out (by rw [kvs_length]; omega)
    have EK := Lib.hid fun (W : World) (hW : Below w.heap.size w W) => ((old_cells hW).1 _ _ hbA).trans ((hcell j (by rw [kvs_length]; exact hm)).trans (by rw [vth_kvs ks hm]))
    clear hcell
    have hK := HR.out _ (kth_mem ks hm)
    have es := sz_succ ks hm
    have esl := sz_le ks (j + 1)
    have CC := Lib.hid fun (W : World) (hW : Below w.heap.size w W) (h2 : r < (kth ks j).l.length) => HI.out (kth ks j) W r (hK.below hW) h2 (by omega)
    obtain ⟨bk, Ak, ck, kk, qk, rk⟩ := hK
    obtain ⟨N, hN⟩ : ∃ N, N = (kth ks j).l.length := ⟨_, rfl⟩
    have CS := Lib.hid fun (W : World) (hW : Below w.heap.size w W) => bsum_n bk (kth ks j).c ck (h + 2) N Ak _ (by rw [hN]; exact sall_n _ qk.ok) W (qk.raw.below hW qk.raw.lt)
    have HIth := Lib.hid fun (h2 : r < (kth ks j).l.length) => ith_fl ks hm h2
    have Hend := Lib.hid (show N ≤ r → j + 1 < n from fun h => by
      rcases Nat.lt_or_eq_of_le (show j + 1 ≤ n from hlt) with h3 | h3
      · exact h3
      · exfalso
        have e1 : ks.take (j + 1) = ks := List.take_of_length_le (by rw [HL.out]; omega)
        have e2 : sz ks (j + 1) = (fl ks).length := by unfold sz; rw [e1]
        have := hS.out
        omega)
    rw [← hN] at es CC HIth
    rw [qk.v] at EK CC
    clear qk hN rk
    generalize sall (kth ks j).l = s at *
    have hrb : r ≤ 100000 := by have := hS.out; omega
    unfold brv at *
    have eK := EK.out _ hbw
    have hj0 : (0 : Int) ≤ (j : Int) := by omega
    have hjn : (j : Int) < (n : Int) := by omega
    go_wp2_with fail
    refine (CS.out _ hbw).mono ?_
    rintro e w2 ⟨rfl, hb2⟩
    have a2 := hb.trans (hb2.mono hb.size)
    have aw2 := hb1.trans (a2.mono hb1.size)
    have eK2 := EK.out _ aw2
    by_cases hge : N ≤ r
    · obtain ⟨r', hr'⟩ : ∃ r', r = N + r' := ⟨r - N, by omega⟩
      have HS' : Hid (sz ks (j + 1) + r' = i) := by have := hS.out; show _ = _; omega
      have hend := Hend.out hge
      subst hr'
      have hsub : IntKind.i64.wrap (((N + r' : Nat) : Int) - (N : Int)) = (r' : Int) := by rw [IntWalk.i64_in _ (by omega)]; omega
      go_wp2_with fail
      refine (CS.out _ aw2).mono ?_
      rintro e w3 ⟨rfl, hb3⟩
      have a3 := a2.trans (hb3.mono a2.size)
      go_wp2_with fail
      go_roundg (gk - 1)
      case measure => omega
      case rel => exact ⟨j + 1, r', by go_num, by go_num, hend, by omega, a3, HS'⟩
    · have hlt2 : r < N := by omega
      have CP := Lib.hid (CC.out _ aw2 hlt2)
      have HX := Lib.hid (HIth.out hlt2)
      rw [hS.out] at HX
      rw [← HX.out] at CP
      generalize hx : ith (fl ks) i = x at *
      have HXX := Lib.hid hx; clear hx
      unfold ics at CP
      go_wp2_with fail
      refine CP.out.mono ?_
      rintro e w3 ⟨rfl, hb3⟩
      have a3 := a2.trans (hb3.mono a2.size)
      have aw3 := aw2.trans (hb3.mono aw2.size)
      have r3 := HR1.out.below a3 HR1.out.lt
      have f0 := r3.free 0
      have f1 := r3.free 1
      have f2 := r3.free 2
      have f3 := r3.free 3
      have f4 := r3.free 4
      have f5 := r3.free 5
      have f6 := r3.free 6
      obtain ⟨d0, d1, d2, d3, d4, d5, d6⟩ := raw_ics (i := ⟨0, 0, 0, 0, 0, 0, ⟨#[]⟩⟩) r3
      go_wp2
      refine bodyPost_ret (v := .agg #[.int .i64 x.tag, .int .i64 x.id, .int .i64 x.d0, .int .i64 x.d1, .int .i64 x.d2, .int .i64 x.mx, .string x.tx]) (by simp [results, Tryz.results159, go_sem, d0, d1, d2, d3, d4, d5, d6]) rfl ⟨by rw [HXX.out]; rfl, ?_⟩
      (repeat' (first | (with_reducible exact aw3) | (with_reducible refine Below.setCell ?_ ?_ _) | (with_reducible refine Below.drew ?_))) <;> first | exact Nat.le_refl _ | (simp; done) | (simp; omega)
theorem pick_any : ∀ (h : Nat) (k : Kd) (w : World) (i : Nat), NodeAt h w k → i < k.l.length → k.l.length ≤ 100000 →
    Calls Tryz.prog 159 #[k.v, .int .i64 i] w fun e w' => e = .returned (.agg (ics (ith k.l i))) ∧ Below w.heap.size w w' := by
  intro h
  induction h with
  | zero => intro k w i hk; exact hk.elim
  | succ h ih =>
    intro k w i hk hi hz
    match h, hk, ih with
    | 0, hk, _ => exact pick_leaf k i w hk hi
    | 1, hk, ih => exact pick_bl k i w hk hi hz (fun j W i a1 a2 a3 => ih j W i a1 a2 a3)
    | h + 2, hk, ih => exact pick_bb h k i w hk hi hz (fun j W i a1 a2 a3 => ih j W i a1 a2 a3)
end Go.Proofs.YtpnjokhhbjpciaaGreatDoor
