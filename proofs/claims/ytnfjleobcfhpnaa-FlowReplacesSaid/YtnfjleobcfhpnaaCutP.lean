/- A part of a tree: the contract of tree.cut, over that of tree.cutBranch. A part of a tree: the contract of tree.cutBranch. An item by its index: the contract of tree.pick. -/
import Derived.Test.YtnfjleobcfhpnaaTop
namespace Go.Proofs.Ytnfjleobcfhpnaa
open Go.RowKit
theorem sall_n (l : List I7) (ho : Okl l) : (sall l).n = (l.length : Int) := (sall_ok _ l rfl ho).1
theorem lsum_n (b n c N : Nat) (A : Option Addr) (s : S6) (hN : s.n = (N : Int)) (w : World) (hr : RawAt 164 w b (lcs A n c s)) :
    Calls Try.prog 147 #[.pointer (some ⟨b, 0, none⟩)] w fun e w' => e = .returned (.agg #[.int .i64 N, .int .i64 s.d0, .int .i64 s.d1, .int .i64 s.d2, .int .i64 s.mx, .int .i64 s.pl]) ∧ Below w.heap.size w w' := by
  have := lsum_any b n c A s w hr
  unfold scs at this
  rwa [hN] at this
theorem bsum_n (b n c h N : Nat) (A : Option Addr) (s : S6) (hN : s.n = (N : Int)) (w : World) (hr : RawAt 183 w b (bcs A n c s h)) :
    Calls Try.prog 148 #[.pointer (some ⟨b, 0, none⟩)] w fun e w' => e = .returned (.agg #[.int .i64 N, .int .i64 s.d0, .int .i64 s.d1, .int .i64 s.d2, .int .i64 s.mx, .int .i64 s.pl]) ∧ Below w.heap.size w w' := by
  have := bsum_any b n c h A s w hr
  unfold scs at this
  rwa [hN] at this
theorem fld_n (a b c d e g : Int) (w : World) : (Instr.field 128 (.agg #[.int .i64 a, .int .i64 b, .int .i64 c, .int .i64 d, .int .i64 e, .int .i64 g]) 0).run Try.prog w = .ok (.int .i64 a) w := by kernel_rfl
set_option maxHeartbeats 4000000 in
set_option maxRecDepth 100000 in
theorem cut_none (v : Value) (x : Nat) (w : World) : Calls Try.prog 76 #[v, .int .i64 x, .int .i64 x] w fun e w' => e = .returned .nilIface ∧ w' = w := by
  go_enter Try.func76, Try.ntmps76
  go_wp2
  go_ret
  exact ⟨rfl, rfl⟩
set_option maxHeartbeats 4000000 in
set_option maxRecDepth 100000 in
/-- The whole of a node. -/
theorem cut_all_leaf (k : Kd) (w : World) (N : Nat) (hN : N = k.l.length) (hp : 0 < N) (hk : NodeAt 1 w k) :
    Calls Try.prog 76 #[k.v, .int .i64 0, .int .i64 N] w fun e w' => e = .returned k.v ∧ Below w.heap.size w w' := by
  obtain ⟨b, A, c, q⟩ := hk
  have t1 := me_l
  have tf := fld_n
  have C1 := Lib.hid (lsum_n b k.c c N A _ (by rw [hN]; exact sall_n _ q.ok) w q.raw)
  have i1 : ((0 : Int) == (N : Int)) = false := by simp; omega
  rw [q.v]
  clear q hN
  unfold lfv
  go_enter Try.func76, Try.ntmps76
  go_wp2_with fail
  refine C1.out.mono ?_
  rintro e w1 ⟨rfl, hb1⟩
  go_wp2
  go_ret
  exact ⟨rfl, hb1⟩
set_option maxHeartbeats 4000000 in
set_option maxRecDepth 100000 in
/-- The whole of a node. -/
theorem cut_all_br (h : Nat) (k : Kd) (w : World) (N : Nat) (hN : N = k.l.length) (hp : 0 < N) (hk : NodeAt (h + 2) w k) :
    Calls Try.prog 76 #[k.v, .int .i64 0, .int .i64 N] w fun e w' => e = .returned k.v ∧ Below w.heap.size w w' := by
  obtain ⟨b, A, c, ks, q, hq⟩ := hk
  have t1 := me_b
  have tf := fld_n
  have C1 := Lib.hid (bsum_n b k.c c (h + 2) N A _ (by rw [hN]; exact sall_n _ q.ok) w q.raw)
  have i1 : ((0 : Int) == (N : Int)) = false := by simp; omega
  rw [q.v]
  clear q hq hN
  unfold brv
  go_enter Try.func76, Try.ntmps76
  go_wp2_with fail
  refine C1.out.mono ?_
  rintro e w1 ⟨rfl, hb1⟩
  go_wp2
  go_ret
  exact ⟨rfl, hb1⟩
set_option maxHeartbeats 4000000 in
set_option maxRecDepth 100000 in
theorem cut_leaf (k : Kd) (x y : Nat) (w : World) (hk : NodeAt 1 w k) (hx : x < y) (hy : y ≤ k.l.length) (hne : ¬ (x = 0 ∧ y = k.l.length)) :
    Calls Try.prog 76 #[k.v, .int .i64 x, .int .i64 y] w fun e w' => ∃ v, e = .returned v ∧ NodeAt 1 w' ⟨v, (k.l.drop x).take (y - x), y - x⟩ ∧ Below w.heap.size w w' := by
  have hz := hk.cnt
  obtain ⟨b, A, c, q⟩ := hk
  have t1 := me_l
  have t2 := ta_ll
  have tf := fld_n
  obtain ⟨N, hN⟩ : ∃ N, N = k.l.length := ⟨_, rfl⟩
  have C1 := Lib.hid (lsum_n b k.c c N A _ (by rw [hN]; exact sall_n _ q.ok) w q.raw)
  have hlen := q.len
  have hcap := q.caps
  have E := Lib.hid fun (W : World) (hW : Below w.heap.size w W) => (raw_lcs (q.raw.below hW q.raw.lt)).1
  have e0 := E.out w (Below.refl _ _)
  have hxc : ¬ c = x := by have := hcap.1; omega
  have hI := q.its.cut (show k.l.length = k.c from hlen) hcap.1 x (y - x) (by omega)
  have hC := hcap.cut x (y - x) (by omega)
  simp only [cutI, if_neg hxc] at hI hC
  have CL := Lib.hid fun (W : World) (hW : Below w.heap.size w W) => newLeaf_any (A.map (·.add (x * 7))) (y - x) (c - x) _ W (hI.below hW) (by rw [List.length_take, List.length_drop]; omega) (by omega) (by omega) hC (fun i hi => q.ok i (List.mem_of_mem_drop (List.mem_of_mem_take hi)))
  obtain ⟨i1, hi1, _, _, _⟩ := info_parts item_info
  have s1 : ∀ W : World, (Instr.slice 106 (.slice A k.c c) (some (.int .i64 x)) (some (.int .i64 y)) none).run Try.prog W = .ok (.slice (A.map (·.add (x * 7))) (y - x) (c - x)) W := fun W => by
    have := cut_both7 (P := Try.prog) Try.underlying106 hi1 (by kernel_rfl) A k.c c x y (by omega) (by have := hcap.1; omega) W
    rwa [cutI, if_neg hxc] at this
  have s2 : ∀ W : World, (Instr.slice 106 (.slice A k.c c) (some (.int .i64 0)) (some (.int .i64 y)) none).run Try.prog W = .ok (.slice (A.map (·.add (x * 7))) (y - x) (c - x)) W ∨ x ≠ 0 := fun W => by
    by_cases h0 : x = 0
    · subst h0; exact .inl (s1 W)
    · exact .inr h0
  have hxy : ((x : Int) == (y : Int)) = false := by simp; omega
  have hyN : x = 0 → ((y : Int) == (N : Int)) = false := fun h => by simp; omega
  have hNy : x = 0 → ((N : Int) == (y : Int)) = false := fun h => by simp; omega
  have hyc : y ≤ c := by have := hcap.1; omega
  have hxy2 : x ≤ y := by omega
  rw [q.v]
  clear q hN hne hlen hI hC hcap hy hx
  generalize (k.l.drop x).take (y - x) = l at *
  by_cases hx0 : x = 0
  · subst hx0
    have hyN := hyN rfl
    have hNy := hNy rfl
    have s3 := fun W => (s2 W).resolve_right (fun h => h rfl)
    have i0 : ((0 : Int) == (y : Int)) = false := hxy
    clear s2 s1
    generalize hAA : A.map (·.add (0 * 7)) = AA at *
    generalize hcc : c - 0 = cc at *
    generalize hyy : y - 0 = yy at *
    clear hAA hcc hyy
    unfold lfv at *
    go_enter Try.func76, Try.ntmps76
    go_wp2_with fail
    refine C1.out.mono ?_
    rintro e w1 ⟨rfl, hb1⟩
    have e1 := E.out w1 hb1
    go_wp2_with fail
    refine (CL.out _ hb1).mono ?_
    rintro e w2 ⟨b2, rfl, hN2, hb2⟩
    have HN := Lib.hid (hN2 w2 (Agr.self _ _)); clear hN2
    go_wp2
    go_ret
    exact ⟨_, rfl, HN.out, hb1.trans (hb2.mono hb1.size)⟩
  · have i0 : ((x : Int) == 0) = false := by simp; omega
    clear s2 hyN hNy
    generalize hAA : A.map (·.add (x * 7)) = AA at *
    generalize hcc : c - x = cc at *
    generalize hyy : y - x = yy at *
    clear hAA hcc hyy
    unfold lfv at *
    go_enter Try.func76, Try.ntmps76
    go_wp2_with fail
    refine (CL.out _ (Below.refl _ _)).mono ?_
    rintro e w2 ⟨b2, rfl, hN2, hb2⟩
    have HN := Lib.hid (hN2 w2 (Agr.self _ _)); clear hN2
    go_wp2
    go_ret
    exact ⟨_, rfl, HN.out, hb2⟩
/-- How many items the first nodes have. -/
def sz (ks : List Kd) (j : Nat) : Nat := (fl (ks.take j)).length
theorem sz_zero (ks : List Kd) : sz ks 0 = 0 := rfl
theorem sz_succ (ks : List Kd) {j : Nat} (h : j < ks.length) : sz ks (j + 1) = sz ks j + (kth ks j).l.length := by unfold sz; rw [fl_take ks h, List.length_append]
theorem sz_le (ks : List Kd) (j : Nat) : sz ks j ≤ (fl ks).length := by
  unfold sz
  have e : fl ks = fl (ks.take j) ++ fl (ks.drop j) := by rw [← fl_append, List.take_append_drop]
  rw [e, List.length_append]
  omega
theorem lst_front (L K : List I7) (x y a : Nat) (ha : L.length = a) (hx : a ≤ x) : ((L ++ K).take y).drop x = (K.drop (x - a)).take (min (y - a) K.length - (x - a)) := by
  rw [List.drop_take, List.drop_append, ha, List.drop_eq_nil_of_le (by omega), List.nil_append, List.take_eq_take_iff, List.length_drop]
  omega
theorem lst_whole (L K : List I7) (x y a : Nat) (ha : L.length = a) (hx : x ≤ a) (hy : a + K.length ≤ y) : ((L ++ K).take y).drop x = (L.take y).drop x ++ K := by
  have e1 : (L ++ K).take y = L ++ K := List.take_of_length_le (by rw [List.length_append]; omega)
  have e2 : L.take y = L := List.take_of_length_le (by omega)
  rw [e1, e2, List.drop_append_of_le_length (by omega)]
theorem lst_back (L K : List I7) (x y a : Nat) (ha : L.length = a) (hx : x ≤ a) (hy : a ≤ y) : ((L ++ K).take y).drop x = (L.take y).drop x ++ K.take (y - a) := by
  have e2 : L.take y = L := List.take_of_length_le (by omega)
  rw [List.take_append, e2, ha, List.drop_append_of_le_length (by omega)]
/-- What was gathered of the first j nodes. -/
def CI (w wr : World) (ks : List Kd) (x y j : Nat) (fv bv v : Value) : Prop :=
  ∃ (wf : World) (f g : List I7) (m : List Kd) (hf hb : Nat),
    Below w.heap.size w wf ∧ Below wf.heap.size wf wr ∧ Top wf fv f hf ∧ Top wr bv g hb ∧ wr.ownsRow wf.heap.size 135 1 v m.length (kvs m) ∧ (∀ κ ∈ m, κ ∈ ks) ∧ m.length ≤ j ∧
    f ++ fl m ++ g = ((fl (ks.take j)).take y).drop x ∧ (sz ks j ≤ x → v = .slice none 0 0 ∧ m = [] ∧ fv = .nilIface ∧ f = []) ∧ (sz ks j < y → bv = .nilIface ∧ g = [])
theorem CI.start (w : World) (ks : List Kd) (x y : Nat) : CI w w ks x y 0 .nilIface .nilIface (.slice none 0 0) :=
  ⟨w, [], [], [], 0, 0, Below.refl _ _, Below.refl _ _, .inl ⟨rfl, rfl, rfl⟩, .inl ⟨rfl, rfl, rfl⟩, World.ownsRow_nil _ _ _ _, fun κ h => absurd h (by simp), Nat.le_refl _, by simp [fl], fun _ => ⟨rfl, rfl, rfl, rfl⟩, fun _ => ⟨rfl, rfl⟩⟩
theorem CI.below {w wr wr' : World} {ks : List Kd} {x y j : Nat} {fv bv v : Value} (hc : CI w wr ks x y j fv bv v) (hb : Below wr.heap.size wr wr') : CI w wr' ks x y j fv bv v := by
  obtain ⟨wf, f, g, m, hf, hg, h1, h2, h3, h4, h5, h6⟩ := hc
  exact ⟨wf, f, g, m, hf, hg, h1, h2.trans (hb.mono h2.size), h3, h4.below hb, own_below h5 hb, h6⟩
theorem CI.toBelow {w wr : World} {ks : List Kd} {x y j : Nat} {fv bv v : Value} (hc : CI w wr ks x y j fv bv v) : Below w.heap.size w wr := by
  obtain ⟨wf, f, g, m, hf, hg, h1, h2, _⟩ := hc
  exact h1.trans (h2.mono h1.size)
/-- A node that has none of them. -/
theorem CI.skip {w wr : World} {ks : List Kd} {x y j : Nat} {fv bv v : Value} (hc : CI w wr ks x y j fv bv v) (hj : j < ks.length) (h : sz ks (j + 1) ≤ x ∨ y ≤ sz ks j) (hp : 1 ≤ (kth ks j).l.length) : CI w wr ks x y (j + 1) fv bv v := by
  obtain ⟨wf, f, g, m, hf, hg, h1, h2, h3, h4, h5, h6, h7, h8, h9, h10⟩ := hc
  have e := sz_succ ks hj
  refine ⟨wf, f, g, m, hf, hg, h1, h2, h3, h4, h5, h6, by omega, ?_, fun ha => ?_, fun ha => ?_⟩
  · rw [h8, fl_take ks hj]
    have hl : (fl (ks.take j)).length = sz ks j := rfl
    rcases h with h | h
    · rw [List.drop_eq_nil_of_le (by rw [List.length_take]; omega), List.drop_eq_nil_of_le (by rw [List.length_take, List.length_append]; omega)]
    · rw [List.take_append_of_le_length (by omega)]
  · exact h9 (by omega)
  · rcases h with h | h
    · exact h10 (by omega)
    · omega
/-- A node that is taken whole. -/
theorem CI.whole {w wr' : World} {ks : List Kd} {x y j : Nat} {fv bv v' : Value} {wf : World} {f g : List I7} {m : List Kd} {hf : Nat}
    (h1 : Below w.heap.size w wf) (h2 : Below wf.heap.size wf wr') (h3 : Top wf fv f hf) (h5 : wr'.ownsRow wf.heap.size 135 1 v' (m.length + 1) (kvs m ++ [(kth ks j).v])) (h6 : ∀ κ ∈ m, κ ∈ ks) (h7 : m.length ≤ j)
    (h8 : f ++ fl m ++ g = ((fl (ks.take j)).take y).drop x) (h10 : sz ks j < y → bv = .nilIface ∧ g = []) (hj : j < ks.length) (hx : x ≤ sz ks j) (hy : sz ks (j + 1) ≤ y) (hp : 1 ≤ (kth ks j).l.length) : CI w wr' ks x y (j + 1) fv bv v' := by
  have e := sz_succ ks hj
  obtain ⟨rfl, rfl⟩ := h10 (by omega)
  have hl : (fl (ks.take j)).length = sz ks j := rfl
  have h11 : (m ++ [kth ks j]).length = m.length + 1 := by rw [List.length_append]; rfl
  refine ⟨wf, f, [], m ++ [kth ks j], hf, 0, h1, h2, h3, .inl ⟨rfl, rfl, rfl⟩, ?_, fun κ hk => ?_, by omega, ?_, fun ha => by omega, fun _ => ⟨rfl, rfl⟩⟩
  · rw [h11, kvs_append]; exact h5
  · rcases List.mem_append.1 hk with hk | hk
    · exact h6 κ hk
    · rw [List.mem_singleton.1 hk]; exact kth_mem ks hj
  · rw [List.append_nil] at h8
    rw [fl_take ks hj, lst_whole _ _ x y _ hl hx (by omega), fl_append, fl_one, List.append_nil, ← List.append_assoc, h8]
/-- A node of which the later items are taken. -/
theorem CI.front {w wr wr' : World} {ks : List Kd} {x y j : Nat} {fv bv v fv' : Value} {hf : Nat} (hc : CI w wr ks x y j fv bv v) (hb : Below wr.heap.size wr wr') (hj : j < ks.length) (hx : sz ks j < x) (hxy : x < y) (hy : x < sz ks (j + 1))
    (hT : Top wr' fv' (((kth ks j).l.drop (x - sz ks j)).take (min (y - sz ks j) (kth ks j).l.length - (x - sz ks j))) hf) : CI w wr' ks x y (j + 1) fv' bv v := by
  have hbw := hc.toBelow
  obtain ⟨wf, f, g, m, hf', hg, h1, h2, h3, h4, h5, h6, h7, h8, h9, h10⟩ := hc
  have e := sz_succ ks hj
  obtain ⟨rfl, rfl, rfl, rfl⟩ := h9 (by omega)
  obtain ⟨rfl, rfl⟩ := h10 (by omega)
  have hl : (fl (ks.take j)).length = sz ks j := rfl
  refine ⟨wr', _, [], [], hf, 0, hbw.trans (hb.mono hbw.size), Below.refl _ _, hT, .inl ⟨rfl, rfl, rfl⟩, World.ownsRow_nil _ _ _ _, h6, by simp, ?_, fun ha => by omega, fun _ => ⟨rfl, rfl⟩⟩
  rw [fl_take ks hj, lst_front _ _ x y _ hl (by omega)]
  simp [fl]
/-- A node of which the first items are taken. -/
theorem CI.back {w wr wr' : World} {ks : List Kd} {x y j : Nat} {fv bv v bv' : Value} {hb' : Nat} (hc : CI w wr ks x y j fv bv v) (hb : Below wr.heap.size wr wr') (hj : j < ks.length) (hx : x ≤ sz ks j) (ha : sz ks j < y) (hy : y < sz ks (j + 1))
    (hT : Top wr' bv' (((kth ks j).l.drop 0).take (y - sz ks j - 0)) hb') : CI w wr' ks x y (j + 1) fv bv' v := by
  obtain ⟨wf, f, g, m, hf', hg, h1, h2, h3, h4, h5, h6, h7, h8, h9, h10⟩ := hc
  have e := sz_succ ks hj
  obtain ⟨rfl, rfl⟩ := h10 ha
  have hl : (fl (ks.take j)).length = sz ks j := rfl
  refine ⟨wf, f, _, m, hf', hb', h1, h2.trans (hb.mono h2.size), h3, hT, own_below h5 hb, h6, by omega, ?_, fun h => by omega, fun h => by omega⟩
  rw [List.append_nil] at h8
  rw [h8, fl_take ks hj, lst_back _ _ x y _ hl hx (by omega)]
  simp
theorem ith_fl (ks : List Kd) {j r : Nat} (hj : j < ks.length) (hr : r < (kth ks j).l.length) : ith (fl ks) (sz ks j + r) = ith (kth ks j).l r := by
  have e1 : fl ks = fl (ks.take j) ++ ((kth ks j).l ++ fl (ks.drop (j + 1))) := by
    rw [← List.append_assoc, ← fl_take ks hj, ← fl_append, List.take_append_drop]
  have hl : (fl (ks.take j)).length = sz ks j := rfl
  unfold ith
  rw [e1]
  simp only [List.getD]
  rw [List.getElem?_append_right (by omega), hl, Nat.add_sub_cancel_left, List.getElem?_append_left hr]
end Go.Proofs.Ytnfjleobcfhpnaa
