/- Nodes of trees in memory: what lies where; plain facts about what they have. Closed facts of this seat's program: which node is which; the contracts of sum, heightOf, countOf. Rows of nodes, of the call's own: appended; rows copied: the contracts of slices.Clone at items and at nodes, where there is one at least. -/
import Derived.Test.YtnfjleobcfhpnaaItBase
import Derived.Lib.SliceRun
namespace Go.Proofs.Ytnfjleobcfhpnaa
open Go.RowKit
/-- Values, a cell each, from an address on; nothing is asked where there are none. -/
def vth (vs : List Value) (k : Nat) : Value := vs.getD k default
def VsAt (w : World) (A : Option Addr) (vs : List Value) : Prop :=
  0 < vs.length → ∃ b off, A = some ⟨b, off, none⟩ ∧ b < w.heap.size ∧ ∀ k, k < vs.length → w.cell? ⟨b, off + k, none⟩ = some (vth vs k)
theorem VsAt.below {w w' : World} {A : Option Addr} {l : List Value} (h : VsAt w A l) (hb : Below w.heap.size w w') : VsAt w' A l := by
  intro hl
  obtain ⟨b, off, rfl, h1, h2⟩ := h hl
  exact ⟨b, off, rfl, Nat.lt_of_lt_of_le h1 hb.size, fun k hk => ((old_cells hb).1 _ _ h1).trans (h2 k hk)⟩
/-- A node: its value, its items, and how many items or nodes it has itself. -/
structure Kd where
  v : Value
  l : List I7
  c : Nat
instance : Inhabited Kd := ⟨⟨.nilIface, [], 0⟩⟩
def kth (ks : List Kd) (j : Nat) : Kd := ks.getD j default
def kvs (ks : List Kd) : List Value := ks.map Kd.v
def fl (ks : List Kd) : List I7 := ks.flatMap Kd.l
theorem kvs_length (ks : List Kd) : (kvs ks).length = ks.length := by simp [kvs]
theorem kth_get (ks : List Kd) {j : Nat} (h : j < ks.length) : kth ks j = ks[j] := by simp [kth, List.getD, h]
theorem kth_mem (ks : List Kd) {j : Nat} (h : j < ks.length) : kth ks j ∈ ks := by rw [kth_get ks h]; exact List.getElem_mem h
theorem vth_kvs (ks : List Kd) {j : Nat} (h : j < ks.length) : vth (kvs ks) j = (kth ks j).v := by
  rw [kth_get ks h]; simp [vth, kvs, List.getD, h]
theorem fl_append (a b : List Kd) : fl (a ++ b) = fl a ++ fl b := by simp [fl]
theorem fl_one (k : Kd) : fl [k] = k.l := by simp [fl]
theorem kvs_append (a b : List Kd) : kvs (a ++ b) = kvs a ++ kvs b := by simp [kvs]
theorem take_kth (l : List Kd) {j : Nat} (h : j < l.length) : l.take (j + 1) = l.take j ++ [kth l j] := by rw [List.take_succ_eq_append_getElem h, kth_get l h]
theorem fl_take (l : List Kd) {j : Nat} (h : j < l.length) : fl (l.take (j + 1)) = fl (l.take j) ++ (kth l j).l := by rw [take_kth l h, fl_append, fl_one]
/-- The cells of a leaf, and of a branch. -/
def lcs (A : Option Addr) (n c : Nat) (s : S6) : Array Value := #[.slice A n c, .int .i64 s.n, .int .i64 s.d0, .int .i64 s.d1, .int .i64 s.d2, .int .i64 s.mx, .int .i64 s.pl]
def bcs (A : Option Addr) (n c : Nat) (s : S6) (h : Nat) : Array Value := #[.slice A n c, .int .i64 s.n, .int .i64 s.d0, .int .i64 s.d1, .int .i64 s.d2, .int .i64 s.mx, .int .i64 s.pl, .int .i64 h]
def lfv (b : Nat) : Value := .iface 160 (.pointer (some ⟨b, 0, none⟩))
def brv (b : Nat) : Value := .iface 166 (.pointer (some ⟨b, 0, none⟩))
structure LeafAt (w : World) (k : Kd) (b : Nat) (A : Option Addr) (c : Nat) : Prop where
  v : k.v = lfv b
  raw : RawAt 164 w b (lcs A k.c c (sall k.l))
  its : ItsAt w A k.l
  len : k.l.length = k.c
  caps : Caps A k.c c
  pos : 1 ≤ k.c
  most : k.c ≤ 8
  ok : Okl k.l
structure BranchAt (w : World) (k : Kd) (b : Nat) (A : Option Addr) (c h : Nat) (ks : List Kd) : Prop where
  v : k.v = brv b
  raw : RawAt 183 w b (bcs A k.c c (sall k.l) h)
  kids : VsAt w A (kvs ks)
  len : ks.length = k.c
  caps : Caps A k.c c
  pos : 1 ≤ k.c
  most : k.c ≤ 8
  ok : Okl k.l
  fl : fl ks = k.l
theorem LeafAt.below {w w' : World} {k : Kd} {b : Nat} {A : Option Addr} {c : Nat} (h : LeafAt w k b A c) (hb : Below w.heap.size w w') : LeafAt w' k b A c :=
  ⟨h.v, h.raw.below hb h.raw.lt, h.its.below hb, h.len, h.caps, h.pos, h.most, h.ok⟩
theorem BranchAt.below {w w' : World} {k : Kd} {b : Nat} {A : Option Addr} {c i : Nat} {ks : List Kd} (h : BranchAt w k b A c i ks) (hb : Below w.heap.size w w') : BranchAt w' k b A c i ks :=
  ⟨h.v, h.raw.below hb h.raw.lt, h.kids.below hb, h.len, h.caps, h.pos, h.most, h.ok, h.fl⟩
theorem raw_lcs {t : TypeId} {w : World} {b : Nat} {A : Option Addr} {n c : Nat} {s : S6} (h : RawAt t w b (lcs A n c s)) : w.cell? ⟨b, 0, none⟩ = some (.slice A n c) ∧ w.cell? ⟨b, 1, none⟩ = some (.int .i64 s.n) ∧ w.cell? ⟨b, 2, none⟩ = some (.int .i64 s.d0) ∧ w.cell? ⟨b, 3, none⟩ = some (.int .i64 s.d1) ∧ w.cell? ⟨b, 4, none⟩ = some (.int .i64 s.d2) ∧ w.cell? ⟨b, 5, none⟩ = some (.int .i64 s.mx) ∧ w.cell? ⟨b, 6, none⟩ = some (.int .i64 s.pl) :=
  ⟨RawAt.cell h 0, RawAt.cell h 1, RawAt.cell h 2, RawAt.cell h 3, RawAt.cell h 4, RawAt.cell h 5, RawAt.cell h 6⟩
theorem raw_bcs {t : TypeId} {w : World} {b : Nat} {A : Option Addr} {n c i : Nat} {s : S6} (h : RawAt t w b (bcs A n c s i)) : w.cell? ⟨b, 0, none⟩ = some (.slice A n c) ∧ w.cell? ⟨b, 1, none⟩ = some (.int .i64 s.n) ∧ w.cell? ⟨b, 2, none⟩ = some (.int .i64 s.d0) ∧ w.cell? ⟨b, 3, none⟩ = some (.int .i64 s.d1) ∧ w.cell? ⟨b, 4, none⟩ = some (.int .i64 s.d2) ∧ w.cell? ⟨b, 5, none⟩ = some (.int .i64 s.mx) ∧ w.cell? ⟨b, 6, none⟩ = some (.int .i64 s.pl) ∧ w.cell? ⟨b, 7, none⟩ = some (.int .i64 i) :=
  ⟨RawAt.cell h 0, RawAt.cell h 1, RawAt.cell h 2, RawAt.cell h 3, RawAt.cell h 4, RawAt.cell h 5, RawAt.cell h 6, RawAt.cell h 7⟩
/-- A node that is so high. -/
def NodeAt : Nat → World → Kd → Prop
  | 0, _, _ => False
  | 1, w, k => ∃ b A c, LeafAt w k b A c
  | h + 2, w, k => ∃ b A c ks, BranchAt w k b A c (h + 2) ks ∧ ∀ x ∈ ks, NodeAt (h + 1) w x ∧ 4 ≤ x.c
theorem NodeAt.below : ∀ {h : Nat} {w w' : World} {k : Kd}, NodeAt h w k → Below w.heap.size w w' → NodeAt h w' k
  | 0, _, _, _, h, _ => h.elim
  | 1, _, _, _, ⟨b, A, c, h⟩, hb => ⟨b, A, c, h.below hb⟩
  | _ + 2, _, _, _, ⟨b, A, c, ks, h, g⟩, hb => ⟨b, A, c, ks, h.below hb, fun x hx => ⟨(g x hx).1.below hb, (g x hx).2⟩⟩
theorem NodeAt.ok : ∀ {h : Nat} {w : World} {k : Kd}, NodeAt h w k → Okl k.l
  | 0, _, _, h => h.elim
  | 1, _, _, ⟨_, _, _, h⟩ => h.ok
  | _ + 2, _, _, ⟨_, _, _, _, h, _⟩ => h.ok
theorem NodeAt.cnt : ∀ {h : Nat} {w : World} {k : Kd}, NodeAt h w k → 1 ≤ k.c ∧ k.c ≤ 8
  | 0, _, _, h => h.elim
  | 1, _, _, ⟨_, _, _, h⟩ => ⟨h.pos, h.most⟩
  | _ + 2, _, _, ⟨_, _, _, _, h, _⟩ => ⟨h.pos, h.most⟩
/-- Nodes, all so high. -/
def Row (h : Nat) (w : World) (ks : List Kd) : Prop := ∀ x ∈ ks, NodeAt h w x
def Wd (ks : List Kd) : Prop := ∀ x ∈ ks, 4 ≤ x.c
theorem Row.below {h : Nat} {w w' : World} {ks : List Kd} (hr : Row h w ks) (hb : Below w.heap.size w w') : Row h w' ks := fun x hx => (hr x hx).below hb
theorem Row.append {h : Nat} {w : World} {a b : List Kd} (ha : Row h w a) (hb : Row h w b) : Row h w (a ++ b) := fun x hx => (List.mem_append.1 hx).elim (ha x) (hb x)
theorem Wd.append {a b : List Kd} (ha : Wd a) (hb : Wd b) : Wd (a ++ b) := fun x hx => (List.mem_append.1 hx).elim (ha x) (hb x)
theorem Row.okl {h : Nat} {w : World} {ks : List Kd} (hr : Row h w ks) : Okl (fl ks) := by
  intro i hi
  obtain ⟨k, hk, h2⟩ := List.mem_flatMap.1 hi
  exact (hr k hk).ok i h2
/-- How many items there must be below nodes so high. -/
def p4 : Nat → Nat
  | 0 => 1
  | h + 1 => 4 * p4 h
theorem p4_pos : ∀ h, 1 ≤ p4 h
  | 0 => Nat.le_refl _
  | h + 1 => by have := p4_pos h; show 1 ≤ 4 * p4 h; omega
theorem fl_len {m : Nat} : ∀ {ks : List Kd}, (∀ x ∈ ks, m ≤ x.l.length) → ks.length * m ≤ (fl ks).length
  | [], _ => by simp [fl]
  | k :: ks, h => by
    have h1 := fl_len (m := m) (ks := ks) (fun x hx => h x (List.mem_cons_of_mem _ hx))
    have h2 := h k List.mem_cons_self
    have e : (fl (k :: ks)).length = k.l.length + (fl ks).length := by simp [fl]
    rw [e, List.length_cons, Nat.succ_mul]
    omega
theorem NodeAt.size : ∀ {h : Nat} {w : World} {k : Kd}, NodeAt h w k → k.c * p4 (h - 1) ≤ k.l.length
  | 0, _, _, h => h.elim
  | 1, _, _, ⟨_, _, _, h⟩ => by rw [h.len]; simp [p4]
  | h + 2, w, k, ⟨_, _, _, ks, g, q⟩ => by
    have := fl_len (m := p4 (h + 1)) (ks := ks) (fun x hx => by
      have h1 := (q x hx).1.size
      have h2 := (q x hx).2
      have h3 := Nat.mul_le_mul_right (p4 h) h2
      show 4 * p4 h ≤ _
      exact Nat.le_trans h3 h1)
    rw [g.fl, g.len] at this
    exact this
section
variable (w : World) (b : Nat) (xT : TypeId)
theorem ta_ll : (Instr.typeAssert (lfv b) xT 160 true).run Try.prog w = .ok (.tuple #[.pointer (some ⟨b, 0, none⟩), .bool true]) w := by
  simp [Instr.typeAssert, run_underlying Try.underlying160, lfv]
theorem ta_bb : (Instr.typeAssert (brv b) xT 166 true).run Try.prog w = .ok (.tuple #[.pointer (some ⟨b, 0, none⟩), .bool true]) w := by
  simp [Instr.typeAssert, run_underlying Try.underlying166, brv]
theorem ta_bl : (Instr.typeAssert (brv b) xT 160 true).run Try.prog w = .ok (.tuple #[.pointer none, .bool false]) w := by
  kernel_rfl
theorem ta_lb : (Instr.typeAssert (lfv b) xT 166 true).run Try.prog w = .ok (.tuple #[.pointer none, .bool false]) w := by
  kernel_rfl
theorem ta_nl : (Instr.typeAssert .nilIface xT 160 true).run Try.prog w = .ok (.tuple #[.pointer none, .bool false]) w := by
  kernel_rfl
theorem ta_nb : (Instr.typeAssert .nilIface xT 166 true).run Try.prog w = .ok (.tuple #[.pointer none, .bool false]) w := by
  kernel_rfl
theorem tp_l : (Instr.typeAssert (lfv b) xT 160 false).run Try.prog w = .ok (.pointer (some ⟨b, 0, none⟩)) w := by
  kernel_rfl
theorem tp_b : (Instr.typeAssert (brv b) xT 166 false).run Try.prog w = .ok (.pointer (some ⟨b, 0, none⟩)) w := by
  kernel_rfl
end
set_option maxHeartbeats 1000000 in
theorem heightOf_nil (w : World) : Calls Try.prog 93 #[.nilIface] w fun e w' => e = .returned (.int .i64 0) ∧ w' = w := by
  have t1 := ta_nl
  have t2 := ta_nb
  go_enter Try.func93, Try.ntmps93
  go_wp2
  go_ret
  exact ⟨rfl, rfl⟩
set_option maxHeartbeats 1000000 in
theorem heightOf_leaf (b : Nat) (w : World) : Calls Try.prog 93 #[lfv b] w fun e w' => e = .returned (.int .i64 1) ∧ w' = w := by
  have t1 := ta_ll
  unfold lfv at *
  go_enter Try.func93, Try.ntmps93
  go_wp2
  go_ret
  exact ⟨rfl, rfl⟩
set_option maxHeartbeats 1000000 in
theorem heightOf_branch (b h : Nat) (w : World) (h7 : w.cell? ⟨b, 7, none⟩ = some (.int .i64 h)) : Calls Try.prog 93 #[brv b] w fun e w' => e = .returned (.int .i64 h) ∧ w' = w := by
  have t1 := ta_bl
  have t2 := ta_bb
  unfold brv at *
  go_enter Try.func93, Try.ntmps93
  go_wp2
  go_ret
  exact ⟨rfl, rfl⟩
theorem heightOf_any (h : Nat) (w : World) (k : Kd) (hk : NodeAt h w k) : Calls Try.prog 93 #[k.v] w fun e w' => e = .returned (.int .i64 h) ∧ w' = w := by
  match h, hk with
  | 1, ⟨b, A, c, q⟩ => rw [q.v]; exact heightOf_leaf b w
  | h + 2, ⟨b, A, c, ks, q, _⟩ => rw [q.v]; exact heightOf_branch b (h + 2) w (raw_bcs q.raw).2.2.2.2.2.2.2
set_option maxHeartbeats 1000000 in
theorem countOf_leaf (b n c : Nat) (A : Option Addr) (w : World) (h0 : w.cell? ⟨b, 0, none⟩ = some (.slice A n c)) : Calls Try.prog 117 #[lfv b] w fun e w' => e = .returned (.int .i64 n) ∧ w' = w := by
  have t1 := ta_ll
  unfold lfv at *
  go_enter Try.func117, Try.ntmps117
  go_wp2
  go_ret
  exact ⟨rfl, rfl⟩
set_option maxHeartbeats 1000000 in
theorem countOf_branch (b n c : Nat) (A : Option Addr) (w : World) (h0 : w.cell? ⟨b, 0, none⟩ = some (.slice A n c)) : Calls Try.prog 117 #[brv b] w fun e w' => e = .returned (.int .i64 n) ∧ w' = w := by
  have t1 := ta_bl
  have t2 := tp_b
  unfold brv at *
  go_enter Try.func117, Try.ntmps117
  go_wp2
  go_ret
  exact ⟨rfl, rfl⟩
theorem countOf_any (h : Nat) (w : World) (k : Kd) (hk : NodeAt h w k) : Calls Try.prog 117 #[k.v] w fun e w' => e = .returned (.int .i64 k.c) ∧ w' = w := by
  match h, hk with
  | 1, ⟨b, A, c, q⟩ => rw [q.v]; exact countOf_leaf b k.c c A w (raw_lcs q.raw).1
  | h + 2, ⟨b, A, c, ks, q, _⟩ => rw [q.v]; exact countOf_branch b k.c c A w (raw_bcs q.raw).1
set_option maxHeartbeats 1000000 in
theorem lsum_any (b n c : Nat) (A : Option Addr) (s : S6) (w : World) (hr : RawAt 164 w b (lcs A n c s)) :
    Calls Try.prog 147 #[.pointer (some ⟨b, 0, none⟩)] w fun e w' => e = .returned (.agg (scs s)) ∧ Below w.heap.size w w' := by
  have hb1 : Below w.heap.size w (w.alloc (.cells (scs s0) 128)) := (Below.refl _ _).alloc (Nat.le_refl _) _
  have h1 := raw_lcs (hr.below hb1 hr.lt)
  have r1 : RawAt 128 (w.alloc (.cells (scs s0) 128)) w.heap.size (scs s0) := heap_alloc_new w _
  have hlt := hr.lt
  obtain ⟨e0, e1, e2, e3, e4, e5, e6⟩ := h1
  have f0 := r1.free 0
  have f1 := r1.free 1
  have f2 := r1.free 2
  have f3 := r1.free 3
  have f4 := r1.free 4
  have f5 := r1.free 5
  have hlt1 := r1.lt
  clear r1 hr
  unfold scs s0 at *
  go_enter Try.func147, Try.ntmps147
  go_wp2
  refine bodyPost_ret (v := .agg #[.int .i64 s.n, .int .i64 s.d0, .int .i64 s.d1, .int .i64 s.d2, .int .i64 s.mx, .int .i64 s.pl]) (by simp [results, Try.results147, go_sem]) rfl ⟨rfl, ?_⟩
  (repeat' (first | (with_reducible exact hb1) | (with_reducible exact Below.refl _ _) | (with_reducible refine Below.setCell ?_ ?_ _) | (with_reducible refine Below.drew ?_) | (with_reducible refine Below.alloc ?_ ?_ _))) <;> first | exact Nat.le_refl _ | (simp; done) | (simp; omega)
set_option maxHeartbeats 1000000 in
theorem bsum_any (b n c h : Nat) (A : Option Addr) (s : S6) (w : World) (hr : RawAt 183 w b (bcs A n c s h)) :
    Calls Try.prog 148 #[.pointer (some ⟨b, 0, none⟩)] w fun e w' => e = .returned (.agg (scs s)) ∧ Below w.heap.size w w' := by
  have hb1 : Below w.heap.size w (w.alloc (.cells (scs s0) 128)) := (Below.refl _ _).alloc (Nat.le_refl _) _
  have h1 := raw_bcs (hr.below hb1 hr.lt)
  have r1 : RawAt 128 (w.alloc (.cells (scs s0) 128)) w.heap.size (scs s0) := heap_alloc_new w _
  have hlt := hr.lt
  obtain ⟨e0, e1, e2, e3, e4, e5, e6, e7⟩ := h1
  have f0 := r1.free 0
  have f1 := r1.free 1
  have f2 := r1.free 2
  have f3 := r1.free 3
  have f4 := r1.free 4
  have f5 := r1.free 5
  have hlt1 := r1.lt
  clear r1 hr
  unfold scs s0 at *
  go_enter Try.func148, Try.ntmps148
  go_wp2
  refine bodyPost_ret (v := .agg #[.int .i64 s.n, .int .i64 s.d0, .int .i64 s.d1, .int .i64 s.d2, .int .i64 s.mx, .int .i64 s.pl]) (by simp [results, Try.results148, go_sem]) rfl ⟨rfl, ?_⟩
  (repeat' (first | (with_reducible exact hb1) | (with_reducible exact Below.refl _ _) | (with_reducible refine Below.setCell ?_ ?_ _) | (with_reducible refine Below.drew ?_) | (with_reducible refine Below.alloc ?_ ?_ _))) <;> first | exact Nat.le_refl _ | (simp; done) | (simp; omega)
/-- What a call of sum through the interface comes to. -/
theorem na_l (f b : Nat) (w : World) : (nilAhead (f + 1) 160 (.pointer (some ⟨b, 0, none⟩)) "bodkin/tree.sum").run Try.prog w = .ok (some false) w := by kernel_rfl
theorem na_b (f b : Nat) (w : World) : (nilAhead (f + 1) 166 (.pointer (some ⟨b, 0, none⟩)) "bodkin/tree.sum").run Try.prog w = .ok (some false) w := by kernel_rfl
theorem me_l (f b : Nat) (w : World) : (method (f + 1) 160 (.pointer (some ⟨b, 0, none⟩)) "bodkin/tree.sum").run Try.prog w = .ok (147, .pointer (some ⟨b, 0, none⟩)) w := by kernel_rfl
theorem me_b (f b : Nat) (w : World) : (method (f + 1) 166 (.pointer (some ⟨b, 0, none⟩)) "bodkin/tree.sum").run Try.prog w = .ok (148, .pointer (some ⟨b, 0, none⟩)) w := by kernel_rfl
theorem node_info : (Try.prog.info? 135).map (fun i => (i.zero, i.size, i.bytes)) = some (some .nilIface, 1, 16) := by kernel_rfl
theorem VsAt.of_cells {w : World} {b off : Nat} {l : List Value} (hb : b < w.heap.size) (h : ∀ j u, l[j]? = some u → w.cell? ⟨b, off + j, none⟩ = some u) : VsAt w (some ⟨b, off, none⟩) l := by
  intro _
  refine ⟨b, off, rfl, hb, fun k hk => h k _ ?_⟩
  simp [vth, List.getD, hk]
theorem VsAt.news {w : World} {a : Addr} {l : List Value} (h : VsAt w (some a) l) : ∀ (j : Nat) (u : Value), l[j]? = some u → w.cell? (a.add j) = some u := by
  intro j u hu
  have hj : j < l.length := (List.getElem?_eq_some_iff.1 hu).1
  obtain ⟨b, off, e, _, hc⟩ := h (by omega)
  obtain rfl : a = ⟨b, off, none⟩ := by injection e
  rw [Go.WideShapes.add_plain, hc j hj]
  simp [vth, List.getD, hu]
theorem vs_of_own {w : World} {base n : Nat} {e : TypeId} {v : Value} {l : List Value} (h : w.ownsRow base e 1 v n l) : ∃ A c, v = .slice A n c ∧ VsAt w A l ∧ l.length = n ∧ Caps A n c := by
  have hl : l.length = n := by have := h.1; omega
  rcases h.2 with ⟨rfl, rfl⟩ | ⟨g, cap, cur, rfl, hbg, hh, hnc, _, hsz, htake⟩
  · exact ⟨none, 0, rfl, fun hp => by omega, hl, Nat.le_refl _, fun _ => rfl⟩
  · refine ⟨_, cap, rfl, VsAt.of_cells (block_lt hh) (fun j u hu => ?_), hl, hnc, fun h => by cases h⟩
    have hj : j < l.length := (List.getElem?_eq_some_iff.1 hu).1
    rw [cell_of_row w g _ cur e (0, 0) hh, ← Array.getElem?_toList, Nat.zero_add]
    rw [← htake, List.getElem?_take, if_pos (by omega)] at hu
    exact hu
theorem NodeAt.one {h : Nat} {w : World} {k : Kd} (hk : NodeAt h w k) : k.v.oneCell' = true := by
  match h, hk with
  | 1, ⟨b, A, c, q⟩ => rw [q.v]; rfl
  | h + 2, ⟨b, A, c, ks, q, _⟩ => rw [q.v]; rfl
theorem Row.one {h : Nat} {w : World} {ks : List Kd} (hr : Row h w ks) : ∀ u ∈ kvs ks, u.oneCell' = true := by
  intro u hu
  obtain ⟨k, hk, rfl⟩ := List.mem_map.1 hu
  exact (hr k hk).one
theorem wpList_append_nodes {w : World} {ops : Array Oper} {rest : List Oper} {o : Oper} {a : Act} {Q : Exit → Act → World → Prop} (hgd : o.guard = none) (s x : Operand)
    (ho : o.op = .call { callee := .builtin .append, args := #[s, x], argTypes := #[168, 168] })
    (base : Nat) (v : Value) (n : Nat) (xs : List Value) (hs : a.eval s = v) (hown : w.ownsRow base 135 1 v n xs)
    (A : Option Addr) (m c : Nat) (l : List Value) (hx : a.eval x = .slice A m c) (hA : VsAt w A l) (h1 : ∀ u ∈ l, u.oneCell' = true) (hcap : Caps A m c) (hl : l.length = m) (hsz : n + m ≤ 1000000000) (hbase : base ≤ w.heap.size)
    (h : ∀ v' w', w'.ownsRow base 135 1 v' (n + m) (xs ++ l) → w.grownBy w' v.ownBlock → wpList Try.prog ops Q rest (a.put o.dst v') w') : wpList Try.prog ops Q (o :: rest) a w := by
  obtain ⟨i0, hi0, hz0, hz1, hz2⟩ := info_parts node_info
  rcases A with _ | ad
  · obtain rfl := hcap.2 rfl
    have hm : m = 0 := by have := hcap.1; omega
    subst hm
    have hl0 : l = [] := List.eq_nil_of_length_eq_zero hl
    subst hl0
    exact wpList_append_own_none hgd s x _ ho base 135 i0 1 Try.underlying168 hi0 v n xs hs hown hx (h v w (by simpa using hown) (World.grownBy.refl w _))
  · exact wpList_append_own w hgd s x _ ho base 135 i0 _ 1 16 Try.underlying168 hi0 hz0 hz1 hz2 rfl (by omega) v n xs hs hown ad m c l hx (by omega) hA.news
      h1 (by simp only [maxLen]; omega) (by omega) hbase (fun v' w' h1 h2 _ => h v' w' h1 h2)
/-- The empty row that is the call's own. -/
theorem own_empty (w : World) (base : Nat) (e : TypeId) (size : Nat) (hb : base ≤ w.heap.size) : (w.alloc (.cells #[] e)).ownsRow base e size (.slice (some ⟨w.heap.size, 0, none⟩) 0 0) 0 [] :=
  ⟨by simp, .inr ⟨w.heap.size, 0, #[], rfl, hb, heap_alloc_new w _, Nat.le_refl _, Nat.zero_le _, by simp, by simp⟩⟩
/-- A world that agrees with another one on some blocks. -/
def Agr (lo hi : Nat) (w W : World) : Prop := hi ≤ W.heap.size ∧ ∀ b, lo ≤ b → b < hi → W.heap[b]? = w.heap[b]?
theorem Agr.self (lo : Nat) (w : World) : Agr lo w.heap.size w w := ⟨Nat.le_refl _, fun _ _ _ => rfl⟩
theorem Agr.below {lo : Nat} {w w' W : World} (h : Agr lo w'.heap.size w' W) (hb : Below w.heap.size w w') : Agr lo w.heap.size w W :=
  ⟨Nat.le_trans hb.size h.1, fun b h1 h2 => (h.2 b h1 (Nat.lt_of_lt_of_le h2 hb.size)).trans (hb.block b h2)⟩
theorem own_agr {w W : World} {base : Nat} {e : TypeId} {size : Nat} {v : Value} {n : Nat} {xs : List Value} (h : w.ownsRow base e size v n xs) (hb : Agr base w.heap.size w W) : W.ownsRow base e size v n xs := by
  refine ⟨h.1, ?_⟩
  rcases h.2 with h2 | ⟨g, cap, cur, rfl, hB, c, h3⟩
  · exact .inl h2
  · exact .inr ⟨g, cap, cur, rfl, hB, (hb.2 g hB (block_lt c)).trans c, h3⟩
set_option maxHeartbeats 4000000 in
set_option maxRecDepth 100000 in
theorem cloneI_any (A : Option Addr) (n c : Nat) (l : List I7) (w : World) (hA : ItsAt w A l) (hl : l.length = n) (hp : 0 < n) (hn : n ≤ 100000) (hc : Caps A n c) :
    Calls Try.prog 113 #[.slice A n c] w fun e w' => ∃ A' c', e = .returned (.slice A' n c') ∧ Below w.heap.size w w' ∧ (∀ W, Agr w.heap.size w'.heap.size w' W → ItsAt W A' l) ∧ Caps A' n c' := by
  have HA := Lib.hid hA
  have HL := Lib.hid hl
  have HC := Lib.hid hc
  obtain ⟨b, off, rfl, _, _⟩ := hA (by omega)
  clear hA hl hc
  have qT : ∀ (w : World) (a : Option Addr) (n c n' c' : Nat), (binOp .eql 106 (.slice a n c) (.slice none n' c')).run Try.prog w = .ok (.bool a.isNone) w := fun w a n c n' c' => Lib.run_eql_slice_nil w _ _ a n c n' c' Try.underlying106
  go_enter Try.func113, Try.ntmps113
  go_wp2_with (at_builtin; refine wpList_append_items rfl (.tmp 5) (.tmp 6) rfl w.heap.size (.slice (some ⟨w.heap.size, 0, none⟩) 0 0) 0 [] rfl (own_empty w _ _ _ (Nat.le_refl _)) (some ⟨b, off, none⟩) n c l rfl (HA.out.below ((Below.refl _ _).alloc (Nat.le_refl _) _)) HC.out HL.out (by omega) (by simp) ?_; intro v3 w3 hown3 hg3)
  have a3 : Below w.heap.size w w3 := ((Below.refl _ _).alloc (Nat.le_refl _) _).grown hg3 (by simp) (fun k hk => by simp [Value.ownBlock] at hk; omega)
  rw [Nat.zero_add, List.nil_append] at hown3
  obtain ⟨A7, c7, rfl, hI7, _, hC7⟩ := its_of_own hown3
  have HX : Hid (∀ W, Agr w.heap.size w3.heap.size w3 W → ItsAt W A7 l) := fun W hW => by
    obtain ⟨A8, c8, e8, h8, _, _⟩ := its_of_own (own_agr hown3 hW)
    injection e8 with e8
    rw [e8]
    exact h8
  clear hown3 hI7
  go_wp2
  go_ret
  exact ⟨A7, c7, rfl, a3, HX.out, hC7⟩
set_option maxHeartbeats 4000000 in
set_option maxRecDepth 100000 in
theorem cloneV_any (A : Option Addr) (n c : Nat) (l : List Value) (w : World) (hA : VsAt w A l) (h1 : ∀ u ∈ l, u.oneCell' = true) (hl : l.length = n) (hp : 0 < n) (hn : n ≤ 100000) (hc : Caps A n c) :
    Calls Try.prog 124 #[.slice A n c] w fun e w' => ∃ A' c', e = .returned (.slice A' n c') ∧ Below w.heap.size w w' ∧ (∀ W, Agr w.heap.size w'.heap.size w' W → VsAt W A' l) ∧ Caps A' n c' := by
  have HA := Lib.hid hA
  have HL := Lib.hid hl
  have HC := Lib.hid hc
  have H1 := Lib.hid h1
  obtain ⟨b, off, rfl, _, _⟩ := hA (by omega)
  clear hA hl hc h1
  have qT : ∀ (w : World) (a : Option Addr) (n c n' c' : Nat), (binOp .eql 168 (.slice a n c) (.slice none n' c')).run Try.prog w = .ok (.bool a.isNone) w := fun w a n c n' c' => Lib.run_eql_slice_nil w _ _ a n c n' c' Try.underlying168
  go_enter Try.func124, Try.ntmps124
  go_wp2_with (at_builtin; refine wpList_append_nodes rfl (.tmp 5) (.tmp 6) rfl w.heap.size (.slice (some ⟨w.heap.size, 0, none⟩) 0 0) 0 [] rfl (own_empty w _ _ _ (Nat.le_refl _)) (some ⟨b, off, none⟩) n c l rfl (HA.out.below ((Below.refl _ _).alloc (Nat.le_refl _) _)) H1.out HC.out HL.out (by omega) (by simp) ?_; intro v3 w3 hown3 hg3)
  have a3 : Below w.heap.size w w3 := ((Below.refl _ _).alloc (Nat.le_refl _) _).grown hg3 (by simp) (fun k hk => by simp [Value.ownBlock] at hk; omega)
  rw [Nat.zero_add, List.nil_append] at hown3
  obtain ⟨A7, c7, rfl, hI7, _, hC7⟩ := vs_of_own hown3
  have HX : Hid (∀ W, Agr w.heap.size w3.heap.size w3 W → VsAt W A7 l) := fun W hW => by
    obtain ⟨A8, c8, e8, h8, _, _⟩ := vs_of_own (own_agr hown3 hW)
    injection e8 with e8
    rw [e8]
    exact h8
  clear hown3 hI7
  go_wp2
  go_ret
  exact ⟨A7, c7, rfl, a3, HX.out, hC7⟩
end Go.Proofs.Ytnfjleobcfhpnaa
