/- Nodes of trees in memory: what lies where; plain facts about what they have. Closed facts of this seat's program: which node is which; the contracts of sum, heightOf, countOf. Rows of nodes, of the call's own: appended; rows copied: the contracts of slices.Clone at items and at nodes, where there is one at least. The parts of a row: the contracts of tree.spread at items and at nodes. The sum of nodes: the contract of tree.sumOf. The sum of items: the contract of item.All. The contracts of newLeaf and newBranch. Leaves and branches above a row: the contracts of tree.leaves and tree.branches. Rows joined: the contracts of slices.Grow (of no row) and slices.Concat, at items and at nodes. Trees one behind the other: the contracts of tree.crown, join, concat. Trees one behind the other: the contracts of tree.join and tree.concat, whatever their heights; tree.build. A tree of items: the contract of tree.build. -/
import Derived.Test.YtpnjokhhbjpciaaGreatDoorItBase
import Derived.Lib.SliceRun
import Derived.Deep.RegionHeld3
import Derived.Deep.AppendLies
import Derived.Test.YtpnjokhhbjpciaaGreatDoorItAdd
import Derived.Deep.RegionWith
import Derived.Maps.AppendAt
import Derived.Lib.AppendZeros
namespace Go.Proofs.YtpnjokhhbjpciaaGreatDoor
open Go.RowKit
/-- Values, a cell each, from an address on; nothing is asked where there are none. -/
def vth (vs : List Value) (k : Nat) : Value := vs.getD k default
def VsAt (w : World) (A : Option Addr) (vs : List Value) : Prop :=
  0 < vs.length → ∃ b off, A = some ⟨b, off, none⟩ ∧ b < w.heap.size ∧ ∀ k, k < vs.length → w.cell? ⟨b, off + k, none⟩ = some (vth vs k)
theorem VsAt.below {w w' : World} {A : Option Addr} {l : List Value} (h : VsAt w A l) (hb : Below w.heap.size w w') : VsAt w' A l := by
  intro hl
  obtain ⟨b, off, rfl, h1, h2⟩ := h hl
  exact ⟨b, off, rfl, Nat.lt_of_lt_of_le h1 hb.size, fun k hk => ((old_cells hb).1 _ _ h1).trans (h2 k hk)⟩
/-- A node: its value, its items, and how many items or nodes it has itself. -/
structure Kd where
  v : Value
  l : List I7
  c : Nat
instance : Inhabited Kd := ⟨⟨.nilIface, [], 0⟩⟩
def kth (ks : List Kd) (j : Nat) : Kd := ks.getD j default
def kvs (ks : List Kd) : List Value := ks.map Kd.v
def fl (ks : List Kd) : List I7 := ks.flatMap Kd.l
theorem kvs_length (ks : List Kd) : (kvs ks).length = ks.length := by simp [kvs]
theorem kth_get (ks : List Kd) {j : Nat} (h : j < ks.length) : kth ks j = ks[j] := by simp [kth, List.getD, h]
theorem kth_mem (ks : List Kd) {j : Nat} (h : j < ks.length) : kth ks j ∈ ks := by rw [kth_get ks h]; exact List.getElem_mem h
theorem vth_kvs (ks : List Kd) {j : Nat} (h : j < ks.length) : vth (kvs ks) j = (kth ks j).v := by
  rw [kth_get ks h]; simp [vth, kvs, List.getD, h]
theorem fl_append (a b : List Kd) : fl (a ++ b) = fl a ++ fl b := by simp [fl]
theorem fl_one (k : Kd) : fl [k] = k.l := by simp [fl]
theorem kvs_append (a b : List Kd) : kvs (a ++ b) = kvs a ++ kvs b := by simp [kvs]
theorem take_kth (l : List Kd) {j : Nat} (h : j < l.length) : l.take (j + 1) = l.take j ++ [kth l j] := by rw [List.take_succ_eq_append_getElem h, kth_get l h]
theorem fl_take (l : List Kd) {j : Nat} (h : j < l.length) : fl (l.take (j + 1)) = fl (l.take j) ++ (kth l j).l := by rw [take_kth l h, fl_append, fl_one]
/-- The cells of a leaf, and of a branch. -/
def lcs (A : Option Addr) (n c : Nat) (s : S6) : Array Value := #[.slice A n c, .int .i64 s.n, .int .i64 s.d0, .int .i64 s.d1, .int .i64 s.d2, .int .i64 s.mx, .int .i64 s.pl]
def bcs (A : Option Addr) (n c : Nat) (s : S6) (h : Nat) : Array Value := #[.slice A n c, .int .i64 s.n, .int .i64 s.d0, .int .i64 s.d1, .int .i64 s.d2, .int .i64 s.mx, .int .i64 s.pl, .int .i64 h]
def lfv (b : Nat) : Value := .iface 219 (.pointer (some ⟨b, 0, none⟩))
def brv (b : Nat) : Value := .iface 225 (.pointer (some ⟨b, 0, none⟩))
structure LeafAt (w : World) (k : Kd) (b : Nat) (A : Option Addr) (c : Nat) : Prop where
  v : k.v = lfv b
  raw : RawAt 223 w b (lcs A k.c c (sall k.l))
  its : ItsAt w A k.l
  len : k.l.length = k.c
  caps : Caps A k.c c
  pos : 1 ≤ k.c
  most : k.c ≤ 8
  ok : Okl k.l
structure BranchAt (w : World) (k : Kd) (b : Nat) (A : Option Addr) (c h : Nat) (ks : List Kd) : Prop where
  v : k.v = brv b
  raw : RawAt 251 w b (bcs A k.c c (sall k.l) h)
  kids : VsAt w A (kvs ks)
  len : ks.length = k.c
  caps : Caps A k.c c
  pos : 1 ≤ k.c
  most : k.c ≤ 8
  ok : Okl k.l
  fl : fl ks = k.l
theorem LeafAt.below {w w' : World} {k : Kd} {b : Nat} {A : Option Addr} {c : Nat} (h : LeafAt w k b A c) (hb : Below w.heap.size w w') : LeafAt w' k b A c :=
  ⟨h.v, h.raw.below hb h.raw.lt, h.its.below hb, h.len, h.caps, h.pos, h.most, h.ok⟩
theorem BranchAt.below {w w' : World} {k : Kd} {b : Nat} {A : Option Addr} {c i : Nat} {ks : List Kd} (h : BranchAt w k b A c i ks) (hb : Below w.heap.size w w') : BranchAt w' k b A c i ks :=
  ⟨h.v, h.raw.below hb h.raw.lt, h.kids.below hb, h.len, h.caps, h.pos, h.most, h.ok, h.fl⟩
theorem raw_lcs {t : TypeId} {w : World} {b : Nat} {A : Option Addr} {n c : Nat} {s : S6} (h : RawAt t w b (lcs A n c s)) : w.cell? ⟨b, 0, none⟩ = some (.slice A n c) ∧ w.cell? ⟨b, 1, none⟩ = some (.int .i64 s.n) ∧ w.cell? ⟨b, 2, none⟩ = some (.int .i64 s.d0) ∧ w.cell? ⟨b, 3, none⟩ = some (.int .i64 s.d1) ∧ w.cell? ⟨b, 4, none⟩ = some (.int .i64 s.d2) ∧ w.cell? ⟨b, 5, none⟩ = some (.int .i64 s.mx) ∧ w.cell? ⟨b, 6, none⟩ = some (.int .i64 s.pl) :=
  ⟨RawAt.cell h 0, RawAt.cell h 1, RawAt.cell h 2, RawAt.cell h 3, RawAt.cell h 4, RawAt.cell h 5, RawAt.cell h 6⟩
theorem raw_bcs {t : TypeId} {w : World} {b : Nat} {A : Option Addr} {n c i : Nat} {s : S6} (h : RawAt t w b (bcs A n c s i)) : w.cell? ⟨b, 0, none⟩ = some (.slice A n c) ∧ w.cell? ⟨b, 1, none⟩ = some (.int .i64 s.n) ∧ w.cell? ⟨b, 2, none⟩ = some (.int .i64 s.d0) ∧ w.cell? ⟨b, 3, none⟩ = some (.int .i64 s.d1) ∧ w.cell? ⟨b, 4, none⟩ = some (.int .i64 s.d2) ∧ w.cell? ⟨b, 5, none⟩ = some (.int .i64 s.mx) ∧ w.cell? ⟨b, 6, none⟩ = some (.int .i64 s.pl) ∧ w.cell? ⟨b, 7, none⟩ = some (.int .i64 i) :=
  ⟨RawAt.cell h 0, RawAt.cell h 1, RawAt.cell h 2, RawAt.cell h 3, RawAt.cell h 4, RawAt.cell h 5, RawAt.cell h 6, RawAt.cell h 7⟩
/-- A node that is so high. -/
def NodeAt : Nat → World → Kd → Prop
  | 0, _, _ => False
  | 1, w, k => ∃ b A c, LeafAt w k b A c
  | h + 2, w, k => ∃ b A c ks, BranchAt w k b A c (h + 2) ks ∧ ∀ x ∈ ks, NodeAt (h + 1) w x ∧ 4 ≤ x.c
theorem NodeAt.below : ∀ {h : Nat} {w w' : World} {k : Kd}, NodeAt h w k → Below w.heap.size w w' → NodeAt h w' k
  | 0, _, _, _, h, _ => h.elim
  | 1, _, _, _, ⟨b, A, c, h⟩, hb => ⟨b, A, c, h.below hb⟩
  | _ + 2, _, _, _, ⟨b, A, c, ks, h, g⟩, hb => ⟨b, A, c, ks, h.below hb, fun x hx => ⟨(g x hx).1.below hb, (g x hx).2⟩⟩
theorem NodeAt.ok : ∀ {h : Nat} {w : World} {k : Kd}, NodeAt h w k → Okl k.l
  | 0, _, _, h => h.elim
  | 1, _, _, ⟨_, _, _, h⟩ => h.ok
  | _ + 2, _, _, ⟨_, _, _, _, h, _⟩ => h.ok
theorem NodeAt.cnt : ∀ {h : Nat} {w : World} {k : Kd}, NodeAt h w k → 1 ≤ k.c ∧ k.c ≤ 8
  | 0, _, _, h => h.elim
  | 1, _, _, ⟨_, _, _, h⟩ => ⟨h.pos, h.most⟩
  | _ + 2, _, _, ⟨_, _, _, _, h, _⟩ => ⟨h.pos, h.most⟩
/-- Nodes, all so high. -/
def Row (h : Nat) (w : World) (ks : List Kd) : Prop := ∀ x ∈ ks, NodeAt h w x
def Wd (ks : List Kd) : Prop := ∀ x ∈ ks, 4 ≤ x.c
theorem Row.below {h : Nat} {w w' : World} {ks : List Kd} (hr : Row h w ks) (hb : Below w.heap.size w w') : Row h w' ks := fun x hx => (hr x hx).below hb
theorem Row.append {h : Nat} {w : World} {a b : List Kd} (ha : Row h w a) (hb : Row h w b) : Row h w (a ++ b) := fun x hx => (List.mem_append.1 hx).elim (ha x) (hb x)
theorem Wd.append {a b : List Kd} (ha : Wd a) (hb : Wd b) : Wd (a ++ b) := fun x hx => (List.mem_append.1 hx).elim (ha x) (hb x)
theorem Row.okl {h : Nat} {w : World} {ks : List Kd} (hr : Row h w ks) : Okl (fl ks) := by
  intro i hi
  obtain ⟨k, hk, h2⟩ := List.mem_flatMap.1 hi
  exact (hr k hk).ok i h2
/-- How many items there must be below nodes so high. -/
def p4 : Nat → Nat
  | 0 => 1
  | h + 1 => 4 * p4 h
theorem p4_pos : ∀ h, 1 ≤ p4 h
  | 0 => Nat.le_refl _
  | h + 1 => by have := p4_pos h; show 1 ≤ 4 * p4 h; omega
theorem fl_len {m : Nat} : ∀ {ks : List Kd}, (∀ x ∈ ks, m ≤ x.l.length) → ks.length * m ≤ (fl ks).length
  | [], _ => by simp [fl]
  | k :: ks, h => by
    have h1 := fl_len (m := m) (ks := ks) (fun x hx => h x (List.mem_cons_of_mem _ hx))
    have h2 := h k List.mem_cons_self
    have e : (fl (k :: ks)).length = k.l.length + (fl ks).length := by simp [fl]
    rw [e, List.length_cons, Nat.succ_mul]
    omega
theorem NodeAt.size : ∀ {h : Nat} {w : World} {k : Kd}, NodeAt h w k → k.c * p4 (h - 1) ≤ k.l.length
  | 0, _, _, h => h.elim
  | 1, _, _, ⟨_, _, _, h⟩ => by rw [h.len]; simp [p4]
  | h + 2, w, k, ⟨_, _, _, ks, g, q⟩ => by
    have := fl_len (m := p4 (h + 1)) (ks := ks) (fun x hx => by
      have h1 := (q x hx).1.size
      have h2 := (q x hx).2
      have h3 := Nat.mul_le_mul_right (p4 h) h2
      show 4 * p4 h ≤ _
      exact Nat.le_trans h3 h1)
    rw [g.fl, g.len] at this
    exact this
section
variable (w : World) (b : Nat) (xT : TypeId)
theorem ta_ll : (Instr.typeAssert (lfv b) xT 219 true).run Tryz.prog w = .ok (.tuple #[.pointer (some ⟨b, 0, none⟩), .bool true]) w := by
  simp [Instr.typeAssert, run_underlying Tryz.underlying219, lfv]
theorem ta_bb : (Instr.typeAssert (brv b) xT 225 true).run Tryz.prog w = .ok (.tuple #[.pointer (some ⟨b, 0, none⟩), .bool true]) w := by
  simp [Instr.typeAssert, run_underlying Tryz.underlying225, brv]
theorem ta_bl : (Instr.typeAssert (brv b) xT 219 true).run Tryz.prog w = .ok (.tuple #[.pointer none, .bool false]) w := by
  kernel_rfl
theorem ta_lb : (Instr.typeAssert (lfv b) xT 225 true).run Tryz.prog w = .ok (.tuple #[.pointer none, .bool false]) w := by
  kernel_rfl
theorem ta_nl : (Instr.typeAssert .nilIface xT 219 true).run Tryz.prog w = .ok (.tuple #[.pointer none, .bool false]) w := by
  kernel_rfl
theorem ta_nb : (Instr.typeAssert .nilIface xT 225 true).run Tryz.prog w = .ok (.tuple #[.pointer none, .bool false]) w := by
  kernel_rfl
theorem tp_l : (Instr.typeAssert (lfv b) xT 219 false).run Tryz.prog w = .ok (.pointer (some ⟨b, 0, none⟩)) w := by
  kernel_rfl
theorem tp_b : (Instr.typeAssert (brv b) xT 225 false).run Tryz.prog w = .ok (.pointer (some ⟨b, 0, none⟩)) w := by
  kernel_rfl
end
set_option maxHeartbeats 1000000 in
theorem heightOf_nil (w : World) : Calls Tryz.prog 168 #[.nilIface] w fun e w' => e = .returned (.int .i64 0) ∧ w' = w := by
  have t1 := ta_nl
  have t2 := ta_nb
  go_enter Tryz.func168, Tryz.ntmps168
  go_wp2
  go_ret
  exact ⟨rfl, rfl⟩
set_option maxHeartbeats 1000000 in
theorem heightOf_leaf (b : Nat) (w : World) : Calls Tryz.prog 168 #[lfv b] w fun e w' => e = .returned (.int .i64 1) ∧ w' = w := by
  have t1 := ta_ll
  unfold lfv at *
  go_enter Tryz.func168, Tryz.ntmps168
  go_wp2
  go_ret
  exact ⟨rfl, rfl⟩
set_option maxHeartbeats 1000000 in
theorem heightOf_branch (b h : Nat) (w : World) (h7 : w.cell? ⟨b, 7, none⟩ = some (.int .i64 h)) : Calls Tryz.prog 168 #[brv b] w fun e w' => e = .returned (.int .i64 h) ∧ w' = w := by
  have t1 := ta_bl
  have t2 := ta_bb
  unfold brv at *
  go_enter Tryz.func168, Tryz.ntmps168
  go_wp2
  go_ret
  exact ⟨rfl, rfl⟩
theorem heightOf_any (h : Nat) (w : World) (k : Kd) (hk : NodeAt h w k) : Calls Tryz.prog 168 #[k.v] w fun e w' => e = .returned (.int .i64 h) ∧ w' = w := by
  match h, hk with
  | 1, ⟨b, A, c, q⟩ => rw [q.v]; exact heightOf_leaf b w
  | h + 2, ⟨b, A, c, ks, q, _⟩ => rw [q.v]; exact heightOf_branch b (h + 2) w (raw_bcs q.raw).2.2.2.2.2.2.2
set_option maxHeartbeats 1000000 in
theorem countOf_leaf (b n c : Nat) (A : Option Addr) (w : World) (h0 : w.cell? ⟨b, 0, none⟩ = some (.slice A n c)) : Calls Tryz.prog 170 #[lfv b] w fun e w' => e = .returned (.int .i64 n) ∧ w' = w := by
  have t1 := ta_ll
  unfold lfv at *
  go_enter Tryz.func170, Tryz.ntmps170
  go_wp2
  go_ret
  exact ⟨rfl, rfl⟩
set_option maxHeartbeats 1000000 in
theorem countOf_branch (b n c : Nat) (A : Option Addr) (w : World) (h0 : w.cell? ⟨b, 0, none⟩ = some (.slice A n c)) : Calls Tryz.prog 170 #[brv b] w fun e w' => e = .returned (.int .i64 n) ∧ w' = w := by
  have t1 := ta_bl
  have t2 := tp_b
  unfold brv at *
  go_enter Tryz.func170, Tryz.ntmps170
  go_wp2
  go_ret
  exact ⟨rfl, rfl⟩
theorem countOf_any (h : Nat) (w : World) (k : Kd) (hk : NodeAt h w k) : Calls Tryz.prog 170 #[k.v] w fun e w' => e = .returned (.int .i64 k.c) ∧ w' = w := by
  match h, hk with
  | 1, ⟨b, A, c, q⟩ => rw [q.v]; exact countOf_leaf b k.c c A w (raw_lcs q.raw).1
  | h + 2, ⟨b, A, c, ks, q, _⟩ => rw [q.v]; exact countOf_branch b k.c c A w (raw_bcs q.raw).1
set_option maxHeartbeats 1000000 in
theorem lsum_any (b n c : Nat) (A : Option Addr) (s : S6) (w : World) (hr : RawAt 223 w b (lcs A n c s)) :
    Calls Tryz.prog 200 #[.pointer (some ⟨b, 0, none⟩)] w fun e w' => e = .returned (.agg (scs s)) ∧ Below w.heap.size w w' := by
  have hb1 : Below w.heap.size w (w.alloc (.cells (scs s0) 129)) := (Below.refl _ _).alloc (Nat.le_refl _) _
  have h1 := raw_lcs (hr.below hb1 hr.lt)
  have r1 : RawAt 129 (w.alloc (.cells (scs s0) 129)) w.heap.size (scs s0) := heap_alloc_new w _
  have hlt := hr.lt
  obtain ⟨e0, e1, e2, e3, e4, e5, e6⟩ := h1
  have f0 := r1.free 0
  have f1 := r1.free 1
  have f2 := r1.free 2
  have f3 := r1.free 3
  have f4 := r1.free 4
  have f5 := r1.free 5
  have hlt1 := r1.lt
  clear r1 hr
  unfold scs s0 at *
  go_enter Tryz.func200, Tryz.ntmps200
  go_wp2
  refine bodyPost_ret (v := .agg #[.int .i64 s.n, .int .i64 s.d0, .int .i64 s.d1, .int .i64 s.d2, .int .i64 s.mx, .int .i64 s.pl]) (by simp [results, Tryz.results200, go_sem]) rfl ⟨rfl, ?_⟩
  (repeat' (first | (with_reducible exact hb1) | (with_reducible exact Below.refl _ _) | (with_reducible refine Below.setCell ?_ ?_ _) | (with_reducible refine Below.drew ?_) | (with_reducible refine Below.alloc ?_ ?_ _))) <;> first | exact Nat.le_refl _ | (simp; done) | (simp; omega)
set_option maxHeartbeats 1000000 in
theorem bsum_any (b n c h : Nat) (A : Option Addr) (s : S6) (w : World) (hr : RawAt 251 w b (bcs A n c s h)) :
    Calls Tryz.prog 201 #[.pointer (some ⟨b, 0, none⟩)] w fun e w' => e = .returned (.agg (scs s)) ∧ Below w.heap.size w w' := by
  have hb1 : Below w.heap.size w (w.alloc (.cells (scs s0) 129)) := (Below.refl _ _).alloc (Nat.le_refl _) _
  have h1 := raw_bcs (hr.below hb1 hr.lt)
  have r1 : RawAt 129 (w.alloc (.cells (scs s0) 129)) w.heap.size (scs s0) := heap_alloc_new w _
  have hlt := hr.lt
  obtain ⟨e0, e1, e2, e3, e4, e5, e6, e7⟩ := h1
  have f0 := r1.free 0
  have f1 := r1.free 1
  have f2 := r1.free 2
  have f3 := r1.free 3
  have f4 := r1.free 4
  have f5 := r1.free 5
  have hlt1 := r1.lt
  clear r1 hr
  unfold scs s0 at *
  go_enter Tryz.func201, Tryz.ntmps201
  go_wp2
  refine bodyPost_ret (v := .agg #[.int .i64 s.n, .int .i64 s.d0, .int .i64 s.d1, .int .i64 s.d2, .int .i64 s.mx, .int .i64 s.pl]) (by simp [results, Tryz.results201, go_sem]) rfl ⟨rfl, ?_⟩
  (repeat' (first | (with_reducible exact hb1) | (with_reducible exact Below.refl _ _) | (with_reducible refine Below.setCell ?_ ?_ _) | (with_reducible refine Below.drew ?_) | (with_reducible refine Below.alloc ?_ ?_ _))) <;> first | exact Nat.le_refl _ | (simp; done) | (simp; omega)
/-- What a call of sum through the interface comes to. -/
theorem na_l (f b : Nat) (w : World) : (nilAhead (f + 1) 219 (.pointer (some ⟨b, 0, none⟩)) "bodkin/tree.sum").run Tryz.prog w = .ok (some false) w := by kernel_rfl
theorem na_b (f b : Nat) (w : World) : (nilAhead (f + 1) 225 (.pointer (some ⟨b, 0, none⟩)) "bodkin/tree.sum").run Tryz.prog w = .ok (some false) w := by kernel_rfl
theorem me_l (f b : Nat) (w : World) : (method (f + 1) 219 (.pointer (some ⟨b, 0, none⟩)) "bodkin/tree.sum").run Tryz.prog w = .ok (200, .pointer (some ⟨b, 0, none⟩)) w := by kernel_rfl
theorem me_b (f b : Nat) (w : World) : (method (f + 1) 225 (.pointer (some ⟨b, 0, none⟩)) "bodkin/tree.sum").run Tryz.prog w = .ok (201, .pointer (some ⟨b, 0, none⟩)) w := by kernel_rfl
theorem node_info : (Tryz.prog.info? 183).map (fun i => (i.zero, i.size, i.bytes)) = some (some .nilIface, 1, 16) := by kernel_rfl
theorem VsAt.of_cells {w : World} {b off : Nat} {l : List Value} (hb : b < w.heap.size) (h : ∀ j u, l[j]? = some u → w.cell? ⟨b, off + j, none⟩ = some u) : VsAt w (some ⟨b, off, none⟩) l := by
  intro _
  refine ⟨b, off, rfl, hb, fun k hk => h k _ ?_⟩
  simp [vth, List.getD, hk]
theorem VsAt.news {w : World} {a : Addr} {l : List Value} (h : VsAt w (some a) l) : ∀ (j : Nat) (u : Value), l[j]? = some u → w.cell? (a.add j) = some u := by
  intro j u hu
  have hj : j < l.length := (List.getElem?_eq_some_iff.1 hu).1
  obtain ⟨b, off, e, _, hc⟩ := h (by omega)
  obtain rfl : a = ⟨b, off, none⟩ := by injection e
  rw [Go.WideShapes.add_plain, hc j hj]
  simp [vth, List.getD, hu]
theorem vs_of_own {w : World} {base n : Nat} {e : TypeId} {v : Value} {l : List Value} (h : w.ownsRow base e 1 v n l) : ∃ A c, v = .slice A n c ∧ VsAt w A l ∧ l.length = n ∧ Caps A n c := by
  have hl : l.length = n := by have := h.1; omega
  rcases h.2 with ⟨rfl, rfl⟩ | ⟨g, cap, cur, rfl, hbg, hh, hnc, _, hsz, htake⟩
  · exact ⟨none, 0, rfl, fun hp => by omega, hl, Nat.le_refl _, fun _ => rfl⟩
  · refine ⟨_, cap, rfl, VsAt.of_cells (block_lt hh) (fun j u hu => ?_), hl, hnc, fun h => by cases h⟩
    have hj : j < l.length := (List.getElem?_eq_some_iff.1 hu).1
    rw [cell_of_row w g _ cur e (0, 0) hh, ← Array.getElem?_toList, Nat.zero_add]
    rw [← htake, List.getElem?_take, if_pos (by omega)] at hu
    exact hu
theorem NodeAt.one {h : Nat} {w : World} {k : Kd} (hk : NodeAt h w k) : k.v.oneCell' = true := by
  match h, hk with
  | 1, ⟨b, A, c, q⟩ => rw [q.v]; rfl
  | h + 2, ⟨b, A, c, ks, q, _⟩ => rw [q.v]; rfl
theorem Row.one {h : Nat} {w : World} {ks : List Kd} (hr : Row h w ks) : ∀ u ∈ kvs ks, u.oneCell' = true := by
  intro u hu
  obtain ⟨k, hk, rfl⟩ := List.mem_map.1 hu
  exact (hr k hk).one
theorem wpList_append_nodes {w : World} {ops : Array Oper} {rest : List Oper} {o : Oper} {a : Act} {Q : Exit → Act → World → Prop} (hgd : o.guard = none) (s x : Operand)
    (ho : o.op = .call { callee := .builtin .append, args := #[s, x], argTypes := #[227, 227] })
    (base : Nat) (v : Value) (n : Nat) (xs : List Value) (hs : a.eval s = v) (hown : w.ownsRow base 183 1 v n xs)
    (A : Option Addr) (m c : Nat) (l : List Value) (hx : a.eval x = .slice A m c) (hA : VsAt w A l) (h1 : ∀ u ∈ l, u.oneCell' = true) (hcap : Caps A m c) (hl : l.length = m) (hsz : n + m ≤ 1000000000) (hbase : base ≤ w.heap.size)
    (h : ∀ v' w', w'.ownsRow base 183 1 v' (n + m) (xs ++ l) → w.grownBy w' v.ownBlock → wpList Tryz.prog ops Q rest (a.put o.dst v') w') : wpList Tryz.prog ops Q (o :: rest) a w := by
  obtain ⟨i0, hi0, hz0, hz1, hz2⟩ := info_parts node_info
  rcases A with _ | ad
  · obtain rfl := hcap.2 rfl
    have hm : m = 0 := by have := hcap.1; omega
    subst hm
    have hl0 : l = [] := List.eq_nil_of_length_eq_zero hl
    subst hl0
    exact wpList_append_own_none hgd s x _ ho base 183 i0 1 Tryz.underlying227 hi0 v n xs hs hown hx (h v w (by simpa using hown) (World.grownBy.refl w _))
  · exact wpList_append_own w hgd s x _ ho base 183 i0 _ 1 16 Tryz.underlying227 hi0 hz0 hz1 hz2 rfl (by omega) v n xs hs hown ad m c l hx (by omega) hA.news
      h1 (by simp only [maxLen]; omega) (by omega) hbase (fun v' w' h1 h2 _ => h v' w' h1 h2)
/-- The empty row that is the call's own. -/
theorem own_empty (w : World) (base : Nat) (e : TypeId) (size : Nat) (hb : base ≤ w.heap.size) : (w.alloc (.cells #[] e)).ownsRow base e size (.slice (some ⟨w.heap.size, 0, none⟩) 0 0) 0 [] :=
  ⟨by simp, .inr ⟨w.heap.size, 0, #[], rfl, hb, heap_alloc_new w _, Nat.le_refl _, Nat.zero_le _, by simp, by simp⟩⟩
/-- A world that agrees with another one on some blocks. -/
def Agr (lo hi : Nat) (w W : World) : Prop := hi ≤ W.heap.size ∧ ∀ b, lo ≤ b → b < hi → W.heap[b]? = w.heap[b]?
theorem Agr.self (lo : Nat) (w : World) : Agr lo w.heap.size w w := ⟨Nat.le_refl _, fun _ _ _ => rfl⟩
theorem Agr.below {lo : Nat} {w w' W : World} (h : Agr lo w'.heap.size w' W) (hb : Below w.heap.size w w') : Agr lo w.heap.size w W :=
  ⟨Nat.le_trans hb.size h.1, fun b h1 h2 => (h.2 b h1 (Nat.lt_of_lt_of_le h2 hb.size)).trans (hb.block b h2)⟩
theorem own_agr {w W : World} {base : Nat} {e : TypeId} {size : Nat} {v : Value} {n : Nat} {xs : List Value} (h : w.ownsRow base e size v n xs) (hb : Agr base w.heap.size w W) : W.ownsRow base e size v n xs := by
  refine ⟨h.1, ?_⟩
  rcases h.2 with h2 | ⟨g, cap, cur, rfl, hB, c, h3⟩
  · exact .inl h2
  · exact .inr ⟨g, cap, cur, rfl, hB, (hb.2 g hB (block_lt c)).trans c, h3⟩
set_option maxHeartbeats 4000000 in
set_option maxRecDepth 100000 in
theorem cloneI_any (A : Option Addr) (n c : Nat) (l : List I7) (w : World) (hA : ItsAt w A l) (hl : l.length = n) (hp : 0 < n) (hn : n ≤ 100000) (hc : Caps A n c) :
    Calls Tryz.prog 165 #[.slice A n c] w fun e w' => ∃ A' c', e = .returned (.slice A' n c') ∧ Below w.heap.size w w' ∧ (∀ W, Agr w.heap.size w'.heap.size w' W → ItsAt W A' l) ∧ Caps A' n c' := by
  have HA := Lib.hid hA
  have HL := Lib.hid hl
  have HC := Lib.hid hc
  obtain ⟨b, off, rfl, _, _⟩ := hA (by omega)
  clear hA hl hc
  have qT : ∀ (w : World) (a : Option Addr) (n c n' c' : Nat), (binOp .eql 138 (.slice a n c) (.slice none n' c')).run Tryz.prog w = .ok (.bool a.isNone) w := fun w a n c n' c' => Lib.run_eql_slice_nil w _ _ a n c n' c' Tryz.underlying138
  go_enter Tryz.func165, Tryz.ntmps165
  go_wp2_with (at_builtin; refine wpList_append_items rfl (.tmp 5) (.tmp 6) rfl w.heap.size (.slice (some ⟨w.heap.size, 0, none⟩) 0 0) 0 [] rfl (own_empty w _ _ _ (Nat.le_refl _)) (some ⟨b, off, none⟩) n c l rfl (HA.out.below ((Below.refl _ _).alloc (Nat.le_refl _) _)) HC.out HL.out (by omega) (by simp) ?_; intro v3 w3 hown3 hg3)
  have a3 : Below w.heap.size w w3 := ((Below.refl _ _).alloc (Nat.le_refl _) _).grown hg3 (by simp) (fun k hk => by simp [Value.ownBlock] at hk; omega)
  rw [Nat.zero_add, List.nil_append] at hown3
  obtain ⟨A7, c7, rfl, hI7, _, hC7⟩ := its_of_own hown3
  have HX : Hid (∀ W, Agr w.heap.size w3.heap.size w3 W → ItsAt W A7 l) := fun W hW => by
    obtain ⟨A8, c8, e8, h8, _, _⟩ := its_of_own (own_agr hown3 hW)
    injection e8 with e8
    rw [e8]
    exact h8
  clear hown3 hI7
  go_wp2
  go_ret
  exact ⟨A7, c7, rfl, a3, HX.out, hC7⟩
set_option maxHeartbeats 4000000 in
set_option maxRecDepth 100000 in
theorem cloneV_any (A : Option Addr) (n c : Nat) (l : List Value) (w : World) (hA : VsAt w A l) (h1 : ∀ u ∈ l, u.oneCell' = true) (hl : l.length = n) (hp : 0 < n) (hn : n ≤ 100000) (hc : Caps A n c) :
    Calls Tryz.prog 178 #[.slice A n c] w fun e w' => ∃ A' c', e = .returned (.slice A' n c') ∧ Below w.heap.size w w' ∧ (∀ W, Agr w.heap.size w'.heap.size w' W → VsAt W A' l) ∧ Caps A' n c' := by
  have HA := Lib.hid hA
  have HL := Lib.hid hl
  have HC := Lib.hid hc
  have H1 := Lib.hid h1
  obtain ⟨b, off, rfl, _, _⟩ := hA (by omega)
  clear hA hl hc h1
  have qT : ∀ (w : World) (a : Option Addr) (n c n' c' : Nat), (binOp .eql 227 (.slice a n c) (.slice none n' c')).run Tryz.prog w = .ok (.bool a.isNone) w := fun w a n c n' c' => Lib.run_eql_slice_nil w _ _ a n c n' c' Tryz.underlying227
  go_enter Tryz.func178, Tryz.ntmps178
  go_wp2_with (at_builtin; refine wpList_append_nodes rfl (.tmp 5) (.tmp 6) rfl w.heap.size (.slice (some ⟨w.heap.size, 0, none⟩) 0 0) 0 [] rfl (own_empty w _ _ _ (Nat.le_refl _)) (some ⟨b, off, none⟩) n c l rfl (HA.out.below ((Below.refl _ _).alloc (Nat.le_refl _) _)) H1.out HC.out HL.out (by omega) (by simp) ?_; intro v3 w3 hown3 hg3)
  have a3 : Below w.heap.size w w3 := ((Below.refl _ _).alloc (Nat.le_refl _) _).grown hg3 (by simp) (fun k hk => by simp [Value.ownBlock] at hk; omega)
  rw [Nat.zero_add, List.nil_append] at hown3
  obtain ⟨A7, c7, rfl, hI7, _, hC7⟩ := vs_of_own hown3
  have HX : Hid (∀ W, Agr w.heap.size w3.heap.size w3 W → VsAt W A7 l) := fun W hW => by
    obtain ⟨A8, c8, e8, h8, _, _⟩ := vs_of_own (own_agr hown3 hW)
    injection e8 with e8
    rw [e8]
    exact h8
  clear hown3 hI7
  go_wp2
  go_ret
  exact ⟨A7, c7, rfl, a3, HX.out, hC7⟩
/-- Where a part begins. -/
def cutAt (n m k : Nat) : Nat := k * n / m
theorem nat_quo (x m : Nat) (hx : x < 9223372036854775808) : (x : Int) / (m : Int) = ((x / m : Nat) : Int) ∧ Int.tdiv (x : Int) (m : Int) = ((x / m : Nat) : Int) ∧ IntKind.i64.wrap (((x / m : Nat) : Int)) = ((x / m : Nat) : Int) := by
  have h1 : (x / m : Nat) ≤ x := Nat.div_le_self x m
  refine ⟨by simp, by rw [Int.ofNat_tdiv], ?_⟩
  generalize x / m = q at *
  exact IntWalk.i64_in _ (by omega)
theorem item_slice_info : (Tryz.prog.info? 138).map (fun i => (i.zero, i.size, i.bytes)) = some (some (.slice none 0 0), 1, 24) := by kernel_rfl
def part7 (A : Option Addr) (n c m k : Nat) : Value := .slice (A.map (·.add (cutAt n m k * 7))) (cutAt n m (k + 1) - cutAt n m k) (c - cutAt n m k)
theorem cutAt_le (n m k : Nat) (h : k ≤ m) : cutAt n m k ≤ n := by
  unfold cutAt
  rcases Nat.eq_zero_or_pos m with rfl | hm
  · simp
  · exact Nat.div_le_of_le_mul (Nat.mul_le_mul_right n h)
theorem cutAt_mono (n m k : Nat) : cutAt n m k ≤ cutAt n m (k + 1) := Nat.div_le_div_right (Nat.mul_le_mul_right n (Nat.le_succ k))
theorem cutAt_lt (n m k : Nat) (h : 0 < m) (h2 : m ≤ n) : cutAt n m k < cutAt n m (k + 1) := by
  unfold cutAt
  have e : (k * n + m) / m = k * n / m + 1 := Nat.add_div_right _ h
  have h3 : (k * n + m) / m ≤ (k + 1) * n / m := Nat.div_le_div_right (by rw [Nat.succ_mul]; omega)
  omega
set_option maxHeartbeats 4000000 in
set_option maxRecDepth 100000 in
theorem spreadI_any (A : Option Addr) (n c m : Nat) (w : World) (hc : Caps A n c) (hn : n ≤ 100000) (hm : m = (n + 7) / 8) :
    Calls Tryz.prog 176 #[.slice A n c] w fun e w' => ∃ P cp, e = .returned (.slice P m cp) ∧ Below w.heap.size w w' ∧ VsAt w' P ((List.range m).map (part7 A n c m)) ∧ Caps P m cp := by
  obtain ⟨i0, hi0, hz0, hz1, hz2⟩ := info_parts item_slice_info
  obtain ⟨i1, hi1, _, _, _⟩ := info_parts item_info
  have hM : ((n : Int) + 8 - 1) / 8 = (m : Int) := by omega
  have hm1 : m ≤ 100000 := by omega
  have HM := Lib.hid hm; clear hm
  go_enter Tryz.func176, Tryz.ntmps176
  go_wp2
  rw [hM]
  clear hM
  go_loopg [4, 12] m (fun k v i wr => ∃ j : Nat, i = .int .i64 j ∧ j ≤ m ∧ m - j ≤ k ∧ Below w.heap.size w wr ∧ Hid (wr.ownsRow w.heap.size 138 1 v j ((List.range j).map (part7 A n c m))))
  case atStart => exact ⟨0, rfl, by omega, by omega, Below.refl _ _, World.ownsRow_nil _ _ _ _⟩
  case round =>
    obtain ⟨j, rfl, h1, h2, hb, hown⟩ := hrel
    have hsz := hb.size
    by_cases hlt : j < m
    · have k1 := cutAt_mono n m j
      have k2 := cutAt_le n m (j + 1) hlt
      have hm0 : ((m : Int) = 0) = False := by simp; omega
      obtain ⟨x, hx⟩ : ∃ x : Nat, x = j * n := ⟨_, rfl⟩
      obtain ⟨y, hy⟩ : ∃ y : Nat, y = (j + 1) * n := ⟨_, rfl⟩
      have hbx : x ≤ 10000000000 := by rw [hx]; exact Nat.mul_le_mul (show j ≤ 100000 by omega) hn
      have hby : y ≤ 10000000000 := by rw [hy]; exact Nat.mul_le_mul (show j + 1 ≤ 100000 by omega) hn
      have q1 : IntKind.i64.wrap ((j : Int) * (n : Int)) = (x : Int) := by
        rw [show (j : Int) * (n : Int) = (x : Int) by rw [hx]; push_cast; rfl]
        exact IntWalk.i64_in _ (by omega)
      have q2 : IntKind.i64.wrap (((j : Int) + 1) * (n : Int)) = (y : Int) := by
        rw [show ((j : Int) + 1) * (n : Int) = (y : Int) by rw [hy]; push_cast; rfl]
        exact IntWalk.i64_in _ (by omega)
      have hm0 : ¬ m = 0 := by omega
      have q0 : IntKind.i64.wrap ((j : Int) + 1) = (j : Int) + 1 := IntWalk.i64_in _ (by omega)
      have k3 : cutAt n m (j + 1) ≤ c := by have := hc.1; omega
      have d1 : IntKind.i64.wrap ((x : Int) / (m : Int)) = ((cutAt n m j : Nat) : Int) := by
        obtain ⟨e1, _, e3⟩ := nat_quo x m (by omega)
        rw [e1, e3, hx]; rfl
      have d2 : IntKind.i64.wrap ((y : Int) / (m : Int)) = ((cutAt n m (j + 1) : Nat) : Int) := by
        obtain ⟨e1, _, e3⟩ := nat_quo y m (by omega)
        rw [e1, e3, hy]; rfl
      clear hx hy
      have k4 := cutAt_lt n m j (by omega) (by have := HM.out; omega)
      have k5 : ¬ c = cutAt n m j := by omega
      generalize hlo : cutAt n m j = lo at *
      generalize hhi : cutAt n m (j + 1) = hi at *
      have HPA := Lib.hid (show part7 A n c m j = .slice (A.map (·.add (lo * 7))) (hi - lo) (c - lo) by unfold part7; rw [hlo, hhi])
      clear hlo hhi
      have i1 : (0 : Int) ≤ (lo : Int) := by omega
      have i2 : (0 : Int) ≤ (hi : Int) := by omega
      have i3 : (lo : Int) ≤ (hi : Int) := by omega
      have i4 : (hi : Int) ≤ (c : Int) := by omega
      have i5 : ¬ (c - lo = 0) := by omega
      have HP := Lib.hid (show (List.range (j + 1)).map (part7 A n c m) = (List.range j).map (part7 A n c m) ++ [.slice (A.map (·.add (lo * 7))) (hi - lo) (c - lo)] by rw [List.range_succ, List.map_append]; show _ ++ [part7 A n c m j] = _; rw [HPA.out])
      generalize hls : (List.range j).map (part7 A n c m) = ls at *
      clear hls
      go_wp2_with fail
      go_region_held3 (fun W => True) (exact True.intro)
        ((refine step_append_lies _ (by rfl) _ _ _ (by rfl) w.heap.size 138 i0 _ 1 24 Tryz.underlying264 hi0 hz0 hz1 hz2 rfl (by omega) u4 j ls (by rfl) ((hown.out.alloc _).drew) ⟨wr.heap.size, 0, none⟩ 1 1 [.slice (A.map (·.add (lo * 7))) (hi - lo) (c - lo)] (by rfl) (by rfl) (World.news_of_block (cs := #[.slice (A.map (·.add (lo * 7))) (hi - lo) (c - lo)]) (t := 138) (fr := (0, 0)) (heap_alloc_new wr _)) (by simp [Value.oneCell']) (by omega) (by unfold maxLen; omega) (by omega) (by simp; omega) (wr.heap.size + 1) (by simp) ?_; intro gg cap w4 hown4 hg4 hat hlt4))
      have hb4 : Below w.heap.size w w4 := ((hb.alloc hsz _).drew).grown hg4 (by simp; omega) (fun k hk => (hown.out.lt k hk).1)
      go_wp2
      go_roundg (gk - 1)
      case measure => omega
      case rel => exact ⟨j + 1, by go_num, by omega, by omega, hb4, by rw [HP.out]; exact hown4⟩
    · have hj : j = m := by omega
      subst hj
      obtain ⟨A2, c2, rfl, hI, hl2, hcap⟩ := vs_of_own hown.out
      have HI := Lib.hid hI; clear hI
      have HCP := Lib.hid hcap; clear hcap
      clear hown hl2
      go_wp2
      go_ret
      exact ⟨A2, c2, rfl, hb, HI.out, HCP.out⟩
theorem node_slice_info : (Tryz.prog.info? 227).map (fun i => (i.zero, i.size, i.bytes)) = some (some (.slice none 0 0), 1, 24) := by kernel_rfl
def part1 (A : Option Addr) (n c m k : Nat) : Value := .slice (A.map (·.add (cutAt n m k))) (cutAt n m (k + 1) - cutAt n m k) (c - cutAt n m k)
set_option maxHeartbeats 4000000 in
set_option maxRecDepth 100000 in
theorem spreadV_any (A : Option Addr) (n c m : Nat) (w : World) (hc : Caps A n c) (hn : n ≤ 100000) (hm : m = (n + 7) / 8) :
    Calls Tryz.prog 177 #[.slice A n c] w fun e w' => ∃ P cp, e = .returned (.slice P m cp) ∧ Below w.heap.size w w' ∧ VsAt w' P ((List.range m).map (part1 A n c m)) ∧ Caps P m cp := by
  obtain ⟨i0, hi0, hz0, hz1, hz2⟩ := info_parts node_slice_info
  obtain ⟨i1, hi1, _, _, _⟩ := info_parts node_info
  have hM : ((n : Int) + 8 - 1) / 8 = (m : Int) := by omega
  have hm1 : m ≤ 100000 := by omega
  have HM := Lib.hid hm; clear hm
  go_enter Tryz.func177, Tryz.ntmps177
  go_wp2
  rw [hM]
  clear hM
  go_loopg [4, 12] m (fun k v i wr => ∃ j : Nat, i = .int .i64 j ∧ j ≤ m ∧ m - j ≤ k ∧ Below w.heap.size w wr ∧ Hid (wr.ownsRow w.heap.size 227 1 v j ((List.range j).map (part1 A n c m))))
  case atStart => exact ⟨0, rfl, by omega, by omega, Below.refl _ _, World.ownsRow_nil _ _ _ _⟩
  case round =>
    obtain ⟨j, rfl, h1, h2, hb, hown⟩ := hrel
    have hsz := hb.size
    by_cases hlt : j < m
    · have k1 := cutAt_mono n m j
      have k2 := cutAt_le n m (j + 1) hlt
      have hm0 : ((m : Int) = 0) = False := by simp; omega
      obtain ⟨x, hx⟩ : ∃ x : Nat, x = j * n := ⟨_, rfl⟩
      obtain ⟨y, hy⟩ : ∃ y : Nat, y = (j + 1) * n := ⟨_, rfl⟩
      have hbx : x ≤ 10000000000 := by rw [hx]; exact Nat.mul_le_mul (show j ≤ 100000 by omega) hn
      have hby : y ≤ 10000000000 := by rw [hy]; exact Nat.mul_le_mul (show j + 1 ≤ 100000 by omega) hn
      have q1 : IntKind.i64.wrap ((j : Int) * (n : Int)) = (x : Int) := by
        rw [show (j : Int) * (n : Int) = (x : Int) by rw [hx]; push_cast; rfl]
        exact IntWalk.i64_in _ (by omega)
      have q2 : IntKind.i64.wrap (((j : Int) + 1) * (n : Int)) = (y : Int) := by
        rw [show ((j : Int) + 1) * (n : Int) = (y : Int) by rw [hy]; push_cast; rfl]
        exact IntWalk.i64_in _ (by omega)
      have hm0 : ¬ m = 0 := by omega
      have q0 : IntKind.i64.wrap ((j : Int) + 1) = (j : Int) + 1 := IntWalk.i64_in _ (by omega)
      have k3 : cutAt n m (j + 1) ≤ c := by have := hc.1; omega
      have d1 : IntKind.i64.wrap ((x : Int) / (m : Int)) = ((cutAt n m j : Nat) : Int) := by
        obtain ⟨e1, _, e3⟩ := nat_quo x m (by omega)
        rw [e1, e3, hx]; rfl
      have d2 : IntKind.i64.wrap ((y : Int) / (m : Int)) = ((cutAt n m (j + 1) : Nat) : Int) := by
        obtain ⟨e1, _, e3⟩ := nat_quo y m (by omega)
        rw [e1, e3, hy]; rfl
      clear hx hy
      have k4 := cutAt_lt n m j (by omega) (by have := HM.out; omega)
      have k5 : ¬ c = cutAt n m j := by omega
      generalize hlo : cutAt n m j = lo at *
      generalize hhi : cutAt n m (j + 1) = hi at *
      have HPA := Lib.hid (show part1 A n c m j = .slice (A.map (·.add lo)) (hi - lo) (c - lo) by unfold part1; rw [hlo, hhi])
      clear hlo hhi
      have i1 : (0 : Int) ≤ (lo : Int) := by omega
      have i2 : (0 : Int) ≤ (hi : Int) := by omega
      have i3 : (lo : Int) ≤ (hi : Int) := by omega
      have i4 : (hi : Int) ≤ (c : Int) := by omega
      have i5 : ¬ (c - lo = 0) := by omega
      have HP := Lib.hid (show (List.range (j + 1)).map (part1 A n c m) = (List.range j).map (part1 A n c m) ++ [.slice (A.map (·.add lo)) (hi - lo) (c - lo)] by rw [List.range_succ, List.map_append]; show _ ++ [part1 A n c m j] = _; rw [HPA.out])
      generalize hls : (List.range j).map (part1 A n c m) = ls at *
      clear hls
      go_wp2_with fail
      go_region_held3 (fun W => True) (exact True.intro)
        ((refine step_append_lies _ (by rfl) _ _ _ (by rfl) w.heap.size 227 i0 _ 1 24 Tryz.underlying266 hi0 hz0 hz1 hz2 rfl (by omega) u4 j ls (by rfl) ((hown.out.alloc _).drew) ⟨wr.heap.size, 0, none⟩ 1 1 [.slice (A.map (·.add lo)) (hi - lo) (c - lo)] (by rfl) (by rfl) (World.news_of_block (cs := #[.slice (A.map (·.add lo)) (hi - lo) (c - lo)]) (t := 227) (fr := (0, 0)) (heap_alloc_new wr _)) (by simp [Value.oneCell']) (by omega) (by unfold maxLen; omega) (by omega) (by simp; omega) (wr.heap.size + 1) (by simp) ?_; intro gg cap w4 hown4 hg4 hat hlt4))
      have hb4 : Below w.heap.size w w4 := ((hb.alloc hsz _).drew).grown hg4 (by simp; omega) (fun k hk => (hown.out.lt k hk).1)
      go_wp2
      go_roundg (gk - 1)
      case measure => omega
      case rel => exact ⟨j + 1, by go_num, by omega, by omega, hb4, by rw [HP.out]; exact hown4⟩
    · have hj : j = m := by omega
      subst hj
      obtain ⟨A2, c2, rfl, hI, hl2, hcap⟩ := vs_of_own hown.out
      have HI := Lib.hid hI; clear hI
      have HCP := Lib.hid hcap; clear hcap
      clear hown hl2
      go_wp2
      go_ret
      exact ⟨A2, c2, rfl, hb, HI.out, HCP.out⟩
/-- What sumOf asks of a node, or of none. -/
def SumK (w : World) (k : Kd) : Prop := Okl k.l ∧ ((k.v = .nilIface ∧ k.l = []) ∨ (∃ b A n c, k.v = lfv b ∧ RawAt 223 w b (lcs A n c (sall k.l))) ∨ (∃ b A n c h, k.v = brv b ∧ RawAt 251 w b (bcs A n c (sall k.l) h)))
theorem SumK.below {w w' : World} {k : Kd} (h : SumK w k) (hb : Below w.heap.size w w') : SumK w' k := by
  obtain ⟨ho, h | ⟨b, A, n, c, h1, h2⟩ | ⟨b, A, n, c, i, h1, h2⟩⟩ := h
  · exact ⟨ho, .inl h⟩
  · exact ⟨ho, .inr (.inl ⟨b, A, n, c, h1, h2.below hb h2.lt⟩)⟩
  · exact ⟨ho, .inr (.inr ⟨b, A, n, c, i, h1, h2.below hb h2.lt⟩)⟩
theorem NodeAt.sumK {h : Nat} {w : World} {k : Kd} (hk : NodeAt h w k) : SumK w k := by
  match h, hk with
  | 1, ⟨b, A, c, q⟩ => exact ⟨q.ok, .inr (.inl ⟨b, A, k.c, c, q.v, q.raw⟩)⟩
  | h + 2, ⟨b, A, c, ks, q, _⟩ => exact ⟨q.ok, .inr (.inr ⟨b, A, k.c, c, h + 2, q.v, q.raw⟩)⟩
theorem sall_fl {ks : List Kd} {j : Nat} (hj : j < ks.length) (ho : ∀ k ∈ ks, Okl k.l) : sall (fl (ks.take (j + 1))) = sadd (sall (fl (ks.take j))) (sall (kth ks j).l) := by
  rw [fl_take ks hj]
  refine sall_append _ _ _ rfl (fun i hi => ?_) (ho _ (kth_mem ks hj))
  obtain ⟨k, hk, h2⟩ := List.mem_flatMap.1 hi
  exact ho k (List.mem_of_mem_take hk) i h2
theorem ne_n (w : World) : (binOp .neq 183 .nilIface .nilIface).run Tryz.prog w = .ok (.bool false) w := by kernel_rfl
theorem ne_l (w : World) (b : Nat) : (binOp .neq 183 (lfv b) .nilIface).run Tryz.prog w = .ok (.bool true) w := by kernel_rfl
theorem ne_b (w : World) (b : Nat) : (binOp .neq 183 (brv b) .nilIface).run Tryz.prog w = .ok (.bool true) w := by kernel_rfl
set_option maxHeartbeats 4000000 in
set_option maxRecDepth 100000 in
theorem sumOf_any (A : Option Addr) (n c : Nat) (ks : List Kd) (w : World) (hA : VsAt w A (kvs ks)) (hl : ks.length = n) (hn : n ≤ 100000) (hk : ∀ k ∈ ks, SumK w k) (hs : (fl ks).length ≤ 100000) :
    Calls Tryz.prog 137 #[.slice A n c] w fun e w' => e = .returned (.agg (scs (sall (fl ks)))) ∧ Below w.heap.size w w' := by
  have HA := Lib.hid hA; clear hA
  have HL := Lib.hid hl; clear hl
  have HK := Lib.hid hk; clear hk
  have HZ := Lib.hid hs; clear hs
  have n1 := ne_n
  have n2 := ne_l
  have n3 := ne_b
  have m1 := na_l
  have m2 := na_b
  have m3 := me_l
  have m4 := me_b
  go_enter Tryz.func137, Tryz.ntmps137
  go_wp2
  obtain ⟨hr0, hq0, hb0, hs0⟩ := new2 w 129 129 (scs s0) (scs s0)
  change Code.wp _ _ _ _ ((w.alloc (.cells (scs s0) 129)).alloc (.cells (scs s0) 129))
  generalize ((w.alloc (.cells (scs s0) 129)).alloc (.cells (scs s0) 129)) = W1 at *
  have HQ := Lib.hid hq0; clear hq0
  have HR := Lib.hid hr0; clear hr0
  have HS := Lib.hid hs0; clear hs0
  go_loopg [8] n (fun k i wr => ∃ j : Nat, i = .int .i64 j ∧ j ≤ n ∧ n - j ≤ k ∧ Below (w.heap.size + 1) W1 wr ∧ Hid (RawAt 129 wr (w.heap.size + 1) (scs (sall (fl (ks.take j))))))
  case atStart => exact ⟨0, rfl, by omega, by omega, (Below.refl _ _).mono (Nat.le_of_eq rfl), HQ⟩
  case round =>
    obtain ⟨j, rfl, h1, h2, hb, hq⟩ := hrel
    have hsz : w.heap.size + 2 ≤ wr.heap.size := by have := HS.out; have := hb.size; omega
    have hbw := hb0.trans (hb.mono (Nat.le_succ _))
    by_cases hlt : j < n
    · have hm : j < ks.length := by rw [HL.out]; exact hlt
      obtain ⟨b, off, rfl, hbs, hc⟩ := HA.out (by rw [kvs_length]; omega)
      have e0 := hc j (by rw [kvs_length]; exact hm)
      rw [vth_kvs ks hm] at e0
      clear hc
      obtain ⟨H1, H2⟩ := old_cells hbw
      have hkj := (HK.out _ (kth_mem ks hm)).below hbw
      have hst := sall_fl hm (fun k hk => (HK.out k hk).1)
      have hfl : fl (ks.take (j + 1)) = fl (ks.take j) ++ (kth ks j).l := fl_take ks hm
      have hlen : (fl (ks.take (j + 1))).length ≤ 100000 := by
        have := HZ.out
        rw [← List.take_append_drop (j + 1) ks, fl_append, List.length_append] at this
        omega
      rw [hfl, List.length_append] at hlen
      have hok := sall_ok _ (fl (ks.take j)) rfl (fun i hi => by
        obtain ⟨k, hk, h2⟩ := List.mem_flatMap.1 hi
        exact (HK.out k (List.mem_of_mem_take hk)).1 i h2)
      have hoi := sall_ok _ (kth ks j).l rfl hkj.1
      have CD := Lib.hid fun (W : World) => iadd_any _ _ _ _ _ hok hoi (by omega) (by omega) hst.symm W
      clear hok hoi
      obtain ⟨_, hkj⟩ := hkj
      rcases hkj with ⟨hv, hnil⟩ | ⟨bk, Ak, nk, ck, hv, hraw⟩ | ⟨bk, Ak, nk, ck, ik, hv, hraw⟩
      · have HX := Lib.hid (show fl (ks.take (j + 1)) = fl (ks.take j) by rw [hfl, hnil, List.append_nil])
        rw [hv] at e0
        clear hfl hst CD hv hnil
        go_wp2_with fail
        go_roundg (gk - 1)
        case measure => omega
        case rel => exact ⟨j + 1, by go_num, by omega, by omega, hb, by rw [HX.out]; exact hq⟩
      · rw [hv] at e0
        have CS := Lib.hid fun (W : World) (hW : Below wr.heap.size wr W) => lsum_any bk nk ck Ak _ W (hraw.below hW hraw.lt)
        clear hfl hraw hv hst
        generalize hu : sall (fl (ks.take (j + 1))) = u at *
        have HU := Lib.hid hu; clear hu
        generalize sall (fl (ks.take j)) = z at *
        generalize sall (kth ks j).l = y at *
        unfold lfv at *
        unfold scs at CS CD
        have hzl := RawAt.lt hq.out
        obtain ⟨z0, z1, z2, z3, z4, z5⟩ := raw_scs hq.out
        have HZ1 := Lib.hid hq.out; clear hq
        go_wp2_with fail
        go_region_with (first
          | (go_at_call 200; ((with_reducible refine (CS.out _ (by first | exact Below.refl _ _ | exact (Below.refl _ _).drew)).mono ?_); rintro e w2 ⟨rfl, hb2⟩); have hr2 := RawAt.below (RawAt.drew_ HZ1.out) hb2 hzl; obtain ⟨d0, d1, d2, d3, d4, d5⟩ := raw_scs hr2)
          | (go_at_call 100; ((with_reducible refine (CD.out _).mono ?_); rintro e w3 ⟨rfl, hb3⟩); have hr3 := RawAt.below hr2 hb3 (RawAt.lt hr2); obtain ⟨g0, g1, g2, g3, g4, g5⟩ := raw_scs hr3; have f0 := RawAt.free hr3 0; have f1 := RawAt.free hr3 1; have f2 := RawAt.free hr3 2; have f3 := RawAt.free hr3 3; have f4 := RawAt.free hr3 4; have f5 := RawAt.free hr3 5))
        all_goals
          have hb4 := hb.drew.trans (hb2.mono (Nat.le_of_lt hzl))
          have hb5 := hb4.trans (hb3.mono (Nat.le_of_lt (RawAt.lt hr2)))
          go_wp2
          go_roundg (gk - 1)
          case measure => omega
          case rel => exact ⟨j + 1, by go_num, by omega, by omega, by first | exact ((((((hb5.setCell (p := ⟨w.heap.size + 1, _, none⟩) (Nat.le_refl _) _).setCell (p := ⟨w.heap.size + 1, _, none⟩) (Nat.le_refl _) _).setCell (p := ⟨w.heap.size + 1, _, none⟩) (Nat.le_refl _) _).setCell (p := ⟨w.heap.size + 1, _, none⟩) (Nat.le_refl _) _).setCell (p := ⟨w.heap.size + 1, _, none⟩) (Nat.le_refl _) _).setCell (p := ⟨w.heap.size + 1, _, none⟩) (Nat.le_refl _) _) | exact ((((((hb5.setCell (p := ⟨w.heap.size + 1, _, none⟩) (Nat.le_refl _) _).setCell (p := ⟨w.heap.size + 1, _, none⟩) (Nat.le_refl _) _).setCell (p := ⟨w.heap.size + 1, _, none⟩) (Nat.le_refl _) _).setCell (p := ⟨w.heap.size + 1, _, none⟩) (Nat.le_refl _) _).setCell (p := ⟨w.heap.size + 1, _, none⟩) (Nat.le_refl _) _).setCell (p := ⟨w.heap.size + 1, _, none⟩) (Nat.le_refl _) _).drew, by rw [HU.out]; refine Lib.hid ?_; exact (RawAt.set_ (RawAt.set_ (RawAt.set_ (RawAt.set_ (RawAt.set_ (RawAt.set_ hr3 _ _) _ _) _ _) _ _) _ _) _ _).of_eq (by simp [scs])⟩
      · rw [hv] at e0
        have CS := Lib.hid fun (W : World) (hW : Below wr.heap.size wr W) => bsum_any bk nk ck ik Ak _ W (hraw.below hW hraw.lt)
        clear hfl hraw hv hst
        generalize hu : sall (fl (ks.take (j + 1))) = u at *
        have HU := Lib.hid hu; clear hu
        generalize sall (fl (ks.take j)) = z at *
        generalize sall (kth ks j).l = y at *
        unfold brv at *
        unfold scs at CS CD
        have hzl := RawAt.lt hq.out
        obtain ⟨z0, z1, z2, z3, z4, z5⟩ := raw_scs hq.out
        have HZ1 := Lib.hid hq.out; clear hq
        go_wp2_with fail
        go_region_with (first
          | (go_at_call 201; ((with_reducible refine (CS.out _ (by first | exact Below.refl _ _ | exact (Below.refl _ _).drew)).mono ?_); rintro e w2 ⟨rfl, hb2⟩); have hr2 := RawAt.below (RawAt.drew_ HZ1.out) hb2 hzl; obtain ⟨d0, d1, d2, d3, d4, d5⟩ := raw_scs hr2)
          | (go_at_call 100; ((with_reducible refine (CD.out _).mono ?_); rintro e w3 ⟨rfl, hb3⟩); have hr3 := RawAt.below hr2 hb3 (RawAt.lt hr2); obtain ⟨g0, g1, g2, g3, g4, g5⟩ := raw_scs hr3; have f0 := RawAt.free hr3 0; have f1 := RawAt.free hr3 1; have f2 := RawAt.free hr3 2; have f3 := RawAt.free hr3 3; have f4 := RawAt.free hr3 4; have f5 := RawAt.free hr3 5))
        all_goals
          have hb4 := hb.drew.trans (hb2.mono (Nat.le_of_lt hzl))
          have hb5 := hb4.trans (hb3.mono (Nat.le_of_lt (RawAt.lt hr2)))
          go_wp2
          go_roundg (gk - 1)
          case measure => omega
          case rel => exact ⟨j + 1, by go_num, by omega, by omega, by first | exact ((((((hb5.setCell (p := ⟨w.heap.size + 1, _, none⟩) (Nat.le_refl _) _).setCell (p := ⟨w.heap.size + 1, _, none⟩) (Nat.le_refl _) _).setCell (p := ⟨w.heap.size + 1, _, none⟩) (Nat.le_refl _) _).setCell (p := ⟨w.heap.size + 1, _, none⟩) (Nat.le_refl _) _).setCell (p := ⟨w.heap.size + 1, _, none⟩) (Nat.le_refl _) _).setCell (p := ⟨w.heap.size + 1, _, none⟩) (Nat.le_refl _) _) | exact ((((((hb5.setCell (p := ⟨w.heap.size + 1, _, none⟩) (Nat.le_refl _) _).setCell (p := ⟨w.heap.size + 1, _, none⟩) (Nat.le_refl _) _).setCell (p := ⟨w.heap.size + 1, _, none⟩) (Nat.le_refl _) _).setCell (p := ⟨w.heap.size + 1, _, none⟩) (Nat.le_refl _) _).setCell (p := ⟨w.heap.size + 1, _, none⟩) (Nat.le_refl _) _).setCell (p := ⟨w.heap.size + 1, _, none⟩) (Nat.le_refl _) _).drew, by rw [HU.out]; refine Lib.hid ?_; exact (RawAt.set_ (RawAt.set_ (RawAt.set_ (RawAt.set_ (RawAt.set_ (RawAt.set_ hr3 _ _) _ _) _ _) _ _) _ _) _ _).of_eq (by simp [scs])⟩
    · have hj : j = n := by omega
      rw [List.take_of_length_le (by rw [HL.out]; omega)] at hq
      have hr1 := HR.out.below hb (Nat.lt_succ_self _)
      obtain ⟨c0, c1, c2, c3, c4, c5⟩ := raw_scs hq.out
      obtain ⟨r0, r1, r2, r3, r4, r5⟩ := raw_scs hr1
      have f0 := hr1.free 0
      have f1 := hr1.free 1
      have f2 := hr1.free 2
      have f3 := hr1.free 3
      have f4 := hr1.free 4
      have f5 := hr1.free 5
      go_wp2
      refine bodyPost_ret (v := .agg (scs (sall (fl ks)))) ?_ rfl ⟨rfl, ?_⟩
      · simp [results, Tryz.results137, go_sem, scs, r0, r1, r2, r3, r4, r5]
      · exact ((((((hbw.setCell (p := ⟨w.heap.size, _, none⟩) (Nat.le_refl _) _).setCell (p := ⟨w.heap.size, _, none⟩) (Nat.le_refl _) _).setCell (p := ⟨w.heap.size, _, none⟩) (Nat.le_refl _) _).setCell (p := ⟨w.heap.size, _, none⟩) (Nat.le_refl _) _).setCell (p := ⟨w.heap.size, _, none⟩) (Nat.le_refl _) _).setCell (p := ⟨w.heap.size, _, none⟩) (Nat.le_refl _) _)
set_option maxHeartbeats 4000000 in
set_option maxRecDepth 100000 in
theorem iall_any (A : Option Addr) (n c : Nat) (l : List I7) (w : World) (hA : ItsAt w A l) (hl : l.length = n) (hn : n ≤ 100000) (ho : Okl l) :
    Calls Tryz.prog 166 #[.slice A n c] w fun e w' => e = .returned (.agg (scs (sall l))) ∧ Below w.heap.size w w' := by
  have HA := Lib.hid hA; clear hA
  have HL := Lib.hid hl; clear hl
  have HO := Lib.hid ho; clear ho
  go_enter Tryz.func166, Tryz.ntmps166
  go_wp2
  obtain ⟨hr0, hq0, hb0, hs0⟩ := new2 w 129 129 (scs s0) (scs s0)
  change Code.wp _ _ _ _ ((w.alloc (.cells (scs s0) 129)).alloc (.cells (scs s0) 129))
  generalize ((w.alloc (.cells (scs s0) 129)).alloc (.cells (scs s0) 129)) = W1 at *
  have HQ := Lib.hid hq0; clear hq0
  have HR := Lib.hid hr0; clear hr0
  have HS := Lib.hid hs0; clear hs0
  go_loopg [8] n (fun k i wr => ∃ j : Nat, i = .int .i64 j ∧ j ≤ n ∧ n - j ≤ k ∧ Below (w.heap.size + 1) W1 wr ∧ Hid (RawAt 129 wr (w.heap.size + 1) (scs (sall (l.take j)))))
  case atStart => exact ⟨0, rfl, by omega, by omega, (Below.refl _ _).mono (Nat.le_of_eq rfl), HQ⟩
  case round =>
    obtain ⟨j, rfl, h1, h2, hb, hq⟩ := hrel
    have hsz : w.heap.size + 2 ≤ wr.heap.size := by have := HS.out; have := hb.size; omega
    have hbw := hb0.trans (hb.mono (Nat.le_succ _))
    by_cases hlt : j < n
    · have hm : j < l.length := by rw [HL.out]; exact hlt
      obtain ⟨b, off, rfl, hbs, hc⟩ := HA.out (by omega)
      obtain ⟨e0, e1, e2, e3, e4, e5, e6⟩ := hc j hm
      clear hc
      obtain ⟨H1, H2⟩ := old_cells hbw
      have hst := sall_take l hm
      have hlj : (l.take j).length ≤ 1000000 := by rw [List.length_take]; omega
      have hok := sall_ok _ (l.take j) rfl (HO.out.take_ j)
      have hoi := sof_ok (HO.out _ (ith_mem l hm))
      have CO := Lib.hid fun (W : World) => iof_any (ith l j) W
      have CD := Lib.hid fun (W : World) => iadd_any _ _ _ _ _ hok hoi (by omega) (by omega) hst.symm W
      clear hst hok hoi hlj
      generalize hu : sall (l.take (j + 1)) = u at *
      have HU := Lib.hid hu; clear hu
      generalize sall (l.take j) = z at *
      generalize ith l j = x at *
      have CO' : Hid (∀ (W : World), Calls Tryz.prog 101 #[.agg #[.int .i64 x.tag, .int .i64 x.id, .int .i64 x.d0, .int .i64 x.d1, .int .i64 x.d2, .int .i64 x.mx, .string x.tx]] W fun e w' => e = .returned (.agg #[.int .i64 (sof x).n, .int .i64 (sof x).d0, .int .i64 (sof x).d1, .int .i64 (sof x).d2, .int .i64 (sof x).mx, .int .i64 (sof x).pl]) ∧ Below W.heap.size W w') := CO
      have CD' : Hid (∀ (W : World), Calls Tryz.prog 100 #[.agg #[.int .i64 z.n, .int .i64 z.d0, .int .i64 z.d1, .int .i64 z.d2, .int .i64 z.mx, .int .i64 z.pl], .agg #[.int .i64 (sof x).n, .int .i64 (sof x).d0, .int .i64 (sof x).d1, .int .i64 (sof x).d2, .int .i64 (sof x).mx, .int .i64 (sof x).pl]] W fun e w' => e = .returned (.agg #[.int .i64 u.n, .int .i64 u.d0, .int .i64 u.d1, .int .i64 u.d2, .int .i64 u.mx, .int .i64 u.pl]) ∧ Below W.heap.size W w') := CD
      clear CO CD
      generalize sof x = y at *
      go_wp2_with fail
      have hxb : Below (w.heap.size + 1) wr (wr.alloc (.cells (ics x) 162)) := (Below.refl _ _).alloc (by omega) _
      have hxl : w.heap.size + 1 < wr.heap.size := by omega
      have hz1 : RawAt 129 (wr.alloc (.cells (ics x) 162)) (w.heap.size + 1) (scs z) := RawAt.below hq.out ((Below.refl _ _).alloc (Nat.le_refl _) _) hxl
      have hx1 : RawAt 162 (wr.alloc (.cells (ics x) 162)) wr.heap.size (ics x) := heap_alloc_new wr _
      change Code.wp _ _ _ _ (wr.alloc (.cells (ics x) 162))
      generalize (wr.alloc (.cells (ics x) 162)) = W2 at *
      generalize wr.heap.size = bx at hx1 ⊢
      have hzl := RawAt.lt hz1
      obtain ⟨z0, z1, z2, z3, z4, z5⟩ := raw_scs hz1
      obtain ⟨x0, x1, x2, x3, x4, x5, x6⟩ := raw_ics hx1
      have HZ1 := Lib.hid hz1; clear hz1 hx1
      go_wp2_with fail
      go_region_with (first
        | (go_at_call 101; ((with_reducible refine (CO'.out _).mono ?_); rintro e w2 ⟨rfl, hb2⟩); have hr2 := RawAt.below (RawAt.drew_ HZ1.out) hb2 hzl; obtain ⟨d0, d1, d2, d3, d4, d5⟩ := raw_scs hr2)
        | (go_at_call 100; ((with_reducible refine (CD'.out _).mono ?_); rintro e w3 ⟨rfl, hb3⟩); have hr3 := RawAt.below hr2 hb3 (RawAt.lt hr2); obtain ⟨g0, g1, g2, g3, g4, g5⟩ := raw_scs hr3; have f0 := RawAt.free hr3 0; have f1 := RawAt.free hr3 1; have f2 := RawAt.free hr3 2; have f3 := RawAt.free hr3 3; have f4 := RawAt.free hr3 4; have f5 := RawAt.free hr3 5))
      all_goals
        have hb4 := (hb.trans hxb).drew.trans (hb2.mono (Nat.le_of_lt hzl))
        have hb5 := hb4.trans (hb3.mono (Nat.le_of_lt (RawAt.lt hr2)))
        go_wp2
        go_roundg (gk - 1)
        case measure => omega
        case rel => exact ⟨j + 1, by go_num, by omega, by omega, by first | exact ((((((hb5.setCell (p := ⟨w.heap.size + 1, _, none⟩) (Nat.le_refl _) _).setCell (p := ⟨w.heap.size + 1, _, none⟩) (Nat.le_refl _) _).setCell (p := ⟨w.heap.size + 1, _, none⟩) (Nat.le_refl _) _).setCell (p := ⟨w.heap.size + 1, _, none⟩) (Nat.le_refl _) _).setCell (p := ⟨w.heap.size + 1, _, none⟩) (Nat.le_refl _) _).setCell (p := ⟨w.heap.size + 1, _, none⟩) (Nat.le_refl _) _) | exact ((((((hb5.setCell (p := ⟨w.heap.size + 1, _, none⟩) (Nat.le_refl _) _).setCell (p := ⟨w.heap.size + 1, _, none⟩) (Nat.le_refl _) _).setCell (p := ⟨w.heap.size + 1, _, none⟩) (Nat.le_refl _) _).setCell (p := ⟨w.heap.size + 1, _, none⟩) (Nat.le_refl _) _).setCell (p := ⟨w.heap.size + 1, _, none⟩) (Nat.le_refl _) _).setCell (p := ⟨w.heap.size + 1, _, none⟩) (Nat.le_refl _) _).drew, by rw [HU.out]; refine Lib.hid ?_; exact (RawAt.set_ (RawAt.set_ (RawAt.set_ (RawAt.set_ (RawAt.set_ (RawAt.set_ hr3 _ _) _ _) _ _) _ _) _ _) _ _).of_eq (by simp [scs])⟩
    · rw [List.take_of_length_le (by rw [HL.out]; omega)] at hq
      have hr1 := HR.out.below hb (Nat.lt_succ_self _)
      obtain ⟨c0, c1, c2, c3, c4, c5⟩ := raw_scs hq.out
      obtain ⟨r0, r1, r2, r3, r4, r5⟩ := raw_scs hr1
      have f0 := hr1.free 0
      have f1 := hr1.free 1
      have f2 := hr1.free 2
      have f3 := hr1.free 3
      have f4 := hr1.free 4
      have f5 := hr1.free 5
      go_wp2
      refine bodyPost_ret (v := .agg (scs (sall l))) ?_ rfl ⟨rfl, ?_⟩
      · simp [results, Tryz.results166, go_sem, scs, r0, r1, r2, r3, r4, r5]
      · exact ((((((hbw.setCell (p := ⟨w.heap.size, _, none⟩) (Nat.le_refl _) _).setCell (p := ⟨w.heap.size, _, none⟩) (Nat.le_refl _) _).setCell (p := ⟨w.heap.size, _, none⟩) (Nat.le_refl _) _).setCell (p := ⟨w.heap.size, _, none⟩) (Nat.le_refl _) _).setCell (p := ⟨w.heap.size, _, none⟩) (Nat.le_refl _) _).setCell (p := ⟨w.heap.size, _, none⟩) (Nat.le_refl _) _)
set_option maxHeartbeats 4000000 in
set_option maxRecDepth 100000 in
theorem newLeaf_any (A : Option Addr) (n c : Nat) (l : List I7) (w : World) (hA : ItsAt w A l) (hl : l.length = n) (hp : 0 < n) (hn : n ≤ 8) (hc : Caps A n c) (ho : Okl l) :
    Calls Tryz.prog 138 #[.slice A n c] w fun e w' => ∃ b, e = .returned (.pointer (some ⟨b, 0, none⟩)) ∧ (∀ W, Agr w.heap.size w'.heap.size w' W → NodeAt 1 W ⟨lfv b, l, n⟩) ∧ Below w.heap.size w w' := by
  have C1 := Lib.hid (cloneI_any A n c l w hA hl hp (by omega) hc)
  have C2 := Lib.hid fun (W : World) (hW : Below w.heap.size w W) => iall_any A n c l W (hA.below hW) hl (by omega) ho
  have HL := Lib.hid hl
  have HO := Lib.hid ho
  clear hA hl hc ho
  generalize hs : sall l = s at *
  have HS := Lib.hid hs; clear hs
  go_enter Tryz.func138, Tryz.ntmps138
  go_wp2_with fail
  refine C1.out.mono ?_
  rintro e w1 ⟨A1, c1, rfl, hb1, hI1, hC1⟩
  have HI := Lib.hid hI1; clear hI1
  have HC := Lib.hid hC1; clear hC1
  go_wp2_with fail
  refine (C2.out _ hb1).mono ?_
  rintro e w2 ⟨rfl, hb2⟩
  have a2 := hb1.trans (hb2.mono hb1.size)
  have a3 := a2.alloc a2.size (.cells (lcs A1 n c1 s) 223)
  have q3 : Below w2.heap.size w2 (w2.alloc (.cells (lcs A1 n c1 s) 223)) := (Below.refl _ _).alloc (Nat.le_refl _) _
  have HI3 : Hid (∀ W, Agr w.heap.size (w2.alloc (.cells (lcs A1 n c1 s) 223)).heap.size (w2.alloc (.cells (lcs A1 n c1 s) 223)) W → ItsAt W A1 l) := fun W hW => HI.out W (hW.below (hb2.trans (q3.mono hb2.size)))
  have hr : RawAt 223 (w2.alloc (.cells (lcs A1 n c1 s) 223)) w2.heap.size (lcs A1 n c1 s) := heap_alloc_new w2 _
  unfold scs
  go_wp2
  go_ret
  refine ⟨w2.heap.size, rfl, fun W hW => ⟨w2.heap.size, A1, c1, rfl, ?_, HI3.out W hW, HL.out, HC.out, hp, hn, HO.out⟩, a3⟩
  rw [HS.out]
  exact (hW.2 _ a2.size (by simp)).trans hr
theorem lt_p4 : ∀ h, h < p4 h
  | 0 => Nat.zero_lt_one
  | h + 1 => by have := lt_p4 h; show h + 1 < 4 * p4 h; omega
theorem Row.high {h : Nat} {w : World} {ks : List Kd} (hr : Row (h + 1) w ks) (hp : 0 < ks.length) : h < (fl ks).length := by
  have h1 := hr _ (kth_mem ks hp)
  have h2 := h1.size
  have h3 := h1.cnt.1
  have h4 := lt_p4 h
  have h5 := Nat.mul_le_mul_right (p4 (h + 1 - 1)) h3
  rw [Nat.one_mul, show h + 1 - 1 = h from rfl] at h5
  rw [show h + 1 - 1 = h from rfl] at h2
  have h6 : (kth ks 0).l.length ≤ (fl ks).length := by
    have e := fl_take ks hp
    have e2 : fl ks = fl (ks.take 1) ++ fl (ks.drop 1) := by rw [← fl_append, List.take_append_drop]
    rw [e2, e, List.length_append, List.length_append]
    omega
  omega
set_option maxHeartbeats 4000000 in
set_option maxRecDepth 100000 in
theorem newBranch_any (h : Nat) (A : Option Addr) (n c : Nat) (ks : List Kd) (w : World) (hA : VsAt w A (kvs ks)) (hl : ks.length = n) (hp : 0 < n) (hn : n ≤ 8) (hc : Caps A n c) (hr : Row (h + 1) w ks) (hw : Wd ks) (hz : (fl ks).length ≤ 100000) :
    Calls Tryz.prog 167 #[.slice A n c] w fun e w' => ∃ b, e = .returned (.pointer (some ⟨b, 0, none⟩)) ∧ (∀ W, Agr w.heap.size w'.heap.size w' W → Row (h + 1) W ks → NodeAt (h + 2) W ⟨brv b, fl ks, n⟩) ∧ Below w.heap.size w w' := by
  have hh : h ≤ 100000 := by have := hr.high (by omega); omega
  have C1 := Lib.hid fun (W : World) (hW : Below w.heap.size w W) => cloneV_any A n c (kvs ks) W (hA.below hW) hr.one (by rw [kvs_length]; exact hl) hp (by omega) hc
  have C2 := Lib.hid fun (W : World) (hW : Below w.heap.size w W) => sumOf_any A n c ks W (hA.below hW) hl (by omega) (fun k hk => ((hr k hk).below hW).sumK) hz
  have hm : 0 < ks.length := by omega
  have C3 := Lib.hid fun (W : World) (hW : Below w.heap.size w W) => heightOf_any (h + 1) W (kth ks 0) ((hr _ (kth_mem ks hm)).below hW)
  obtain ⟨b, off, rfl, hbs, hcell⟩ := hA (by rw [kvs_length]; omega)
  have E := Lib.hid fun (W : World) (hW : Below w.heap.size w W) => ((old_cells hW).1 b off hbs).trans (hcell 0 (by rw [kvs_length]; exact hm))
  rw [vth_kvs ks hm] at E
  have HL := Lib.hid hl
  have HR := Lib.hid hr
  have HW := Lib.hid hw
  clear hA hl hc hw hcell hr hz
  have e0 := E.out _ (Below.refl _ _)
  generalize hs : sall (fl ks) = s at *
  have HS := Lib.hid hs; clear hs
  generalize (kth ks 0).v = v at *
  go_enter Tryz.func167, Tryz.ntmps167
  unfold scs at C2
  go_wp2_with fail
  have hW2 : Below w.heap.size w w.drew := (Below.refl _ _).drew
  have hwr : IntKind.i64.wrap ((h : Int) + 1 + 1) = ((h + 2 : Nat) : Int) := by rw [IntWalk.i64_in _ (by omega)]; omega
  go_region_with (first
    | (go_at_call 178; ((with_reducible refine (C1.out _ hW2).mono ?_); rintro e w1 ⟨A1, c1, rfl, hb1, hI1, hC1⟩); have b1 := hW2.trans (hb1.mono hW2.size); have g1 := E.out _ b1)
    | (go_at_call 137; ((with_reducible refine (C2.out _ b1).mono ?_); rintro e w2 ⟨rfl, hb2⟩); have b2 := b1.trans (hb2.mono b1.size); have g2 := E.out _ b2)
    | (go_at_call 168; ((with_reducible refine (C3.out _ b2).mono ?_); rintro e w3 ⟨rfl, rfl⟩)))
  all_goals
    have b4 : Below w.heap.size w (w3.alloc (.cells (bcs A1 n c1 s (h + 2)) 251)) := b2.alloc b2.size _
    have q4 : Below w3.heap.size w3 (w3.alloc (.cells (bcs A1 n c1 s (h + 2)) 251)) := (Below.refl _ _).alloc (Nat.le_refl _) _
    have hv4 := fun W (hW : Agr w.heap.size (w3.alloc (.cells (bcs A1 n c1 s (h + 2)) 251)).heap.size (w3.alloc (.cells (bcs A1 n c1 s (h + 2)) 251)) W) => hI1 W (hW.below (hb2.trans (q4.mono hb2.size)))
    have r4 : RawAt 251 (w3.alloc (.cells (bcs A1 n c1 s (h + 2)) 251)) w3.heap.size (bcs A1 n c1 s (h + 2)) := heap_alloc_new w3 _
    have HX : Hid (∃ b', (Value.pointer (some ⟨w3.heap.size, 0, none⟩)) = .pointer (some ⟨b', 0, none⟩) ∧ (∀ W, Agr w.heap.size (w3.alloc (.cells (bcs A1 n c1 s (h + 2)) 251)).heap.size (w3.alloc (.cells (bcs A1 n c1 s (h + 2)) 251)) W → Row (h + 1) W ks → NodeAt (h + 2) W ⟨brv b', fl ks, n⟩) ∧ Below w.heap.size w (w3.alloc (.cells (bcs A1 n c1 s (h + 2)) 251))) :=
      ⟨w3.heap.size, rfl, fun W hW hr => ⟨w3.heap.size, A1, c1, ks, ⟨rfl, by rw [HS.out]; exact (hW.2 _ b2.size (by simp)).trans r4, hv4 W hW, HL.out, hC1, hp, hn, HR.out.okl, rfl⟩, fun x hx => ⟨hr x hx, HW.out x hx⟩⟩, b4⟩
    clear hv4 r4 q4 b4 hI1
    unfold bcs at HX
    go_wp2
    go_ret
    obtain ⟨b', e1, e2, e3⟩ := HX.out
    injection e1 with e1
    injection e1 with e1
    injection e1 with e1 _
    subst e1
    exact ⟨w3.heap.size, rfl, e2, e3⟩
theorem cutAt_hi (n m k : Nat) (h : 0 < m) (h2 : n ≤ 8 * m) : cutAt n m (k + 1) ≤ cutAt n m k + 8 := by
  unfold cutAt
  have e : (k * n + m * 8) / m = k * n / m + 8 := Nat.add_mul_div_left _ _ h
  have h3 : (k + 1) * n / m ≤ (k * n + m * 8) / m := Nat.div_le_div_right (by rw [Nat.succ_mul]; omega)
  omega
theorem cutAt_lo (n m k : Nat) (h : 0 < m) (h2 : 4 * m ≤ n) : cutAt n m k + 4 ≤ cutAt n m (k + 1) := by
  unfold cutAt
  have e : (k * n + m * 4) / m = k * n / m + 4 := Nat.add_mul_div_left _ _ h
  have h3 : (k * n + m * 4) / m ≤ (k + 1) * n / m := Nat.div_le_div_right (by rw [Nat.succ_mul]; omega)
  omega
theorem cutAt_end (n m : Nat) (h : m = 0 → n = 0) : cutAt n m m = n := by
  unfold cutAt
  rcases Nat.eq_zero_or_pos m with h0 | h0
  · rw [h h0, h0]
  · rw [Nat.mul_div_cancel_left _ h0]
/-- What leaves and branches answer: nodes so high, that have those items. -/
def Made (w : World) (h n : Nat) (l : List I7) (v : Value) : Prop :=
  ∃ ks R cp, v = .slice R ks.length cp ∧ VsAt w R (kvs ks) ∧ Caps R ks.length cp ∧ Row h w ks ∧ fl ks = l ∧ ks.length = (n + 7) / 8 ∧ (2 ≤ ks.length → Wd ks) ∧ (n ≤ 8 → 0 < n → (kth ks 0).c = n)
theorem vth_map (f : Nat → Value) (m j : Nat) (h : j < m) : vth ((List.range m).map f) j = f j := by simp [vth, List.getD, h]
theorem cnts_kth {ks : List Kd} {f : Nat → Nat} {m : Nat} (hl : ks.length = m) (h : ks.map Kd.c = (List.range m).map f) (j : Nat) (hj : j < m) : (kth ks j).c = f j := by
  have e := congrArg (fun l => l[j]?) h
  simp only [List.getElem?_map, List.getElem?_range hj, Option.map_some] at e
  rw [kth_get ks (by omega)]
  rw [List.getElem?_eq_getElem (by omega), Option.map_some] at e
  exact Option.some.inj e
theorem made_of {w : World} {h n : Nat} {l : List I7} {R : Option Addr} {cp m : Nat} {ks : List Kd} (hm : m = (n + 7) / 8) (hV : VsAt w R (kvs ks)) (hC : Caps R m cp) (hr : Row h w ks) (hf : fl ks = l) (hl : ks.length = m)
    (hc : ks.map Kd.c = (List.range m).map fun i => cutAt n m (i + 1) - cutAt n m i) : Made w h n l (.slice R m cp) := by
  refine ⟨ks, R, cp, by rw [hl], hV, by rw [hl]; exact hC, hr, hf, by rw [hl, hm], fun h2 x hx => ?_, fun h8 h0 => ?_⟩
  · obtain ⟨j, hj, rfl⟩ := List.mem_iff_getElem.1 hx
    have e := cnts_kth hl hc j (by omega)
    rw [kth_get ks hj] at e
    rw [e]
    have := cutAt_lo n m j (by omega) (by omega)
    omega
  · have e := cnts_kth hl hc 0 (by omega)
    have hm1 : m = 1 := by omega
    rw [e, hm1]
    simp [cutAt]
theorem wpList_append_node1 {w : World} {ops : Array Oper} {rest : List Oper} {o : Oper} {a : Act} {Q : Exit → Act → World → Prop} (hgd : o.guard = none) (s x : Operand)
    (ho : o.op = .call { callee := .builtin .append, args := #[s, x], argTypes := #[227, 227] })
    (base : Nat) (v : Value) (n : Nat) (xs : List Value) (hs : a.eval s = v) (hown : w.ownsRow base 183 1 v n xs)
    (g : Nat) (u : Value) (hx : a.eval x = .slice (some ⟨g, 0, none⟩) 1 1) (hg : w.heap[g]? = some (.cells #[u] 183 (0, 0))) (h1 : u.oneCell' = true) (hsz : n + 1 ≤ 1000000000) (hbase : base ≤ w.heap.size)
    (h : ∀ v' w', w'.ownsRow base 183 1 v' (n + 1) (xs ++ [u]) → w.grownBy w' v.ownBlock → (v'.ownBlock = v.ownBlock ∨ v'.ownBlock = some w.heap.size) → wpList Tryz.prog ops Q rest (a.put o.dst v') w') : wpList Tryz.prog ops Q (o :: rest) a w := by
  obtain ⟨i0, hi0, hz0, hz1, hz2⟩ := info_parts node_info
  exact wpList_append_own_at w hgd s x _ ho base 183 i0 _ 1 16 Tryz.underlying227 hi0 hz0 hz1 hz2 rfl (by omega) v n xs hs hown ⟨g, 0, none⟩ 1 1 [u] hx rfl
    (fun j u' hu => by
      have hj : j = 0 := by have := (List.getElem?_eq_some_iff.1 hu).1; simpa using this
      subst hj
      rw [Go.WideShapes.add_plain, cell_of_row w g _ _ _ _ hg]
      simpa using hu)
    (fun v hv => by rw [List.mem_singleton.1 hv]; exact h1) (by simp only [maxLen]; omega) (by omega) hbase (fun v' w' h1 h2 _ h3 => h v' w' h1 h2 h3)
/-- A world that agrees with another one from some block on, but on a row. -/
def Kp (base : Nat) (w : World) (v : Value) (W : World) : Prop := w.heap.size ≤ W.heap.size ∧ ∀ b, base ≤ b → b < w.heap.size → some b ≠ v.ownBlock → W.heap[b]? = w.heap[b]?
theorem Kp.self (base : Nat) (w : World) (v : Value) : Kp base w v w := ⟨Nat.le_refl _, fun _ _ _ _ => rfl⟩
theorem kp_step {base : Nat} {wr w2 w4 : World} {v v4 : Value} {o : Obj} (hb : Below wr.heap.size wr w2) (hown : ∀ k, v.ownBlock = some k → base ≤ k ∧ k < wr.heap.size) (hbase : base ≤ wr.heap.size)
    (hg : (w2.alloc o).grownBy w4 v.ownBlock) (h4 : v4.ownBlock = v.ownBlock ∨ v4.ownBlock = some (w2.alloc o).heap.size) {W : World} (hW : Kp base w4 v4 W) : Kp base wr v W ∧ Agr wr.heap.size w2.heap.size w2 W := by
  have s1 := hb.size
  have s2 : (w2.alloc o).heap.size = w2.heap.size + 1 := by simp
  have s3 := hg.size
  have s4 := hW.1
  have al : ∀ b, b < w2.heap.size → (w2.alloc o).heap[b]? = w2.heap[b]? := fun b hb => ((Below.refl w2.heap.size w2).alloc (Nat.le_refl _) o).block b hb
  have key : ∀ b, base ≤ b → b < w2.heap.size → some b ≠ v.ownBlock → W.heap[b]? = w2.heap[b]? := fun b h1 h2 h3 => by
    have h5 : some b ≠ v4.ownBlock := by
      rcases h4 with e | e
      · rw [e]; exact h3
      · rw [e]; intro e2; injection e2 with e2; omega
    rw [hW.2 b h1 (by omega) h5, hg.block b (by omega) h3, al b h2]
  exact ⟨⟨by omega, fun b h1 h2 h3 => (key b h1 (by omega) h3).trans (hb.block b h2)⟩, ⟨by omega, fun b h1 h2 => key b (by omega) h2 (fun e => by have := (hown b e.symm).2; omega)⟩⟩
set_option maxHeartbeats 4000000 in
set_option maxRecDepth 100000 in
theorem leaves_any (A : Option Addr) (n c : Nat) (l : List I7) (w : World) (hA : ItsAt w A l) (hl : l.length = n) (hc : Caps A n c) (hn : n ≤ 100000) (ho : Okl l) :
    Calls Tryz.prog 163 #[.slice A n c] w fun e w' => ∃ v, e = .returned v ∧ Made w' 1 n l v ∧ Below w.heap.size w w' := by
  obtain ⟨m, hm⟩ : ∃ m, m = (n + 7) / 8 := ⟨_, rfl⟩
  have C0 := Lib.hid (spreadI_any A n c m w hc hn hm)
  have HA := Lib.hid hA
  have HL := Lib.hid hl
  have HC := Lib.hid hc
  have HO := Lib.hid ho
  have HM := Lib.hid hm
  have hm1 : m ≤ 100000 := by omega
  have hmn : m ≤ n := by omega
  clear hA hl hc ho hm
  go_enter Tryz.func163, Tryz.ntmps163
  go_wp2_with fail
  refine C0.out.mono ?_
  rintro e w1 ⟨P, cp, rfl, hb1, hP, hcP⟩
  have HP := Lib.hid hP; clear hP hcP
  go_wp2
  go_loopg [3, 9] m (fun k v i wr => ∃ (j : Nat) (kj : List Kd), i = .int .i64 j ∧ j ≤ m ∧ m - j ≤ k ∧ Below w1.heap.size w1 wr ∧ Hid (wr.ownsRow w1.heap.size 183 1 v j (kvs kj)) ∧ Hid (kj.length = j ∧ fl kj = l.take (cutAt n m j) ∧ kj.map Kd.c = (List.range j).map fun i => cutAt n m (i + 1) - cutAt n m i) ∧ Hid (∀ W, Below w.heap.size w W → Kp w1.heap.size wr v W → Row 1 W kj))
  case atStart => exact ⟨0, [], rfl, by omega, by omega, Below.refl _ _, World.ownsRow_nil _ _ _ _, ⟨rfl, by simp [fl, cutAt], rfl⟩, fun W _ _ x hx => absurd hx (by simp)⟩
  case round =>
    obtain ⟨j, kj, rfl, h1, h2, hb, hown, hk, hR⟩ := hrel
    have hsz := hb.size
    by_cases hlt : j < m
    · obtain ⟨b, off, rfl, hbs, hcell⟩ := HP.out (by simp; omega)
      have e0 := hcell j (by simp; exact hlt)
      rw [vth_map _ _ _ hlt] at e0
      have k1 := cutAt_lt n m j (by omega) hmn
      have k2 := cutAt_le n m (j + 1) hlt
      have k3 := cutAt_hi n m j (by omega) (by have := HM.out; omega)
      have HI0 := Lib.hid (HA.out.cut HL.out HC.out.1 (cutAt n m j) (cutAt n m (j + 1) - cutAt n m j) (by omega))
      have HCap := Lib.hid (HC.out.cut (cutAt n m j) (cutAt n m (j + 1) - cutAt n m j) (by omega))
      have hne : ¬ c = cutAt n m j := by have := HC.out.1; omega
      simp only [cutI, if_neg hne] at HI0 HCap
      have HLn := Lib.hid (show ((l.drop (cutAt n m j)).take (cutAt n m (j + 1) - cutAt n m j)).length = cutAt n m (j + 1) - cutAt n m j by rw [List.length_take, List.length_drop, HL.out]; omega)
      have HOk := Lib.hid (show Okl ((l.drop (cutAt n m j)).take (cutAt n m (j + 1) - cutAt n m j)) from fun i hi => HO.out i (List.mem_of_mem_drop (List.mem_of_mem_take hi)))
      have HTk := Lib.hid (show l.take (cutAt n m (j + 1)) = l.take (cutAt n m j) ++ (l.drop (cutAt n m j)).take (cutAt n m (j + 1) - cutAt n m j) by
        rw [show cutAt n m (j + 1) = cutAt n m j + (cutAt n m (j + 1) - cutAt n m j) by omega, List.take_add]
        congr 2; omega)
      obtain ⟨H1, H2⟩ := old_cells hb
      clear hcell
      unfold part7 at e0
      have HRg := Lib.hid (show (List.range (j + 1)).map (fun i => cutAt n m (i + 1) - cutAt n m i) = (List.range j).map (fun i => cutAt n m (i + 1) - cutAt n m i) ++ [cutAt n m (j + 1) - cutAt n m j] by rw [List.range_succ, List.map_append]; rfl)
      generalize hx : (l.drop (cutAt n m j)).take (cutAt n m (j + 1) - cutAt n m j) = x at *
      generalize hq : cutAt n m (j + 1) - cutAt n m j = q at *
      generalize hcc : c - cutAt n m j = cc at *
      generalize hAA : A.map (·.add (cutAt n m j * 7)) = AA at *
      clear hx hcc hAA
      have HQ := Lib.hid hq
      have hq0 : 0 < q := by omega
      have hq8 : q ≤ 8 := by omega
      clear hq k1 k2 k3 hne
      have CL := Lib.hid fun (W : World) (hW : Below w.heap.size w W) => newLeaf_any AA q cc x W (HI0.out.below hW) HLn.out hq0 hq8 HCap.out HOk.out
      go_wp2_with fail
      refine (CL.out _ (hb1.trans (hb.mono hb1.size))).mono ?_
      rintro e w2 ⟨b2, rfl, hN, hb2⟩
      have a2 := hb.trans (hb2.mono hsz)
      have hz2 : w1.heap.size ≤ w2.heap.size := a2.size
      have hown2 := own_below hown.out hb2
      have HN := Lib.hid hN; clear hN
      go_wp2_with (at_builtin; refine wpList_append_node1 rfl (.tmp 13) (.tmp 17) rfl w1.heap.size _ j (kvs kj) rfl (hown2.alloc _) w2.heap.size (lfv b2) rfl (heap_alloc_new w2 _) rfl (by omega) (by simp; omega) ?_; intro v4 w4 hown4 hg4 hat4)
      have hb4 : Below w1.heap.size w1 w4 := (a2.alloc hz2 _).grown hg4 (by simp; omega) (fun k hk => (hown2.lt k hk).1)
      have HKP : Hid (∀ W, Kp w1.heap.size w4 v4 W → Kp w1.heap.size wr _ W ∧ Agr wr.heap.size w2.heap.size w2 W) := fun W hW => kp_step hb2 (fun k hk => hown.out.lt k hk) hsz hg4 hat4 hW
      have HO4 := Lib.hid hown4
      clear hown2 hg4 hat4 hown4
      go_wp2
      go_roundg (gk - 1)
      case measure => omega
      case rel => exact ⟨j + 1, kj ++ [⟨lfv b2, x, q⟩], by go_num, by omega, by omega, hb4, by rw [kvs_append]; exact HO4, ⟨by rw [List.length_append, hk.out.1]; rfl, by rw [fl_append, fl_one, hk.out.2.1, HTk.out], by rw [List.map_append, hk.out.2.2, HRg.out]; rfl⟩, fun W hW hKW => (hR.out W hW (HKP.out W hKW).1).append (fun y hy => by rw [List.mem_singleton.1 hy]; exact HN.out W (HKP.out W hKW).2)⟩
    · have hj : j = m := by omega
      subst hj
      obtain ⟨A2, c2, rfl, hI, hl2, hcap⟩ := vs_of_own hown.out
      have HE : Hid (Made wr 1 n l (.slice A2 j c2)) := made_of HM.out hI hcap (hR.out wr (hb1.trans (hb.mono hb1.size)) (Kp.self _ _ _)) (by rw [hk.out.2.1, cutAt_end n j (by have := HM.out; omega), List.take_of_length_le (by rw [HL.out]; omega)]) hk.out.1 hk.out.2.2
      clear hI hcap hown hl2 hR
      go_wp2
      go_ret
      exact ⟨_, rfl, HE.out, hb1.trans (hb.mono hb1.size)⟩
theorem VsAt.cutK {w : World} {A : Option Addr} {ks : List Kd} {n : Nat} (h : VsAt w A (kvs ks)) (hl : ks.length = n) (k m : Nat) (hk : k + m ≤ n) : VsAt w (A.map (·.add k)) (kvs ((ks.drop k).take m)) := by
  intro hp
  have hlen : ((ks.drop k).take m).length = m := by rw [List.length_take, List.length_drop]; omega
  rw [kvs_length, hlen] at hp
  obtain ⟨b, off, rfl, hb, hc⟩ := h (by rw [kvs_length]; omega)
  refine ⟨b, off + k, by simp only [Option.map_some, Go.WideShapes.add_plain], hb, fun j hj => ?_⟩
  rw [kvs_length, hlen] at hj
  have e := hc (k + j) (by rw [kvs_length]; omega)
  rw [vth_kvs ks (by omega)] at e
  rw [vth_kvs _ (by omega), Nat.add_assoc, e]
  congr 2
  rw [kth_get ks (by omega), kth_get _ (by omega)]
  simp
theorem Caps.cutK {A : Option Addr} {n c : Nat} (h : Caps A n c) (k m : Nat) (hk : k + m ≤ n) : Caps (A.map (·.add k)) m (c - k) := by
  obtain ⟨h1, h2⟩ := h
  refine ⟨by omega, fun e => ?_⟩
  have := h2 (by simpa using e)
  omega
set_option maxHeartbeats 4000000 in
set_option maxRecDepth 100000 in
theorem branches_any (h : Nat) (A : Option Addr) (n c : Nat) (ks : List Kd) (w : World) (hA : VsAt w A (kvs ks)) (hl : ks.length = n) (hc : Caps A n c) (hn : n ≤ 100000) (hr : Row (h + 1) w ks) (hw : Wd ks) (hz : (fl ks).length ≤ 100000) :
    Calls Tryz.prog 164 #[.slice A n c] w fun e w' => ∃ v, e = .returned v ∧ Made w' (h + 2) n (fl ks) v ∧ Below w.heap.size w w' := by
  obtain ⟨m, hm⟩ : ∃ m, m = (n + 7) / 8 := ⟨_, rfl⟩
  have C0 := Lib.hid (spreadV_any A n c m w hc hn hm)
  have HA := Lib.hid hA
  have HL := Lib.hid hl
  have HC := Lib.hid hc
  have HR := Lib.hid hr
  have HW := Lib.hid hw
  have HZ := Lib.hid hz
  have HM := Lib.hid hm
  have hm1 : m ≤ 100000 := by omega
  have hmn : m ≤ n := by omega
  clear hA hl hc hr hw hz hm
  go_enter Tryz.func164, Tryz.ntmps164
  go_wp2_with fail
  refine C0.out.mono ?_
  rintro e w1 ⟨P, cp, rfl, hb1, hP, hcP⟩
  have HP := Lib.hid hP; clear hP hcP
  go_wp2
  go_loopg [3, 9] m (fun k v i wr => ∃ (j : Nat) (kj : List Kd), i = .int .i64 j ∧ j ≤ m ∧ m - j ≤ k ∧ Below w1.heap.size w1 wr ∧ Hid (wr.ownsRow w1.heap.size 183 1 v j (kvs kj)) ∧ Hid (kj.length = j ∧ fl kj = fl (ks.take (cutAt n m j)) ∧ kj.map Kd.c = (List.range j).map fun i => cutAt n m (i + 1) - cutAt n m i) ∧ Hid (∀ W, Below w.heap.size w W → Kp w1.heap.size wr v W → Row (h + 2) W kj))
  case atStart => exact ⟨0, [], rfl, by omega, by omega, Below.refl _ _, World.ownsRow_nil _ _ _ _, ⟨rfl, by simp [fl, cutAt], rfl⟩, fun W _ _ x hx => absurd hx (by simp)⟩
  case round =>
    obtain ⟨j, kj, rfl, h1, h2, hb, hown, hk, hR⟩ := hrel
    have hsz := hb.size
    by_cases hlt : j < m
    · obtain ⟨b, off, rfl, hbs, hcell⟩ := HP.out (by simp; omega)
      have e0 := hcell j (by simp; exact hlt)
      rw [vth_map _ _ _ hlt] at e0
      have k1 := cutAt_lt n m j (by omega) hmn
      have k2 := cutAt_le n m (j + 1) hlt
      have k3 := cutAt_hi n m j (by omega) (by have := HM.out; omega)
      have HI0 := Lib.hid (HA.out.cutK HL.out (cutAt n m j) (cutAt n m (j + 1) - cutAt n m j) (by omega))
      have HCap := Lib.hid (HC.out.cutK (cutAt n m j) (cutAt n m (j + 1) - cutAt n m j) (by omega))
      have HLn := Lib.hid (show ((ks.drop (cutAt n m j)).take (cutAt n m (j + 1) - cutAt n m j)).length = cutAt n m (j + 1) - cutAt n m j by rw [List.length_take, List.length_drop, HL.out]; omega)
      have HSub := Lib.hid (show ∀ y ∈ (ks.drop (cutAt n m j)).take (cutAt n m (j + 1) - cutAt n m j), y ∈ ks from fun i hi => List.mem_of_mem_drop (List.mem_of_mem_take hi))
      have HTk := Lib.hid (show ks.take (cutAt n m (j + 1)) = ks.take (cutAt n m j) ++ (ks.drop (cutAt n m j)).take (cutAt n m (j + 1) - cutAt n m j) by
        rw [show cutAt n m (j + 1) = cutAt n m j + (cutAt n m (j + 1) - cutAt n m j) by omega, List.take_add]
        congr 2; omega)
      have HZx := Lib.hid (show (fl ((ks.drop (cutAt n m j)).take (cutAt n m (j + 1) - cutAt n m j))).length ≤ 100000 by
        have := HZ.out
        rw [← List.take_append_drop (cutAt n m (j + 1)) ks, fl_append, List.length_append, HTk.out, fl_append, List.length_append] at this
        omega)
      obtain ⟨H1, H2⟩ := old_cells hb
      clear hcell
      unfold part1 at e0
      have HRg := Lib.hid (show (List.range (j + 1)).map (fun i => cutAt n m (i + 1) - cutAt n m i) = (List.range j).map (fun i => cutAt n m (i + 1) - cutAt n m i) ++ [cutAt n m (j + 1) - cutAt n m j] by rw [List.range_succ, List.map_append]; rfl)
      generalize hx : (ks.drop (cutAt n m j)).take (cutAt n m (j + 1) - cutAt n m j) = x at *
      generalize hq : cutAt n m (j + 1) - cutAt n m j = q at *
      generalize hcc : c - cutAt n m j = cc at *
      generalize hAA : A.map (·.add (cutAt n m j)) = AA at *
      clear hx hcc hAA
      have HQ := Lib.hid hq
      have hq0 : 0 < q := by omega
      have hq8 : q ≤ 8 := by omega
      clear hq k1 k2 k3
      have HRx := Lib.hid (show ∀ W, Below w.heap.size w W → Row (h + 1) W x from fun W hW y hy => (HR.out y (HSub.out y hy)).below hW)
      have HWx := Lib.hid (show Wd x from fun y hy => HW.out y (HSub.out y hy))
      have CL := Lib.hid fun (W : World) (hW : Below w.heap.size w W) => newBranch_any h AA q cc x W (HI0.out.below hW) HLn.out hq0 hq8 HCap.out (HRx.out W hW) HWx.out HZx.out
      go_wp2_with fail
      refine (CL.out _ (hb1.trans (hb.mono hb1.size))).mono ?_
      rintro e w2 ⟨b2, rfl, hN, hb2⟩
      have a2 := hb.trans (hb2.mono hsz)
      have hz2 : w1.heap.size ≤ w2.heap.size := a2.size
      have hown2 := own_below hown.out hb2
      have HN := Lib.hid hN; clear hN
      go_wp2_with (at_builtin; refine wpList_append_node1 rfl (.tmp 13) (.tmp 17) rfl w1.heap.size _ j (kvs kj) rfl (hown2.alloc _) w2.heap.size (brv b2) rfl (heap_alloc_new w2 _) rfl (by omega) (by simp; omega) ?_; intro v4 w4 hown4 hg4 hat4)
      have hb4 : Below w1.heap.size w1 w4 := (a2.alloc hz2 _).grown hg4 (by simp; omega) (fun k hk => (hown2.lt k hk).1)
      have HKP : Hid (∀ W, Kp w1.heap.size w4 v4 W → Kp w1.heap.size wr _ W ∧ Agr wr.heap.size w2.heap.size w2 W) := fun W hW => kp_step hb2 (fun k hk => hown.out.lt k hk) hsz hg4 hat4 hW
      have HO4 := Lib.hid hown4
      clear hown2 hg4 hat4 hown4
      go_wp2
      go_roundg (gk - 1)
      case measure => omega
      case rel => exact ⟨j + 1, kj ++ [⟨brv b2, fl x, q⟩], by go_num, by omega, by omega, hb4, by rw [kvs_append]; exact HO4, ⟨by rw [List.length_append, hk.out.1]; rfl, by rw [fl_append, fl_one, hk.out.2.1, HTk.out, fl_append], by rw [List.map_append, hk.out.2.2, HRg.out]; rfl⟩, fun W hW hKW => (hR.out W hW (HKP.out W hKW).1).append (fun y hy => by rw [List.mem_singleton.1 hy]; exact HN.out W (HKP.out W hKW).2 (HRx.out W hW))⟩
    · have hj : j = m := by omega
      subst hj
      obtain ⟨A2, c2, rfl, hI, hl2, hcap⟩ := vs_of_own hown.out
      have HE : Hid (Made wr (h + 2) n (fl ks) (.slice A2 j c2)) := made_of HM.out hI hcap (hR.out wr (hb1.trans (hb.mono hb1.size)) (Kp.self _ _ _)) (by rw [hk.out.2.1, cutAt_end n j (by have := HM.out; omega), List.take_of_length_le (by rw [HL.out]; omega)]) hk.out.1 hk.out.2.2
      clear hI hcap hown hl2 hR
      go_wp2
      go_ret
      exact ⟨_, rfl, HE.out, hb1.trans (hb.mono hb1.size)⟩
set_option maxHeartbeats 4000000 in
set_option maxRecDepth 100000 in
theorem growV_any (n : Nat) (w : World) (hn : n ≤ 1000000) :
    Calls Tryz.prog 179 #[.slice none 0 0, .int .i64 n] w fun e w' => ∃ v, e = .returned v ∧ w'.ownsRow w.heap.size 183 1 v 0 [] ∧ Below w.heap.size w w' := by
  obtain ⟨i0, hi0, hz0, hz1, hz2⟩ := info_parts node_info
  rcases Nat.eq_zero_or_pos n with rfl | hp
  · go_enter Tryz.func179, Tryz.ntmps179
    go_wp2_with fail
    go_ret
    exact ⟨_, rfl, World.ownsRow_nil _ _ _ _, Below.refl _ _⟩
  have hrun := Lib.run_append_nil_zeros w 227 3 227 183 i0 _ .i64 .i64 Tryz.underlying227 Tryz.underlying3 hi0 hz0 n hp (by omega) (by omega) (by rw [hz2]; omega)
  have hcap := grownCap_le_maxLen w n 0 183 (by unfold maxLen; omega)
  have hcap2 := grownCap_ge w n 0 183
  generalize hC : grownCap w n 0 183 = C at *
  go_enter Tryz.func179, Tryz.ntmps179
  go_wp2_with (at_builtin; refine Lib.wpList_append_run _ rfl (.tmp 20) (.tmp 21) _ _ rfl _ _ rfl rfl _ _ hrun ?_)
  go_ret
  refine ⟨_, rfl, ⟨by simp, .inr ⟨w.heap.size, C, _, rfl, Nat.le_refl _, heap_alloc_new w.drew _, by omega, hcap, ?_, by simp⟩⟩, ((Below.refl _ _).drew).alloc (Nat.le_refl _) _⟩
  rw [Array.size_append, size_zeroCells, size_zeroCells, ← Nat.add_mul]
  congr 1
  omega
set_option maxHeartbeats 4000000 in
set_option maxRecDepth 100000 in
theorem growI_any (n : Nat) (w : World) (hn : n ≤ 1000000) :
    Calls Tryz.prog 180 #[.slice none 0 0, .int .i64 n] w fun e w' => ∃ v, e = .returned v ∧ w'.ownsRow w.heap.size 162 7 v 0 [] ∧ Below w.heap.size w w' := by
  obtain ⟨i0, hi0, hz0, hz1, hz2⟩ := info_parts item_info
  rcases Nat.eq_zero_or_pos n with rfl | hp
  · go_enter Tryz.func180, Tryz.ntmps180
    go_wp2_with fail
    go_ret
    exact ⟨_, rfl, World.ownsRow_nil _ _ _ _, Below.refl _ _⟩
  have hrun := Lib.run_append_nil_zeros w 138 3 138 162 i0 _ .i64 .i64 Tryz.underlying138 Tryz.underlying3 hi0 hz0 n hp (by omega) (by omega) (by rw [hz2]; omega)
  have hcap := grownCap_le_maxLen w n 0 162 (by unfold maxLen; omega)
  have hcap2 := grownCap_ge w n 0 162
  generalize hC : grownCap w n 0 162 = C at *
  go_enter Tryz.func180, Tryz.ntmps180
  go_wp2_with (at_builtin; refine Lib.wpList_append_run _ rfl (.tmp 20) (.tmp 21) _ _ rfl _ _ rfl rfl _ _ hrun ?_)
  go_ret
  refine ⟨_, rfl, ⟨by simp, .inr ⟨w.heap.size, C, _, rfl, Nat.le_refl _, heap_alloc_new w.drew _, by omega, hcap, ?_, by simp⟩⟩, ((Below.refl _ _).drew).alloc (Nat.le_refl _) _⟩
  rw [Array.size_append, size_zeroCells, size_zeroCells, ← Nat.add_mul]
  congr 1
  omega
set_option maxHeartbeats 4000000 in
set_option maxRecDepth 100000 in
theorem concatV_any (Q A B : Option Addr) (n c m d : Nat) (x y : List Value) (w : World) (hQ : VsAt w Q [.slice A n c, .slice B m d]) (hA : VsAt w A x) (hx : x.length = n) (hc : Caps A n c) (hB : VsAt w B y) (hy : y.length = m) (hd : Caps B m d) (hn : n ≤ 100000) (hm : m ≤ 100000) (hone : ∀ u ∈ x ++ y, u.oneCell' = true) :
    Calls Tryz.prog 169 #[.slice Q 2 2] w fun e w' => ∃ A' c', e = .returned (.slice A' (n + m) c') ∧ Below w.heap.size w w' ∧ VsAt w' A' (x ++ y) ∧ Caps A' (n + m) c' := by
  obtain ⟨b, off, rfl, hbs, hq⟩ := hQ (by simp)
  have e0 : w.cell? ⟨b, off, none⟩ = some (.slice A n c) := hq 0 (by simp)
  have e1 : w.cell? ⟨b, off + 1, none⟩ = some (.slice B m d) := hq 1 (by simp)
  have HA := Lib.hid hA
  have HB := Lib.hid hB
  have HX := Lib.hid hx
  have HY := Lib.hid hy
  have HC := Lib.hid hc
  have HD := Lib.hid hd
  clear hq hQ hA hB hx hy hc hd
  have wn : IntKind.i64.wrap (n : Int) = (n : Int) := IntWalk.i64_in _ (by omega)
  have wnm : IntKind.i64.wrap ((n : Int) + (m : Int)) = (n : Int) + (m : Int) := IntWalk.i64_in _ (by omega)
  have nneg : ¬ ((n : Int) < 0) := by omega
  have nmneg : ¬ ((n : Int) + (m : Int) < 0) := by omega
  go_enter Tryz.func169, Tryz.ntmps169
  go_wp2_with fail
  go_loopg [3, 11] 2 (fun k s i wr => ∃ j : Nat, i = .int .i64 j ∧ j ≤ 2 ∧ 2 - j ≤ k ∧ wr = w ∧ ((j = 0 ∧ s = .int .i64 0) ∨ (j = 1 ∧ s = .int .i64 n) ∨ (j = 2 ∧ s = .int .i64 (n + m))))
  case atStart => exact ⟨0, rfl, by omega, by omega, rfl, .inl ⟨rfl, rfl⟩⟩
  case round =>
    obtain ⟨j, rfl, h1, h2, rfl, ⟨rfl, rfl⟩ | ⟨rfl, rfl⟩ | ⟨rfl, rfl⟩⟩ := hrel
    · go_wp2
      go_roundg (gk - 1)
      case measure => omega
      case rel => exact ⟨1, rfl, by omega, by omega, rfl, .inr (.inl ⟨rfl, rfl⟩)⟩
    · go_wp2
      go_roundg (gk - 1)
      case measure => omega
      case rel => exact ⟨2, rfl, by omega, by omega, rfl, .inr (.inr ⟨rfl, rfl⟩)⟩
    · have CG := Lib.hid (growV_any (n + m) wr (by omega))
      rw [Int.natCast_add] at CG
      go_wp2_with fail
      refine CG.out.mono ?_
      rintro e w1 ⟨v1, rfl, hown1, hb1⟩
      have HO1 := Lib.hid hown1; clear hown1
      obtain ⟨w0, hw0⟩ : ∃ x, x = wr := ⟨wr, rfl⟩
      subst hw0
      obtain ⟨gO, hgO⟩ : ∃ g, g = gk := ⟨gk, rfl⟩
      subst hgO
      go_wp2_with fail
      go_loopg [6, 27] 2 (fun k v i W => ∃ j : Nat, i = .int .i64 j ∧ j ≤ 2 ∧ 2 - j ≤ k ∧ Below w0.heap.size w0 W ∧ ((j = 0 ∧ Hid (W.ownsRow w0.heap.size 183 1 v 0 [])) ∨ (j = 1 ∧ Hid (W.ownsRow w0.heap.size 183 1 v n (id x))) ∨ (j = 2 ∧ Hid (W.ownsRow w0.heap.size 183 1 v (n + m) (id x ++ id y)))))
      case atStart => exact ⟨0, rfl, by omega, by omega, hb1, .inl ⟨rfl, HO1⟩⟩
      case round =>
        obtain ⟨j, rfl, h3, h4, hb, ⟨rfl, hown⟩ | ⟨rfl, hown⟩ | ⟨rfl, hown⟩⟩ := hrel
        · have q0 : wr.cell? ⟨b, off, none⟩ = some (.slice A n c) := ((old_cells hb).1 _ _ hbs).trans e0
          go_wp2_with (at_builtin; refine wpList_append_nodes rfl (.tmp 31) (.tmp 32) rfl w0.heap.size _ 0 [] rfl hown.out A n c x rfl (HA.out.below hb) (fun u hu => hone u (List.mem_append_left _ hu)) HC.out HX.out (by omega) hb.size ?_; intro v4 w4 hown4 hg4)
          have hb4 := hb.grown hg4 hb.size (fun k hk => (hown.out.lt k hk).1)
          rw [Nat.zero_add, List.nil_append] at hown4
          go_wp2
          go_roundg (gk - 1)
          case measure => omega
          case rel => exact ⟨1, rfl, by omega, by omega, hb4, .inr (.inl ⟨rfl, hown4⟩)⟩
        · have q0 : wr.cell? ⟨b, off + 1, none⟩ = some (.slice B m d) := ((old_cells hb).1 _ _ hbs).trans e1
          go_wp2_with (at_builtin; refine wpList_append_nodes rfl (.tmp 31) (.tmp 32) rfl w0.heap.size _ n (id x) rfl hown.out B m d y rfl (HB.out.below hb) (fun u hu => hone u (List.mem_append_right _ hu)) HD.out HY.out (by omega) hb.size ?_; intro v4 w4 hown4 hg4)
          have hb4 := hb.grown hg4 hb.size (fun k hk => (hown.out.lt k hk).1)
          go_wp2
          go_roundg (gk - 1)
          case measure => omega
          case rel => exact ⟨2, rfl, by omega, by omega, hb4, .inr (.inr ⟨rfl, hown4⟩)⟩
        · have hx := hown.out
          simp only [id] at hx
          obtain ⟨A7, c7, rfl, hI7, _, hC7⟩ := vs_of_own hx
          have HI := Lib.hid hI7
          have HC7 := Lib.hid hC7
          clear hx hown hI7 hC7
          go_wp2
          go_ret
          exact ⟨A7, c7, rfl, hb, HI.out, HC7.out⟩
set_option maxHeartbeats 4000000 in
set_option maxRecDepth 100000 in
theorem concatI_any (Q A B : Option Addr) (n c m d : Nat) (x y : List I7) (w : World) (hQ : VsAt w Q [.slice A n c, .slice B m d]) (hA : ItsAt w A x) (hx : x.length = n) (hc : Caps A n c) (hB : ItsAt w B y) (hy : y.length = m) (hd : Caps B m d) (hn : n ≤ 100000) (hm : m ≤ 100000) :
    Calls Tryz.prog 171 #[.slice Q 2 2] w fun e w' => ∃ A' c', e = .returned (.slice A' (n + m) c') ∧ Below w.heap.size w w' ∧ ItsAt w' A' (x ++ y) ∧ Caps A' (n + m) c' := by
  obtain ⟨b, off, rfl, hbs, hq⟩ := hQ (by simp)
  have e0 : w.cell? ⟨b, off, none⟩ = some (.slice A n c) := hq 0 (by simp)
  have e1 : w.cell? ⟨b, off + 1, none⟩ = some (.slice B m d) := hq 1 (by simp)
  have HA := Lib.hid hA
  have HB := Lib.hid hB
  have HX := Lib.hid hx
  have HY := Lib.hid hy
  have HC := Lib.hid hc
  have HD := Lib.hid hd
  clear hq hQ hA hB hx hy hc hd
  have wn : IntKind.i64.wrap (n : Int) = (n : Int) := IntWalk.i64_in _ (by omega)
  have wnm : IntKind.i64.wrap ((n : Int) + (m : Int)) = (n : Int) + (m : Int) := IntWalk.i64_in _ (by omega)
  have nneg : ¬ ((n : Int) < 0) := by omega
  have nmneg : ¬ ((n : Int) + (m : Int) < 0) := by omega
  go_enter Tryz.func171, Tryz.ntmps171
  go_wp2_with fail
  go_loopg [3, 11] 2 (fun k s i wr => ∃ j : Nat, i = .int .i64 j ∧ j ≤ 2 ∧ 2 - j ≤ k ∧ wr = w ∧ ((j = 0 ∧ s = .int .i64 0) ∨ (j = 1 ∧ s = .int .i64 n) ∨ (j = 2 ∧ s = .int .i64 (n + m))))
  case atStart => exact ⟨0, rfl, by omega, by omega, rfl, .inl ⟨rfl, rfl⟩⟩
  case round =>
    obtain ⟨j, rfl, h1, h2, rfl, ⟨rfl, rfl⟩ | ⟨rfl, rfl⟩ | ⟨rfl, rfl⟩⟩ := hrel
    · go_wp2
      go_roundg (gk - 1)
      case measure => omega
      case rel => exact ⟨1, rfl, by omega, by omega, rfl, .inr (.inl ⟨rfl, rfl⟩)⟩
    · go_wp2
      go_roundg (gk - 1)
      case measure => omega
      case rel => exact ⟨2, rfl, by omega, by omega, rfl, .inr (.inr ⟨rfl, rfl⟩)⟩
    · have CG := Lib.hid (growI_any (n + m) wr (by omega))
      rw [Int.natCast_add] at CG
      go_wp2_with fail
      refine CG.out.mono ?_
      rintro e w1 ⟨v1, rfl, hown1, hb1⟩
      have HO1 := Lib.hid hown1; clear hown1
      obtain ⟨w0, hw0⟩ : ∃ x, x = wr := ⟨wr, rfl⟩
      subst hw0
      obtain ⟨gO, hgO⟩ : ∃ g, g = gk := ⟨gk, rfl⟩
      subst hgO
      go_wp2_with fail
      go_loopg [6, 27] 2 (fun k v i W => ∃ j : Nat, i = .int .i64 j ∧ j ≤ 2 ∧ 2 - j ≤ k ∧ Below w0.heap.size w0 W ∧ ((j = 0 ∧ Hid (W.ownsRow w0.heap.size 162 7 v 0 [])) ∨ (j = 1 ∧ Hid (W.ownsRow w0.heap.size 162 7 v n (iflat x))) ∨ (j = 2 ∧ Hid (W.ownsRow w0.heap.size 162 7 v (n + m) (iflat x ++ iflat y)))))
      case atStart => exact ⟨0, rfl, by omega, by omega, hb1, .inl ⟨rfl, HO1⟩⟩
      case round =>
        obtain ⟨j, rfl, h3, h4, hb, ⟨rfl, hown⟩ | ⟨rfl, hown⟩ | ⟨rfl, hown⟩⟩ := hrel
        · have q0 : wr.cell? ⟨b, off, none⟩ = some (.slice A n c) := ((old_cells hb).1 _ _ hbs).trans e0
          go_wp2_with (at_builtin; refine wpList_append_items rfl (.tmp 31) (.tmp 32) rfl w0.heap.size _ 0 [] rfl hown.out A n c x rfl (HA.out.below hb) HC.out HX.out (by omega) hb.size ?_; intro v4 w4 hown4 hg4)
          have hb4 := hb.grown hg4 hb.size (fun k hk => (hown.out.lt k hk).1)
          rw [Nat.zero_add, List.nil_append] at hown4
          go_wp2
          go_roundg (gk - 1)
          case measure => omega
          case rel => exact ⟨1, rfl, by omega, by omega, hb4, .inr (.inl ⟨rfl, hown4⟩)⟩
        · have q0 : wr.cell? ⟨b, off + 1, none⟩ = some (.slice B m d) := ((old_cells hb).1 _ _ hbs).trans e1
          go_wp2_with (at_builtin; refine wpList_append_items rfl (.tmp 31) (.tmp 32) rfl w0.heap.size _ n (iflat x) rfl hown.out B m d y rfl (HB.out.below hb) HD.out HY.out (by omega) hb.size ?_; intro v4 w4 hown4 hg4)
          have hb4 := hb.grown hg4 hb.size (fun k hk => (hown.out.lt k hk).1)
          go_wp2
          go_roundg (gk - 1)
          case measure => omega
          case rel => exact ⟨2, rfl, by omega, by omega, hb4, .inr (.inr ⟨rfl, hown4⟩)⟩
        · have hx := hown.out
          rw [← iflat_append] at hx
          obtain ⟨A7, c7, rfl, hI7, _, hC7⟩ := its_of_own hx
          have HI := Lib.hid hI7
          have HC7 := Lib.hid hC7
          clear hx hown hI7 hC7
          go_wp2
          go_ret
          exact ⟨A7, c7, rfl, hb, HI.out, HC7.out⟩
/-- A topmost node, or none. -/
def Top (w : World) (v : Value) (l : List I7) (h : Nat) : Prop := (h = 0 ∧ v = .nilIface ∧ l = []) ∨ (∃ c, NodeAt h w ⟨v, l, c⟩ ∧ (2 ≤ h → 2 ≤ c))
theorem Top.below {w w' : World} {v : Value} {l : List I7} {h : Nat} (ht : Top w v l h) (hb : Below w.heap.size w w') : Top w' v l h := by
  rcases ht with h1 | ⟨c, h1, h2⟩
  · exact .inl h1
  · exact .inr ⟨c, h1.below hb, h2⟩
set_option maxHeartbeats 4000000 in
set_option maxRecDepth 100000 in
theorem crown_nil (A : Option Addr) (c : Nat) (w : World) : Calls Tryz.prog 140 #[.slice A 0 c] w fun e w' => e = .returned .nilIface ∧ w' = w := by
  go_enter Tryz.func140, Tryz.ntmps140
  go_wp2
  go_ret
  exact ⟨rfl, rfl⟩
set_option maxHeartbeats 4000000 in
set_option maxRecDepth 100000 in
theorem crown_one (b off c : Nat) (v : Value) (w : World) (h : w.cell? ⟨b, off, none⟩ = some v) : Calls Tryz.prog 140 #[.slice (some ⟨b, off, none⟩) 1 c] w fun e w' => e = .returned v ∧ w' = w := by
  go_enter Tryz.func140, Tryz.ntmps140
  go_wp2
  go_ret
  exact ⟨rfl, rfl⟩
set_option maxHeartbeats 4000000 in
set_option maxRecDepth 100000 in
theorem crown_more (h : Nat) (A : Option Addr) (n c : Nat) (ks : List Kd) (w : World) (hA : VsAt w A (kvs ks)) (hl : ks.length = n) (hp : 2 ≤ n) (hn : n ≤ 8) (hc : Caps A n c) (hr : Row (h + 1) w ks) (hw : Wd ks) (hz : (fl ks).length ≤ 100000) :
    Calls Tryz.prog 140 #[.slice A n c] w fun e w' => ∃ b, e = .returned (brv b) ∧ NodeAt (h + 2) w' ⟨brv b, fl ks, n⟩ ∧ Below w.heap.size w w' := by
  have C1 := Lib.hid (newBranch_any h A n c ks w hA hl (by omega) hn hc hr hw hz)
  have HR := Lib.hid hr
  clear hA hl hc hr hw hz
  have n0 : ¬ n = 0 := by omega
  have n1 : ¬ n = 1 := by omega
  go_enter Tryz.func140, Tryz.ntmps140
  go_wp2_with fail
  refine C1.out.mono ?_
  rintro e w1 ⟨b, rfl, hN, hb⟩
  have HN := Lib.hid (hN w1 (Agr.self _ _) (HR.out.below hb)); clear hN
  go_wp2
  go_ret
  exact ⟨b, rfl, HN.out, hb⟩
theorem crown_any (h : Nat) (A : Option Addr) (n c : Nat) (ks : List Kd) (w : World) (hA : VsAt w A (kvs ks)) (hl : ks.length = n) (hn : n ≤ 8) (hc : Caps A n c) (hr : Row (h + 1) w ks) (hw : 2 ≤ n → Wd ks) (hz : (fl ks).length ≤ 100000) (h1 : n = 1 → 2 ≤ h + 1 → 2 ≤ (kth ks 0).c) :
    Calls Tryz.prog 140 #[.slice A n c] w fun e w' => ∃ v h', e = .returned v ∧ Top w' v (fl ks) h' ∧ Below w.heap.size w w' := by
  rcases Nat.eq_zero_or_pos n with h0 | hp
  · subst h0
    refine (crown_nil A c w).mono ?_
    rintro e w' ⟨rfl, rfl⟩
    exact ⟨_, 0, rfl, .inl ⟨rfl, rfl, by rw [List.eq_nil_of_length_eq_zero hl]; rfl⟩, Below.refl _ _⟩
  · by_cases hn1 : n = 1
    · subst hn1
      obtain ⟨b, off, rfl, hbs, hcell⟩ := hA (by rw [kvs_length]; omega)
      have e0 := hcell 0 (by rw [kvs_length]; omega)
      rw [vth_kvs ks (by omega)] at e0
      refine (crown_one b off c _ w e0).mono ?_
      rintro e w' ⟨rfl, rfl⟩
      obtain ⟨k, rfl⟩ : ∃ k, ks = [k] := by
        match ks, hl with
        | [k], _ => exact ⟨k, rfl⟩
      exact ⟨_, h + 1, rfl, .inr ⟨k.c, by rw [fl_one]; exact hr k (by simp), h1 rfl⟩, Below.refl _ _⟩
    · refine (crown_more h A n c ks w hA hl (by omega) hn hc hr (hw (by omega)) hz).mono ?_
      rintro e w' ⟨b, rfl, hN, hb⟩
      exact ⟨_, h + 2, rfl, .inr ⟨n, hN, fun _ => by omega⟩, hb⟩
/-- What join answers. -/
def Joined (w : World) (ha hb : Nat) (a b : Kd) (v : Value) : Prop :=
  ∃ ks R cp, v = .slice R ks.length cp ∧ VsAt w R (kvs ks) ∧ Caps R ks.length cp ∧ Row (max ha hb) w ks ∧ fl ks = a.l ++ b.l ∧ 1 ≤ ks.length ∧ ks.length ≤ 2 ∧ (2 ≤ ks.length → Wd ks) ∧ (ks.length = 1 → (hb ≤ ha → a.c ≤ (kth ks 0).c) ∧ (ha ≤ hb → b.c ≤ (kth ks 0).c))
theorem joined_of_made {w : World} {ha hb n : Nat} {a b : Kd} {v : Value} {l : List I7} (hm : Made w (max ha hb) n l v) (hl : l = a.l ++ b.l) (h1 : 1 ≤ n) (h2 : n ≤ 16) (h3 : hb ≤ ha → a.c ≤ n) (h4 : ha ≤ hb → b.c ≤ n) : Joined w ha hb a b v := by
  obtain ⟨ks, R, cp, rfl, hV, hC, hR, hF, hL, hW, hK⟩ := hm
  refine ⟨ks, R, cp, rfl, hV, hC, hR, hF.trans hl, by omega, by omega, hW, fun h => ⟨fun h5 => ?_, fun h5 => ?_⟩⟩
  · rw [hK (by omega) (by omega)]; exact h3 h5
  · rw [hK (by omega) (by omega)]; exact h4 h5
theorem kth_len (ks : List Kd) {j : Nat} (h : j < ks.length) : (kth ks j).l.length ≤ (fl ks).length := by
  have e := fl_take ks h
  have e2 : fl ks = fl (ks.take (j + 1)) ++ fl (ks.drop (j + 1)) := by rw [← fl_append, List.take_append_drop]
  rw [e2, e, List.length_append, List.length_append]
  omega
theorem VsAt.front {w : World} {A : Option Addr} {ks : List Kd} (h : VsAt w A (kvs ks)) (k : Nat) : VsAt w A (kvs (ks.take k)) := by
  intro hp
  rw [kvs_length, List.length_take] at hp
  obtain ⟨b, off, rfl, hb, hc⟩ := h (by rw [kvs_length]; omega)
  refine ⟨b, off, rfl, hb, fun j hj => ?_⟩
  rw [kvs_length, List.length_take] at hj
  have e := hc j (by rw [kvs_length]; omega)
  rw [vth_kvs ks (by omega)] at e
  rw [vth_kvs _ (by rw [List.length_take]; omega), e]
  congr 2
  rw [kth_get ks (by omega), kth_get _ (by rw [List.length_take]; omega)]
  simp
theorem wd_one {k2 : List Kd} (h : k2.length = 1) (h4 : 4 ≤ (kth k2 0).c) : Wd k2 := by
  match k2, h with
  | [k], _ => intro x hx; rw [List.mem_singleton.1 hx]; exact h4
theorem wd_two {k2 : List Kd} (h1 : 1 ≤ k2.length) (h2 : k2.length ≤ 2) (h3 : 2 ≤ k2.length → Wd k2) (h4 : k2.length = 1 → 4 ≤ (kth k2 0).c) : Wd k2 := by
  by_cases h : 2 ≤ k2.length
  · exact h3 h
  · exact wd_one (by omega) (h4 (by omega))
theorem two_vs {w : World} {b : Nat} {x y : Value} {t : TypeId} (h : w.heap[b]? = some (.cells #[x, y] t (0, 0))) : VsAt w (some ⟨b, 0, none⟩) [x, y] := by
  intro _
  refine ⟨b, 0, rfl, block_lt h, fun k hk => ?_⟩
  rw [cell_of_row w b _ _ _ _ h, Nat.zero_add]
  obtain rfl | rfl : k = 0 ∨ k = 1 := by simp at hk; omega
  · rfl
  · rfl
set_option maxHeartbeats 4000000 in
set_option maxRecDepth 100000 in
theorem join_gt (ha hb : Nat) (a b : Kd) (w : World) (hA : NodeAt (ha + 2) w a) (hB : NodeAt hb w b) (hz : a.l.length + b.l.length ≤ 100000) (hgt : hb < ha + 2)
    (IH : ∀ (x : Kd) (W : World), NodeAt (ha + 1) W x → NodeAt hb W b → x.l.length + b.l.length ≤ 100000 → Calls Tryz.prog 141 #[x.v, b.v] W fun e w' => ∃ v, e = .returned v ∧ Joined w' (ha + 1) hb x b v ∧ Below W.heap.size W w') :
    Calls Tryz.prog 141 #[a.v, b.v] w fun e w' => ∃ v, e = .returned v ∧ Joined w' (ha + 2) hb a b v ∧ Below w.heap.size w w' := by
  have CA := Lib.hid (heightOf_any (ha + 2) w a hA)
  have CB := Lib.hid (heightOf_any hb w b hB)
  obtain ⟨ba, A, c, ks, q, hk⟩ := hA
  rw [q.v] at CA ⊢
  obtain ⟨e0, _⟩ := raw_bcs q.raw
  have hgt' : (hb : Int) < (ha : Int) + 2 := by omega
  have t2 := tp_b
  obtain ⟨p, hp⟩ : ∃ p, a.c = p + 1 := ⟨a.c - 1, by have := q.pos; omega⟩
  rw [hp] at e0
  have hp8 : p + 1 ≤ 8 := by have := q.most; omega
  have hlen := q.len
  have hmem : kth ks p ∈ ks := kth_mem ks (by omega)
  obtain ⟨bA, off, hAe, hbA, hcell⟩ := q.kids (by rw [kvs_length]; omega)
  have eP := hcell p (by rw [kvs_length]; omega)
  rw [vth_kvs ks (by omega)] at eP
  have hcap := q.caps
  rw [hp] at hcap
  have hcp : p + 1 ≤ c := hcap.1
  have hpc : p ≤ c := by omega
  have CJ := Lib.hid fun (W : World) (hW : Below w.heap.size w W) => IH (kth ks p) W ((hk _ hmem).1.below hW) (hB.below hW) (by have := kth_len ks (show p < ks.length by omega); rw [q.fl] at this; omega)
  have E := Lib.hid fun (W : World) (hW : Below w.heap.size w W) => ((old_cells hW).1 _ _ hbA).trans eP
  have HF := Lib.hid fun (W : World) (hW : Below w.heap.size w W) => (q.kids.front p).below hW
  have HR := Lib.hid fun (W : World) (hW : Below w.heap.size w W) => (show Row (ha + 1) W (ks.take p) from fun x hx => (hk x (List.mem_of_mem_take hx)).1.below hW)
  have HWd := Lib.hid (show Wd (ks.take p) from fun x hx => (hk x (List.mem_of_mem_take hx)).2)
  have HC := Lib.hid (show Caps A p c from ⟨hpc, hcap.2⟩)
  have HLp := Lib.hid (show (kvs (ks.take p)).length = p by rw [kvs_length, List.length_take]; omega)
  have HFl := Lib.hid (show fl (ks.take p) ++ (kth ks p).l = a.l by rw [← q.fl, ← fl_take ks (by omega), List.take_of_length_le (by omega)])
  have Hc4 := Lib.hid (hk _ hmem).2
  have HP := Lib.hid hp
  subst hAe
  have Hgt := Lib.hid hgt
  clear hcell hk hlen q hp hcap IH hmem hB hgt
  generalize kth ks p = x at *
  unfold brv at *
  obtain ⟨i1, hi1, _, _, _⟩ := info_parts node_info
  have s1 := fun W : World => cut_front (P := Tryz.prog) Tryz.underlying227 hi1 (some ⟨bA, off, none⟩) (p + 1) c p hpc W
  go_enter Tryz.func141, Tryz.ntmps141
  go_wp2_with fail
  refine CA.out.mono ?_
  rintro e w1 ⟨rfl, rfl⟩
  go_wp2_with fail
  refine CB.out.mono ?_
  rintro e w1 ⟨rfl, rfl⟩
  go_wp2_with fail
  have hq1 : IntKind.i64.wrap (p : Int) = (p : Int) := IntWalk.i64_in _ (by omega)
  have hq2 : IntKind.i64.wrap ((p : Int) + 1 - 1) = (p : Int) := by rw [show (p : Int) + 1 - 1 = (p : Int) from by omega]; exact hq1
  have hq3 : (0 : Int) ≤ (p : Int) := by omega
  have hq4 : (p : Int) < (p : Int) + 1 := by omega
  have hq5 : (p : Int) ≤ (c : Int) := by omega
  have hW2 : Below w1.heap.size w1 w1.drew := (Below.refl _ _).drew
  have MK := Lib.hid fun (W : World) (hW : Below w1.heap.size w1 W) => (⟨E.out W hW, hW⟩ : W.cell? ⟨bA, off + p, none⟩ = some x.v ∧ Below w1.heap.size w1 W)
  go_region_held3 (fun W => W.cell? ⟨bA, off + p, none⟩ = some x.v ∧ Below w1.heap.size w1 W) (first | (with_reducible exact MK.out _ hW2) | (with_reducible exact MK.out _ (Below.refl _ _)) | (exact MK.out _ (hW2.alloc hW2.size _)) | go_keep)
    (first
      | (go_at_call 141; ((with_reducible refine (CJ.out _ hW2).mono ?_); rintro e w2 ⟨v2, rfl, ⟨k2, R2, p2, rfl, hV2, hC2, hR2, hF2, hl2, hm2, hw2, hk2⟩, hb2⟩); have hW2 := hW2.trans (hb2.mono hW2.size); have hk4 : Wd k2 := wd_two hl2 hm2 hw2 (fun h => Nat.le_trans Hc4.out ((hk2 h).1 (by have := Hgt.out; omega))); rw [show max (ha + 1) hb = ha + 1 from Nat.max_eq_left (by have := Hgt.out; omega)] at hR2; have hzz : (fl (ks.take p ++ k2)).length ≤ 100000 := (by rw [fl_append, hF2, ← List.append_assoc, HFl.out, List.length_append]; exact hz))
      | (go_at_call 169; have a3 := hW2.alloc hW2.size (.cells #[.slice (some ⟨bA, off, none⟩) p c, .slice R2 k2.length p2] 227); have q3 : Below w2.heap.size w2 (w2.alloc (.cells #[.slice (some ⟨bA, off, none⟩) p c, .slice R2 k2.length p2] 227)) := (Below.refl _ _).alloc (Nat.le_refl _) _; ((with_reducible refine (concatV_any _ _ _ p c k2.length p2 (kvs (ks.take p)) (kvs k2) _ (two_vs (heap_alloc_new w2 _)) (HF.out _ a3) HLp.out HC.out (hV2.below q3) (kvs_length k2) hC2 (by omega) (by omega) (by rw [← kvs_append]; exact ((HR.out _ hW2).append hR2).one)).mono ?_); rintro e w3 ⟨A4, c4, rfl, hb3, hV3, hC3⟩); have hW2 := a3.trans (hb3.mono a3.size); rw [← kvs_append] at hV3; have hR3 := hR2.below (q3.trans (hb3.mono q3.size)))
      | (go_at_call 164; ((with_reducible refine (branches_any ha A4 (p + k2.length) c4 (ks.take p ++ k2) _ hV3 (by rw [List.length_append, ← kvs_length (ks.take p), HLp.out]) hC3 (by omega) ((HR.out _ hW2).append hR3) (HWd.out.append hk4) hzz).mono ?_); rintro e w4 ⟨v4, rfl, hM4, hb4⟩); have hW2 := hW2.trans (hb4.mono hW2.size)))
  have HX : Hid (Joined w4 (ha + 2) hb a b v4) := joined_of_made (by rw [Nat.max_eq_left (by have := Hgt.out; omega)]; exact hM4) (by rw [fl_append, hF2, ← List.append_assoc, HFl.out]) (by omega) (by omega) (fun _ => by rw [HP.out]; omega) (fun h => by have := Hgt.out; omega)
  clear hM4
  go_wp2
  go_ret
  exact ⟨_, rfl, HX.out, hW2⟩
theorem cut_back1 {P : Program} {t e : TypeId} (ht : P.underlying t = some (.slice e)) {i : TypeInfo} (hi : P.info? e = some i) (h1 : P.cellsOf e = 1) (A : Option Addr) (n c k : Nat) (hk : k ≤ n) (w : World) :
    (Instr.slice t (.slice A n c) (some (.int .i64 k)) none none).run P w = .ok (.slice (if c = k then A else A.map (·.add k)) (n - k) (c - k)) w := by
  have he : P.elem t = e := by simp [Program.elem, ht]
  subst he
  rw [run_slice_l _ _ _ _ _ ht _ _ (by omega) (by omega), run_sizeOf _ hi, h1]
  simp [Result.andThen, sliced]
theorem VsAt.back {w : World} {A : Option Addr} {ks : List Kd} {n c : Nat} (h : VsAt w A (kvs ks)) (hl : ks.length = n) (hc : Caps A n c) (k : Nat) (hk : k ≤ n) : VsAt w (if c = k then A else A.map (·.add k)) (kvs (ks.drop k)) ∧ Caps (if c = k then A else A.map (·.add k)) (n - k) (c - k) := by
  by_cases hck : c = k
  · rw [if_pos hck]
    refine ⟨fun hp => ?_, ?_⟩
    · rw [kvs_length, List.length_drop] at hp
      have := hc.1
      omega
    · exact ⟨by have := hc.1; omega, fun e => by have := hc.2 e; omega⟩
  · rw [if_neg hck]
    refine ⟨?_, hc.cutK k (n - k) (by omega)⟩
    have := h.cutK hl k (n - k) (by omega)
    rwa [show (ks.drop k).take (n - k) = ks.drop k from List.take_of_length_le (by rw [List.length_drop]; omega)] at this
theorem fl_drop (ks : List Kd) (h : 0 < ks.length) : (kth ks 0).l ++ fl (ks.drop 1) = fl ks := by
  match ks, h with
  | k :: r, _ => simp [fl, kth]
set_option maxHeartbeats 4000000 in
set_option maxRecDepth 100000 in
theorem join_lt (ha hb : Nat) (a b : Kd) (w : World) (hA : NodeAt ha w a) (hB : NodeAt (hb + 2) w b) (hz : a.l.length + b.l.length ≤ 100000) (hgt : ha < hb + 2)
    (IH : ∀ (x : Kd) (W : World), NodeAt ha W a → NodeAt (hb + 1) W x → a.l.length + x.l.length ≤ 100000 → Calls Tryz.prog 141 #[a.v, x.v] W fun e w' => ∃ v, e = .returned v ∧ Joined w' ha (hb + 1) a x v ∧ Below W.heap.size W w') :
    Calls Tryz.prog 141 #[a.v, b.v] w fun e w' => ∃ v, e = .returned v ∧ Joined w' ha (hb + 2) a b v ∧ Below w.heap.size w w' := by
  have CA := Lib.hid (heightOf_any ha w a hA)
  have CB := Lib.hid (heightOf_any (hb + 2) w b hB)
  obtain ⟨ba, A, c, ks, q, hk⟩ := hB
  rw [q.v] at CB ⊢
  obtain ⟨e0, _⟩ := raw_bcs q.raw
  have hgt1 : ¬ ((hb : Int) + 2 < (ha : Int)) := by omega
  have hgt' : (ha : Int) < (hb : Int) + 2 := by omega
  have t2 := tp_b
  obtain ⟨p, hp⟩ : ∃ p, b.c = p + 1 := ⟨b.c - 1, by have := q.pos; omega⟩
  rw [hp] at e0
  have hp8 : p + 1 ≤ 8 := by have := q.most; omega
  have hlen := q.len
  have hmem : kth ks 0 ∈ ks := kth_mem ks (by omega)
  obtain ⟨bA, off, hAe, hbA, hcell⟩ := q.kids (by rw [kvs_length]; omega)
  have eP := hcell 0 (by rw [kvs_length]; omega)
  rw [vth_kvs ks (by omega), Nat.add_zero] at eP
  have hcap := q.caps
  rw [hp] at hcap
  have hcp : p + 1 ≤ c := hcap.1
  have CJ := Lib.hid fun (W : World) (hW : Below w.heap.size w W) => IH (kth ks 0) W (hA.below hW) ((hk _ hmem).1.below hW) (by have := kth_len ks (show 0 < ks.length by omega); rw [q.fl] at this; omega)
  have E := Lib.hid fun (W : World) (hW : Below w.heap.size w W) => ((old_cells hW).1 _ _ hbA).trans eP
  have hbk := q.kids.back (show ks.length = p + 1 by omega) hcap 1 (by omega)
  have hbk2 := hbk.2
  rw [show p + 1 - 1 = p from rfl] at hbk2
  have HF := Lib.hid fun (W : World) (hW : Below w.heap.size w W) => hbk.1.below hW
  have HR := Lib.hid fun (W : World) (hW : Below w.heap.size w W) => (show Row (hb + 1) W (ks.drop 1) from fun x hx => (hk x (List.mem_of_mem_drop hx)).1.below hW)
  have HWd := Lib.hid (show Wd (ks.drop 1) from fun x hx => (hk x (List.mem_of_mem_drop hx)).2)
  have HC := Lib.hid hbk2
  have HLp := Lib.hid (show (kvs (ks.drop 1)).length = p by rw [kvs_length, List.length_drop]; omega)
  have HFl := Lib.hid (show (kth ks 0).l ++ fl (ks.drop 1) = b.l by rw [fl_drop ks (by omega), q.fl])
  have Hc4 := Lib.hid (hk _ hmem).2
  have HP := Lib.hid hp
  subst hAe
  have Hgt := Lib.hid hgt
  obtain ⟨i1, hi1, _, _, _⟩ := info_parts node_info
  have s1 : ∀ W : World, (Instr.slice 227 (.slice (some ⟨bA, off, none⟩) (p + 1) c) (some (.int .i64 1)) none none).run Tryz.prog W = .ok (.slice (if c = 1 then (some ⟨bA, off, none⟩ : Option Addr) else (some (⟨bA, off, none⟩ : Addr)).map (·.add 1)) (p + 1 - 1) (c - 1)) W := fun W : World => cut_back1 (P := Tryz.prog) Tryz.underlying227 hi1 (by kernel_rfl) (some ⟨bA, off, none⟩) (p + 1) c 1 (by omega) W
  rw [show p + 1 - 1 = p from rfl] at s1
  clear hcell hk hlen q hp hcap IH hmem hA hgt hbk hbk2
  generalize kth ks 0 = x at *
  have hA1 : ∃ AA, AA = (if c = 1 then (some ⟨bA, off, none⟩ : Option Addr) else (some (⟨bA, off, none⟩ : Addr)).map (·.add 1)) := ⟨_, rfl⟩
  obtain ⟨AA, hAA⟩ := hA1
  rw [← hAA] at s1 HF HC
  have HAA := Lib.hid hAA; clear hAA
  have hD1 : ∃ cc, cc = c - 1 := ⟨_, rfl⟩
  obtain ⟨cc, hcc⟩ := hD1
  rw [← hcc] at s1 HC
  have HCC := Lib.hid hcc; clear hcc
  unfold brv at *
  go_enter Tryz.func141, Tryz.ntmps141
  go_wp2_with fail
  refine CA.out.mono ?_
  rintro e w1 ⟨rfl, rfl⟩
  go_wp2_with fail
  refine CB.out.mono ?_
  rintro e w1 ⟨rfl, rfl⟩
  go_wp2_with fail
  have hq3 : (0 : Int) < (p : Int) + 1 := by omega
  have hW2 : Below w1.heap.size w1 w1.drew := (Below.refl _ _).drew
  have MK := Lib.hid fun (W : World) (hW : Below w1.heap.size w1 W) => (⟨E.out W hW, hW⟩ : W.cell? ⟨bA, off, none⟩ = some x.v ∧ Below w1.heap.size w1 W)
  go_region_held3 (fun W => W.cell? ⟨bA, off, none⟩ = some x.v ∧ Below w1.heap.size w1 W) (first | (with_reducible exact MK.out _ hW2) | (with_reducible exact MK.out _ (Below.refl _ _)) | (exact MK.out _ (hW2.alloc hW2.size _)) | go_keep)
    (first
      | (go_at_call 141; ((with_reducible refine (CJ.out _ hW2).mono ?_); rintro e w2 ⟨v2, rfl, ⟨k2, R2, p2, rfl, hV2, hC2, hR2, hF2, hl2, hm2, hw2, hk2⟩, hb2⟩); have hW2 := hW2.trans (hb2.mono hW2.size); have hk4 : Wd k2 := wd_two hl2 hm2 hw2 (fun h => Nat.le_trans Hc4.out ((hk2 h).2 (by have := Hgt.out; omega))); rw [show max ha (hb + 1) = hb + 1 from Nat.max_eq_right (by have := Hgt.out; omega)] at hR2; have hzz : (fl (k2 ++ ks.drop 1)).length ≤ 100000 := (by rw [fl_append, hF2, List.append_assoc, HFl.out, List.length_append]; exact hz))
      | (go_at_call 169; have a3 := hW2.alloc hW2.size (.cells #[.slice R2 k2.length p2, .slice AA p cc] 227); have q3 : Below w2.heap.size w2 (w2.alloc (.cells #[.slice R2 k2.length p2, .slice AA p cc] 227)) := (Below.refl _ _).alloc (Nat.le_refl _) _; ((with_reducible refine (concatV_any _ _ _ k2.length p2 p cc (kvs k2) (kvs (ks.drop 1)) _ (two_vs (heap_alloc_new w2 _)) (hV2.below q3) (kvs_length k2) hC2 (HF.out _ a3) HLp.out HC.out (by omega) (by omega) (by rw [← kvs_append]; exact (hR2.append (HR.out _ hW2)).one)).mono ?_); rintro e w3 ⟨A4, c4, rfl, hb3, hV3, hC3⟩); have hW2 := a3.trans (hb3.mono a3.size); rw [← kvs_append] at hV3; have hR3 := hR2.below (q3.trans (hb3.mono q3.size)))
      | (go_at_call 164; ((with_reducible refine (branches_any hb A4 (k2.length + p) c4 (k2 ++ ks.drop 1) _ hV3 (by rw [List.length_append, ← kvs_length (ks.drop 1), HLp.out]) hC3 (by omega) (hR3.append (HR.out _ hW2)) (hk4.append HWd.out) hzz).mono ?_); rintro e w4 ⟨v4, rfl, hM4, hb4⟩); have hW2 := hW2.trans (hb4.mono hW2.size)))
  have HX : Hid (Joined w4 ha (hb + 2) a b v4) := joined_of_made (by rw [Nat.max_eq_right (by have := Hgt.out; omega)]; exact hM4) (by rw [fl_append, hF2, List.append_assoc, HFl.out]) (by omega) (by omega) (fun h => by have := Hgt.out; omega) (fun _ => by rw [HP.out]; omega)
  clear hM4
  go_wp2
  go_ret
  exact ⟨_, rfl, HX.out, hW2⟩
theorem NodeAt.ifc {h : Nat} {w : World} {k : Kd} (hk : NodeAt h w k) : ∃ t v, k.v = .iface t v := by
  match h, hk with
  | 1, ⟨b, A, c, q⟩ => exact ⟨_, _, q.v⟩
  | h + 2, ⟨b, A, c, ks, q, _⟩ => exact ⟨_, _, q.v⟩
set_option maxHeartbeats 4000000 in
set_option maxRecDepth 100000 in
theorem join_two (h : Nat) (a b : Kd) (w : World) (hA : NodeAt h w a) (hB : NodeAt h w b) (h1 : 4 ≤ a.c) (h2 : 4 ≤ b.c) (h3 : 8 < a.c + b.c) :
    Calls Tryz.prog 141 #[a.v, b.v] w fun e w' => ∃ v, e = .returned v ∧ Joined w' h h a b v ∧ Below w.heap.size w w' := by
  have CA := Lib.hid (heightOf_any h w a hA)
  have CB := Lib.hid (heightOf_any h w b hB)
  have DA := Lib.hid (countOf_any h w a hA)
  have DB := Lib.hid (countOf_any h w b hB)
  have hq1 : IntKind.i64.wrap ((a.c : Int) + (b.c : Int)) = (a.c : Int) + (b.c : Int) := IntWalk.i64_in _ (by have := hA.cnt; have := hB.cnt; omega)
  have i1 : (4 : Int) ≤ (a.c : Int) := by omega
  have i2 : (4 : Int) ≤ (b.c : Int) := by omega
  have i3 : (8 : Int) < (a.c : Int) + (b.c : Int) := by omega
  have HX : Hid (Joined (w.alloc (.cells #[a.v, b.v] 183)) h h a b (.slice (some ⟨w.heap.size, 0, none⟩) 2 2)) := by
    have hb : Below w.heap.size w (w.alloc (.cells #[a.v, b.v] 183)) := (Below.refl _ _).alloc (Nat.le_refl _) _
    refine ⟨[a, b], _, 2, rfl, two_vs (heap_alloc_new w _), ⟨Nat.le_refl _, fun e => by cases e⟩, fun x hx => ?_, by simp [fl], by simp, by simp, fun _ x hx => ?_, fun e => by simp at e⟩
    · rw [Nat.max_self]
      rcases List.mem_cons.1 hx with rfl | hx
      · exact hA.below hb
      · rw [List.mem_singleton.1 hx]; exact hB.below hb
    · rcases List.mem_cons.1 hx with rfl | hx
      · exact h1
      · rw [List.mem_singleton.1 hx]; exact h2
  obtain ⟨t1, v1, ea⟩ := hA.ifc
  obtain ⟨t2, v2, eb⟩ := hB.ifc
  rw [ea] at CA DA HX ⊢
  rw [eb] at CB DB HX ⊢
  clear hA hB
  go_enter Tryz.func141, Tryz.ntmps141
  go_wp2_with fail
  refine CA.out.mono ?_
  rintro e w1 ⟨rfl, rfl⟩
  go_wp2_with fail
  refine CB.out.mono ?_
  rintro e w1 ⟨rfl, rfl⟩
  go_wp2_with fail
  refine DA.out.mono ?_
  rintro e w1 ⟨rfl, rfl⟩
  go_wp2_with fail
  refine DB.out.mono ?_
  rintro e w1 ⟨rfl, rfl⟩
  go_wp2_with fail
  go_ret
  exact ⟨_, rfl, HX.out, (Below.refl _ _).alloc (Nat.le_refl _) _⟩
theorem VsAt.drew_ {w : World} {A : Option Addr} {l : List Value} (h : VsAt w A l) : VsAt w.drew A l := h
set_option maxHeartbeats 8000000 in
set_option maxRecDepth 100000 in
theorem join_leaves (a b : Kd) (w : World) (hA : NodeAt 1 w a) (hB : NodeAt 1 w b) (_hz : a.l.length + b.l.length ≤ 100000) (hc : a.c < 4 ∨ (4 ≤ a.c ∧ b.c < 4) ∨ (4 ≤ a.c ∧ 4 ≤ b.c ∧ a.c + b.c ≤ 8)) :
    Calls Tryz.prog 141 #[a.v, b.v] w fun e w' => ∃ v, e = .returned v ∧ Joined w' (1) (1) a b v ∧ Below w.heap.size w w' := by
  have CA := Lib.hid (heightOf_any _ w a hA)
  have CB := Lib.hid (heightOf_any _ w b hB)
  have DA := Lib.hid (countOf_any _ w a hA)
  have DB := Lib.hid (countOf_any _ w b hB)
  have hq1 : IntKind.i64.wrap ((a.c : Int) + (b.c : Int)) = (a.c : Int) + (b.c : Int) := IntWalk.i64_in _ (by have := hA.cnt; have := hB.cnt; omega)
  have hn1 := hA.cnt
  have hn2 := hB.cnt
  obtain ⟨ba, A, c, qa⟩ := hA
  obtain ⟨bb, B, d, qb⟩ := hB
  rw [qa.v] at CA DA ⊢
  rw [qb.v] at CB DB ⊢
  have t1 := ta_ll
  have t2 := tp_l
  have ea := fun (W : World) (hW : Below w.heap.size w W) => (raw_lcs (qa.raw.below hW qa.raw.lt)).1
  have eb := fun (W : World) (hW : Below w.heap.size w W) => (raw_lcs (qb.raw.below hW qb.raw.lt)).1
  have EA := Lib.hid ea
  have EB := Lib.hid eb
  have HIA := Lib.hid fun (W : World) (hW : Below w.heap.size w W) => qa.its.below hW
  have HIB := Lib.hid fun (W : World) (hW : Below w.heap.size w W) => qb.its.below hW
  have HLA := Lib.hid qa.len
  have HLB := Lib.hid qb.len
  have HCA := Lib.hid qa.caps
  have HCB := Lib.hid qb.caps
  have HOk := Lib.hid (qa.ok.append_ qb.ok)
  have HLL := Lib.hid (show (a.l ++ b.l).length = a.c + b.c by rw [List.length_append, qa.len, qb.len])
  have HJ : Hid (∀ W v, Made W 1 (a.c + b.c) (a.l ++ b.l) v → Joined W 1 1 a b v) := fun W v hm => joined_of_made (by rw [Nat.max_self]; exact hm) rfl (by omega) (by omega) (fun _ => by omega) (fun _ => by omega)
  clear qa qb ea eb
  generalize a.c = na at *
  generalize b.c = nb at *
  unfold lfv at *
  have hc' : (na : Int) < 4 ∨ ((4 : Int) ≤ (na : Int) ∧ (nb : Int) < 4) ∨ ((4 : Int) ≤ (na : Int) ∧ (4 : Int) ≤ (nb : Int) ∧ (na : Int) + (nb : Int) ≤ 8) := by omega
  clear hc
  rcases hc' with j1 | ⟨j1, j2⟩ | ⟨j1, j2, j3⟩
  all_goals
    go_enter Tryz.func141, Tryz.ntmps141
    go_wp2_with fail
    refine CA.out.mono ?_
    rintro e w1 ⟨rfl, rfl⟩
    go_wp2_with fail
    refine CB.out.mono ?_
    rintro e w1 ⟨rfl, rfl⟩
    go_wp2_with fail
    refine DA.out.mono ?_
    rintro e w1 ⟨rfl, rfl⟩
    go_wp2_with fail
    refine DB.out.mono ?_
    rintro e w1 ⟨rfl, rfl⟩
    go_wp2_with fail
    have hW2 : Below w1.heap.size w1 w1.drew := (Below.refl _ _).drew
    have MK := Lib.hid fun (W : World) (hW : Below w1.heap.size w1 W) => (⟨EA.out W hW, EB.out W hW, hW⟩ : W.cell? ⟨ba, 0, none⟩ = some (.slice A na c) ∧ W.cell? ⟨bb, 0, none⟩ = some (.slice B nb d) ∧ Below w1.heap.size w1 W)
    go_region_held3 (fun W => W.cell? ⟨ba, 0, none⟩ = some (.slice A na c) ∧ W.cell? ⟨bb, 0, none⟩ = some (.slice B nb d) ∧ Below w1.heap.size w1 W) (first | (with_reducible exact MK.out _ hW2) | (with_reducible exact MK.out _ (Below.refl _ _)) | (exact MK.out _ (hW2.alloc hW2.size _)) | go_keep)
      (first
        | (go_at_call 171; have a3 : Below w1.heap.size w1 (w1.alloc (.cells #[.slice A na c, .slice B nb d] 138)).drew := ((Below.refl _ _).alloc (Nat.le_refl _) _).drew; ((with_reducible refine (concatI_any _ A B na c nb d a.l b.l _ (two_vs (heap_alloc_new w1 _)).drew_ (HIA.out _ a3) HLA.out HCA.out (HIB.out _ a3) HLB.out HCB.out (by omega) (by omega)).mono ?_); rintro e w3 ⟨A4, c4, rfl, hb3, hV3, hC3⟩); have hW2 := a3.trans (hb3.mono a3.size))
        | (go_at_call 163; ((with_reducible refine (leaves_any A4 (na + nb) c4 (a.l ++ b.l) _ hV3 HLL.out hC3 (by omega) HOk.out).mono ?_); rintro e w4 ⟨v4, rfl, hM4, hb4⟩); have hW2 := hW2.trans (hb4.mono hW2.size)))
    all_goals
      have HX := Lib.hid (HJ.out w4 v4 hM4)
      clear hM4
      go_wp2
      go_ret
      exact ⟨_, rfl, HX.out, hW2⟩
set_option maxHeartbeats 8000000 in
set_option maxRecDepth 100000 in
theorem join_branches (h : Nat) (a b : Kd) (w : World) (hA : NodeAt (h + 2) w a) (hB : NodeAt (h + 2) w b) (hz : a.l.length + b.l.length ≤ 100000) (hc : a.c < 4 ∨ (4 ≤ a.c ∧ b.c < 4) ∨ (4 ≤ a.c ∧ 4 ≤ b.c ∧ a.c + b.c ≤ 8)) :
    Calls Tryz.prog 141 #[a.v, b.v] w fun e w' => ∃ v, e = .returned v ∧ Joined w' ((h + 2)) ((h + 2)) a b v ∧ Below w.heap.size w w' := by
  have CA := Lib.hid (heightOf_any _ w a hA)
  have CB := Lib.hid (heightOf_any _ w b hB)
  have DA := Lib.hid (countOf_any _ w a hA)
  have DB := Lib.hid (countOf_any _ w b hB)
  have hq1 : IntKind.i64.wrap ((a.c : Int) + (b.c : Int)) = (a.c : Int) + (b.c : Int) := IntWalk.i64_in _ (by have := hA.cnt; have := hB.cnt; omega)
  have hn1 := hA.cnt
  have hn2 := hB.cnt
  obtain ⟨ba, A, c, ka, qa, ra⟩ := hA
  obtain ⟨bb, B, d, kb, qb, rb⟩ := hB
  rw [qa.v] at CA DA ⊢
  rw [qb.v] at CB DB ⊢
  have t1 := ta_bl
  have t2 := tp_b
  have ea := fun (W : World) (hW : Below w.heap.size w W) => (raw_bcs (qa.raw.below hW qa.raw.lt)).1
  have eb := fun (W : World) (hW : Below w.heap.size w W) => (raw_bcs (qb.raw.below hW qb.raw.lt)).1
  have EA := Lib.hid ea
  have EB := Lib.hid eb
  have HIA := Lib.hid fun (W : World) (hW : Below w.heap.size w W) => qa.kids.below hW
  have HIB := Lib.hid fun (W : World) (hW : Below w.heap.size w W) => qb.kids.below hW
  have HLA := Lib.hid (show (kvs ka).length = a.c by rw [kvs_length, qa.len])
  have HLB := Lib.hid (show (kvs kb).length = b.c by rw [kvs_length, qb.len])
  have HCA := Lib.hid qa.caps
  have HCB := Lib.hid qb.caps
  have HR := Lib.hid fun (W : World) (hW : Below w.heap.size w W) => (show Row (h + 1) W (ka ++ kb) from Row.append (fun x hx => (ra x hx).1.below hW) (fun x hx => (rb x hx).1.below hW))
  have HWd := Lib.hid (show Wd (ka ++ kb) from Wd.append (fun x hx => (ra x hx).2) (fun x hx => (rb x hx).2))
  have HFl := Lib.hid (show fl (ka ++ kb) = a.l ++ b.l by rw [fl_append, qa.fl, qb.fl])
  have HLL := Lib.hid (show (ka ++ kb).length = a.c + b.c by rw [List.length_append, qa.len, qb.len])
  have HZ := Lib.hid (show (fl (ka ++ kb)).length ≤ 100000 by rw [fl_append, qa.fl, qb.fl, List.length_append]; exact hz)
  have HJ : Hid (∀ W v, Made W (h + 2) (a.c + b.c) (fl (ka ++ kb)) v → Joined W (h + 2) (h + 2) a b v) := fun W v hm => joined_of_made (by rw [Nat.max_self]; exact hm) (by rw [fl_append, qa.fl, qb.fl]) (by omega) (by omega) (fun _ => by omega) (fun _ => by omega)
  clear qa qb ea eb ra rb
  generalize a.c = na at *
  generalize b.c = nb at *
  unfold brv at *
  have hc' : (na : Int) < 4 ∨ ((4 : Int) ≤ (na : Int) ∧ (nb : Int) < 4) ∨ ((4 : Int) ≤ (na : Int) ∧ (4 : Int) ≤ (nb : Int) ∧ (na : Int) + (nb : Int) ≤ 8) := by omega
  clear hc
  rcases hc' with j1 | ⟨j1, j2⟩ | ⟨j1, j2, j3⟩
  all_goals
    go_enter Tryz.func141, Tryz.ntmps141
    go_wp2_with fail
    refine CA.out.mono ?_
    rintro e w1 ⟨rfl, rfl⟩
    go_wp2_with fail
    refine CB.out.mono ?_
    rintro e w1 ⟨rfl, rfl⟩
    go_wp2_with fail
    refine DA.out.mono ?_
    rintro e w1 ⟨rfl, rfl⟩
    go_wp2_with fail
    refine DB.out.mono ?_
    rintro e w1 ⟨rfl, rfl⟩
    go_wp2_with fail
    have hW2 : Below w1.heap.size w1 w1.drew := (Below.refl _ _).drew
    have MK := Lib.hid fun (W : World) (hW : Below w1.heap.size w1 W) => (⟨EA.out W hW, EB.out W hW, hW⟩ : W.cell? ⟨ba, 0, none⟩ = some (.slice A na c) ∧ W.cell? ⟨bb, 0, none⟩ = some (.slice B nb d) ∧ Below w1.heap.size w1 W)
    go_region_held3 (fun W => W.cell? ⟨ba, 0, none⟩ = some (.slice A na c) ∧ W.cell? ⟨bb, 0, none⟩ = some (.slice B nb d) ∧ Below w1.heap.size w1 W) (first | (with_reducible exact MK.out _ hW2) | (with_reducible exact MK.out _ (Below.refl _ _)) | (exact MK.out _ (hW2.alloc hW2.size _)) | go_keep)
      (first
        | (go_at_call 169; have a3 : Below w1.heap.size w1 (w1.alloc (.cells #[.slice A na c, .slice B nb d] 227)).drew := ((Below.refl _ _).alloc (Nat.le_refl _) _).drew; ((with_reducible refine (concatV_any _ A B na c nb d (kvs ka) (kvs kb) _ (two_vs (heap_alloc_new w1 _)).drew_ (HIA.out _ a3) HLA.out HCA.out (HIB.out _ a3) HLB.out HCB.out (by omega) (by omega) (by rw [← kvs_append]; exact (HR.out _ a3).one)).mono ?_); rintro e w3 ⟨A4, c4, rfl, hb3, hV3, hC3⟩); have hW2 := a3.trans (hb3.mono a3.size); rw [← kvs_append] at hV3)
        | (go_at_call 164; ((with_reducible refine (branches_any h A4 (na + nb) c4 (ka ++ kb) _ hV3 HLL.out hC3 (by omega) (HR.out _ hW2) HWd.out HZ.out).mono ?_); rintro e w4 ⟨v4, rfl, hM4, hb4⟩); have hW2 := hW2.trans (hb4.mono hW2.size)))
    all_goals
      have HX := Lib.hid (HJ.out w4 v4 hM4)
      clear hM4
      go_wp2
      go_ret
      exact ⟨_, rfl, HX.out, hW2⟩
theorem NodeAt.pos {h : Nat} {w : World} {k : Kd} (hk : NodeAt h w k) : ∃ h', h = h' + 1 := by
  match h, hk with
  | h + 1, _ => exact ⟨h, rfl⟩
theorem join_any : ∀ (m ha hb : Nat) (_ : ha + hb ≤ m) (a b : Kd) (w : World) (_ : NodeAt ha w a) (_ : NodeAt hb w b) (_ : a.l.length + b.l.length ≤ 100000),
    Calls Tryz.prog 141 #[a.v, b.v] w fun e w' => ∃ v, e = .returned v ∧ Joined w' ha hb a b v ∧ Below w.heap.size w w' := by
  intro m
  induction m with
  | zero =>
    intro ha hb hm a b w hA hB hz
    obtain ⟨h', rfl⟩ := hA.pos
    omega
  | succ m ih =>
    intro ha hb hm a b w hA hB hz
    obtain ⟨x, hx⟩ := hA.pos
    obtain ⟨y, hy⟩ := hB.pos
    rcases Nat.lt_trichotomy ha hb with hlt | heq | hgt
    · obtain ⟨z, rfl⟩ : ∃ z, hb = z + 2 := ⟨hb - 2, by omega⟩
      exact join_lt ha z a b w hA hB hz hlt (fun x W h1 h2 h3 => ih ha (z + 1) (by omega) a x W h1 h2 h3)
    · subst heq
      by_cases h3 : 4 ≤ a.c ∧ 4 ≤ b.c ∧ 8 < a.c + b.c
      · exact join_two ha a b w hA hB h3.1 h3.2.1 h3.2.2
      · have hc : a.c < 4 ∨ (4 ≤ a.c ∧ b.c < 4) ∨ (4 ≤ a.c ∧ 4 ≤ b.c ∧ a.c + b.c ≤ 8) := by omega
        match ha, hA, hB with
        | 1, hA, hB => exact join_leaves a b w hA hB hz hc
        | z + 2, hA, hB => exact join_branches z a b w hA hB hz hc
    · obtain ⟨z, rfl⟩ : ∃ z, ha = z + 2 := ⟨ha - 2, by omega⟩
      exact join_gt z hb a b w hA hB hz hgt (fun x W h1 h2 h3 => ih (z + 1) hb (by omega) x b W h1 h2 h3)
theorem eq_n (w : World) : (binOp .eql 183 .nilIface .nilIface).run Tryz.prog w = .ok (.bool true) w := by kernel_rfl
theorem eq_i (w : World) (t : TypeId) (v : Value) : (binOp .eql 183 (.iface t v) .nilIface).run Tryz.prog w = .ok (.bool false) w := by kernel_rfl
set_option maxHeartbeats 4000000 in
set_option maxRecDepth 100000 in
theorem concat_nl (b : Value) (w : World) : Calls Tryz.prog 112 #[.nilIface, b] w fun e w' => e = .returned b ∧ w' = w := by
  have t1 := eq_n
  go_enter Tryz.func112, Tryz.ntmps112
  go_wp2
  go_ret
  exact ⟨rfl, rfl⟩
set_option maxHeartbeats 4000000 in
set_option maxRecDepth 100000 in
theorem concat_nr (t : TypeId) (v : Value) (w : World) : Calls Tryz.prog 112 #[.iface t v, .nilIface] w fun e w' => e = .returned (.iface t v) ∧ w' = w := by
  have t1 := eq_n
  have t2 := eq_i
  go_enter Tryz.func112, Tryz.ntmps112
  go_wp2
  go_ret
  exact ⟨rfl, rfl⟩
set_option maxHeartbeats 4000000 in
set_option maxRecDepth 100000 in
theorem concat_two (ha hb : Nat) (a b : Kd) (w : World) (hA : NodeAt ha w a) (hB : NodeAt hb w b) (hz : a.l.length + b.l.length ≤ 100000) (h1 : 2 ≤ ha → 2 ≤ a.c) (h2 : 2 ≤ hb → 2 ≤ b.c) :
    Calls Tryz.prog 112 #[a.v, b.v] w fun e w' => ∃ v h', e = .returned v ∧ Top w' v (a.l ++ b.l) h' ∧ Below w.heap.size w w' := by
  have t2 := eq_i
  have CJ := Lib.hid (join_any _ ha hb (Nat.le_refl _) a b w hA hB hz)
  obtain ⟨ta, va, ea⟩ := hA.ifc
  obtain ⟨tb, vb, eb⟩ := hB.ifc
  rw [ea, eb] at CJ ⊢
  obtain ⟨x, hx⟩ := hA.pos
  obtain ⟨y, hy⟩ := hB.pos
  obtain ⟨m, hm⟩ : ∃ m, max ha hb = m + 1 := ⟨max ha hb - 1, by omega⟩
  have HH := Lib.hid (show (hb ≤ ha ∨ ha ≤ hb) ∧ (hb ≤ ha → m + 1 = ha) ∧ (ha ≤ hb → m + 1 = hb) ∧ (2 ≤ ha → 2 ≤ a.c) ∧ (2 ≤ hb → 2 ≤ b.c) from ⟨by omega, by omega, by omega, h1, h2⟩)
  have HM := Lib.hid hm
  clear hA hB ea eb hx hy hm h1 h2
  go_enter Tryz.func112, Tryz.ntmps112
  go_wp2_with fail
  refine CJ.out.mono ?_
  rintro e w1 ⟨v2, rfl, ⟨k2, R2, p2, rfl, hV2, hC2, hR2, hF2, hl2, hm2, hw2, hk2⟩, hb2⟩
  rw [HM.out] at hR2
  have CC := Lib.hid (crown_any m R2 k2.length p2 k2 w1 hV2 rfl (by omega) hC2 hR2 hw2 (by rw [hF2, List.length_append]; exact hz) (fun e1 e2 => by
    obtain ⟨f1, f2⟩ := hk2 e1
    obtain ⟨g1, g2, g3, g4, g5⟩ := HH.out
    rcases g1 with g | g
    · exact Nat.le_trans (g4 (by rw [← g2 g]; exact e2)) (f1 g)
    · exact Nat.le_trans (g5 (by rw [← g3 g]; exact e2)) (f2 g)))
  rw [hF2] at CC
  clear hV2 hC2 hR2 hF2 hl2 hm2 hw2 hk2
  go_wp2_with fail
  refine CC.out.mono ?_
  rintro e w2 ⟨v3, h', rfl, hT, hb3⟩
  have HT := Lib.hid hT; clear hT
  go_wp2
  go_ret
  exact ⟨v3, h', rfl, HT.out, hb2.trans (hb3.mono hb2.size)⟩
theorem concat_any (v u : Value) (l m : List I7) (h k : Nat) (w : World) (hA : Top w v l h) (hB : Top w u m k) (hz : l.length + m.length ≤ 100000) :
    Calls Tryz.prog 112 #[v, u] w fun e w' => ∃ x h', e = .returned x ∧ Top w' x (l ++ m) h' ∧ Below w.heap.size w w' := by
  rcases hA with ⟨rfl, rfl, rfl⟩ | ⟨c, hA, h2⟩
  · refine (concat_nl u w).mono ?_
    rintro e w' ⟨rfl, rfl⟩
    exact ⟨_, k, rfl, hB, Below.refl _ _⟩
  · rcases hB with ⟨rfl, rfl, rfl⟩ | ⟨d, hB, k2⟩
    · obtain ⟨ta, va, ea⟩ := hA.ifc
      simp only at ea
      subst ea
      refine (concat_nr _ _ w).mono ?_
      rintro e w' ⟨rfl, rfl⟩
      exact ⟨_, h, rfl, .inr ⟨c, by rw [List.append_nil]; exact hA, h2⟩, Below.refl _ _⟩
    · exact concat_two h k ⟨v, l, c⟩ ⟨u, m, d⟩ w hA hB hz h2 k2
/-- A row of nodes on the way to the topmost one. -/
def OnWay (w : World) (l : List I7) (v : Value) (k : Nat) : Prop :=
  ∃ ks R cp h, v = .slice R ks.length cp ∧ ks.length ≤ k ∧ VsAt w R (kvs ks) ∧ Caps R ks.length cp ∧ Row (h + 1) w ks ∧ fl ks = l ∧ (2 ≤ ks.length → Wd ks) ∧ (ks.length = 1 → 2 ≤ h + 1 → 2 ≤ (kth ks 0).c)
set_option maxHeartbeats 4000000 in
set_option maxRecDepth 100000 in
theorem build_any (A : Option Addr) (n c : Nat) (l : List I7) (w : World) (hA : ItsAt w A l) (hl : l.length = n) (hc : Caps A n c) (hn : n ≤ 100000) (ho : Okl l) :
    Calls Tryz.prog 136 #[.slice A n c] w fun e w' => ∃ v h, e = .returned v ∧ Top w' v l h ∧ Below w.heap.size w w' := by
  have C0 := Lib.hid (leaves_any A n c l w hA hl hc hn ho)
  have HL := Lib.hid hl
  clear hA hl hc ho
  go_enter Tryz.func136, Tryz.ntmps136
  go_wp2_with fail
  refine C0.out.mono ?_
  rintro e w1 ⟨v1, rfl, hM, hb1⟩
  have HM : Hid (OnWay w1 l v1 100000) := by
    obtain ⟨ks, R, cp, rfl, hV, hC, hR, hF, hL, hW, hK⟩ := hM
    exact ⟨ks, R, cp, 0, rfl, by omega, hV, hC, hR, hF, hW, fun _ h => absurd h (by omega)⟩
  clear hM
  go_wp2_with fail
  go_loopg [3] 100000 (fun k v wr => Below w.heap.size w wr ∧ Hid (OnWay wr l v k))
  case atStart => exact ⟨hb1, HM⟩
  case round =>
    obtain ⟨hb, hO⟩ := hrel
    obtain ⟨ks, R, cp, h, rfl, hk, hV, hC, hR, hF, hW, h1⟩ := hO.out
    clear hO
    have hlen : (fl ks).length ≤ 100000 := by rw [hF, HL.out]; exact hn
    have hk2 : ks.length ≤ 100000 := by
      have h2 := fl_len (m := 1) (ks := ks) (fun x hx => by
        have h3 := (hR x hx).size
        have h4 := (hR x hx).cnt.1
        have h5 := p4_pos (h + 1 - 1)
        have h6 := Nat.mul_le_mul h4 h5
        omega)
      omega
    generalize hq : ks.length = q at *
    by_cases h2 : 2 ≤ q
    · have CB := Lib.hid (branches_any h R q cp ks wr hV hq hC hk2 hR (hW h2) hlen)
      have g1 : (1 : Int) < (q : Int) := by omega
      have HF := Lib.hid hF
      clear hV hC hR hF hW h1 hq hlen
      go_wp2_with fail
      refine CB.out.mono ?_
      rintro e w2 ⟨v2, rfl, hM2, hb2⟩
      have hb4 := hb.trans (hb2.mono hb.size)
      have HO2 : Hid (OnWay w2 l v2 (gk - 1)) := by
        obtain ⟨k2, R2, c2, rfl, hV, hC, hR, hF, hL, hW, hK⟩ := hM2
        exact ⟨k2, R2, c2, h + 1, rfl, by omega, hV, hC, hR, hF.trans HF.out, hW, fun e1 _ => by rw [hK (by omega) (by omega)]; exact h2⟩
      clear hM2
      go_wp2
      go_roundg (gk - 1)
      case measure => omega
      case rel => exact ⟨hb4, HO2⟩
    · have CC := Lib.hid (crown_any h R q cp ks wr hV hq (by omega) hC hR hW hlen h1)
      rw [hF] at CC
      have g1 : ¬ ((1 : Int) < (q : Int)) := by omega
      clear hV hC hR hF hW h1 hq hlen
      go_wp2_with fail
      refine CC.out.mono ?_
      rintro e w2 ⟨v2, h3, rfl, hT, hb2⟩
      have HT := Lib.hid hT; clear hT
      go_wp2
      go_ret
      exact ⟨v2, h3, rfl, HT.out, hb.trans (hb2.mono hb.size)⟩
end Go.Proofs.YtpnjokhhbjpciaaGreatDoor
