/- Nodes of trees in memory: what lies where; plain facts about what they have. -/
import Derived.Test.YtbbplppcabeojaaItOwn
namespace Go.Proofs.Ytbbplppcabeojaa
open Go.RowKit
/-- Values, a cell each, from an address on; nothing is asked where there are none. -/
def vth (vs : List Value) (k : Nat) : Value := vs.getD k default
def VsAt (w : World) (A : Option Addr) (vs : List Value) : Prop :=
  0 < vs.length → ∃ b off, A = some ⟨b, off, none⟩ ∧ b < w.heap.size ∧ ∀ k, k < vs.length → w.cell? ⟨b, off + k, none⟩ = some (vth vs k)
theorem VsAt.below {w w' : World} {A : Option Addr} {l : List Value} (h : VsAt w A l) (hb : Below w.heap.size w w') : VsAt w' A l := by
  intro hl
  obtain ⟨b, off, rfl, h1, h2⟩ := h hl
  exact ⟨b, off, rfl, Nat.lt_of_lt_of_le h1 hb.size, fun k hk => ((old_cells hb).1 _ _ h1).trans (h2 k hk)⟩
/-- A node: its value, its items, and how many items or nodes it has itself. -/
structure Kd where
  v : Value
  l : List I7
  c : Nat
instance : Inhabited Kd := ⟨⟨.nilIface, [], 0⟩⟩
def kth (ks : List Kd) (j : Nat) : Kd := ks.getD j default
def kvs (ks : List Kd) : List Value := ks.map Kd.v
def fl (ks : List Kd) : List I7 := ks.flatMap Kd.l
theorem kvs_length (ks : List Kd) : (kvs ks).length = ks.length := by simp [kvs]
theorem kth_get (ks : List Kd) {j : Nat} (h : j < ks.length) : kth ks j = ks[j] := by simp [kth, List.getD, h]
theorem kth_mem (ks : List Kd) {j : Nat} (h : j < ks.length) : kth ks j ∈ ks := by rw [kth_get ks h]; exact List.getElem_mem h
theorem vth_kvs (ks : List Kd) {j : Nat} (h : j < ks.length) : vth (kvs ks) j = (kth ks j).v := by
  rw [kth_get ks h]; simp [vth, kvs, List.getD, h]
theorem fl_append (a b : List Kd) : fl (a ++ b) = fl a ++ fl b := by simp [fl]
theorem fl_one (k : Kd) : fl [k] = k.l := by simp [fl]
theorem kvs_append (a b : List Kd) : kvs (a ++ b) = kvs a ++ kvs b := by simp [kvs]
theorem take_kth (l : List Kd) {j : Nat} (h : j < l.length) : l.take (j + 1) = l.take j ++ [kth l j] := by rw [List.take_succ_eq_append_getElem h, kth_get l h]
theorem fl_take (l : List Kd) {j : Nat} (h : j < l.length) : fl (l.take (j + 1)) = fl (l.take j) ++ (kth l j).l := by rw [take_kth l h, fl_append, fl_one]
/-- The cells of a leaf, and of a branch. -/
def lcs (A : Option Addr) (n c : Nat) (s : S6) : Array Value := #[.slice A n c, .int .i64 s.n, .int .i64 s.d0, .int .i64 s.d1, .int .i64 s.d2, .int .i64 s.mx, .int .i64 s.pl]
def bcs (A : Option Addr) (n c : Nat) (s : S6) (h : Nat) : Array Value := #[.slice A n c, .int .i64 s.n, .int .i64 s.d0, .int .i64 s.d1, .int .i64 s.d2, .int .i64 s.mx, .int .i64 s.pl, .int .i64 h]
def lfv (b : Nat) : Value := .iface 126 (.pointer (some ⟨b, 0, none⟩))
def brv (b : Nat) : Value := .iface 132 (.pointer (some ⟨b, 0, none⟩))
structure LeafAt (w : World) (k : Kd) (b : Nat) (A : Option Addr) (c : Nat) : Prop where
  v : k.v = lfv b
  raw : RawAt 130 w b (lcs A k.c c (sall k.l))
  its : ItsAt w A k.l
  len : k.l.length = k.c
  caps : Caps A k.c c
  pos : 1 ≤ k.c
  most : k.c ≤ 8
  ok : Okl k.l
structure BranchAt (w : World) (k : Kd) (b : Nat) (A : Option Addr) (c h : Nat) (ks : List Kd) : Prop where
  v : k.v = brv b
  raw : RawAt 157 w b (bcs A k.c c (sall k.l) h)
  kids : VsAt w A (kvs ks)
  len : ks.length = k.c
  caps : Caps A k.c c
  pos : 1 ≤ k.c
  most : k.c ≤ 8
  ok : Okl k.l
  fl : fl ks = k.l
theorem LeafAt.below {w w' : World} {k : Kd} {b : Nat} {A : Option Addr} {c : Nat} (h : LeafAt w k b A c) (hb : Below w.heap.size w w') : LeafAt w' k b A c :=
  ⟨h.v, h.raw.below hb h.raw.lt, h.its.below hb, h.len, h.caps, h.pos, h.most, h.ok⟩
theorem BranchAt.below {w w' : World} {k : Kd} {b : Nat} {A : Option Addr} {c i : Nat} {ks : List Kd} (h : BranchAt w k b A c i ks) (hb : Below w.heap.size w w') : BranchAt w' k b A c i ks :=
  ⟨h.v, h.raw.below hb h.raw.lt, h.kids.below hb, h.len, h.caps, h.pos, h.most, h.ok, h.fl⟩
theorem raw_lcs {t : TypeId} {w : World} {b : Nat} {A : Option Addr} {n c : Nat} {s : S6} (h : RawAt t w b (lcs A n c s)) : w.cell? ⟨b, 0, none⟩ = some (.slice A n c) ∧ w.cell? ⟨b, 1, none⟩ = some (.int .i64 s.n) ∧ w.cell? ⟨b, 2, none⟩ = some (.int .i64 s.d0) ∧ w.cell? ⟨b, 3, none⟩ = some (.int .i64 s.d1) ∧ w.cell? ⟨b, 4, none⟩ = some (.int .i64 s.d2) ∧ w.cell? ⟨b, 5, none⟩ = some (.int .i64 s.mx) ∧ w.cell? ⟨b, 6, none⟩ = some (.int .i64 s.pl) :=
  ⟨RawAt.cell h 0, RawAt.cell h 1, RawAt.cell h 2, RawAt.cell h 3, RawAt.cell h 4, RawAt.cell h 5, RawAt.cell h 6⟩
theorem raw_bcs {t : TypeId} {w : World} {b : Nat} {A : Option Addr} {n c i : Nat} {s : S6} (h : RawAt t w b (bcs A n c s i)) : w.cell? ⟨b, 0, none⟩ = some (.slice A n c) ∧ w.cell? ⟨b, 1, none⟩ = some (.int .i64 s.n) ∧ w.cell? ⟨b, 2, none⟩ = some (.int .i64 s.d0) ∧ w.cell? ⟨b, 3, none⟩ = some (.int .i64 s.d1) ∧ w.cell? ⟨b, 4, none⟩ = some (.int .i64 s.d2) ∧ w.cell? ⟨b, 5, none⟩ = some (.int .i64 s.mx) ∧ w.cell? ⟨b, 6, none⟩ = some (.int .i64 s.pl) ∧ w.cell? ⟨b, 7, none⟩ = some (.int .i64 i) :=
  ⟨RawAt.cell h 0, RawAt.cell h 1, RawAt.cell h 2, RawAt.cell h 3, RawAt.cell h 4, RawAt.cell h 5, RawAt.cell h 6, RawAt.cell h 7⟩
/-- A node that is so high. -/
def NodeAt : Nat → World → Kd → Prop
  | 0, _, _ => False
  | 1, w, k => ∃ b A c, LeafAt w k b A c
  | h + 2, w, k => ∃ b A c ks, BranchAt w k b A c (h + 2) ks ∧ ∀ x ∈ ks, NodeAt (h + 1) w x ∧ 4 ≤ x.c
theorem NodeAt.below : ∀ {h : Nat} {w w' : World} {k : Kd}, NodeAt h w k → Below w.heap.size w w' → NodeAt h w' k
  | 0, _, _, _, h, _ => h.elim
  | 1, _, _, _, ⟨b, A, c, h⟩, hb => ⟨b, A, c, h.below hb⟩
  | _ + 2, _, _, _, ⟨b, A, c, ks, h, g⟩, hb => ⟨b, A, c, ks, h.below hb, fun x hx => ⟨(g x hx).1.below hb, (g x hx).2⟩⟩
theorem NodeAt.ok : ∀ {h : Nat} {w : World} {k : Kd}, NodeAt h w k → Okl k.l
  | 0, _, _, h => h.elim
  | 1, _, _, ⟨_, _, _, h⟩ => h.ok
  | _ + 2, _, _, ⟨_, _, _, _, h, _⟩ => h.ok
theorem NodeAt.cnt : ∀ {h : Nat} {w : World} {k : Kd}, NodeAt h w k → 1 ≤ k.c ∧ k.c ≤ 8
  | 0, _, _, h => h.elim
  | 1, _, _, ⟨_, _, _, h⟩ => ⟨h.pos, h.most⟩
  | _ + 2, _, _, ⟨_, _, _, _, h, _⟩ => ⟨h.pos, h.most⟩
/-- Nodes, all so high. -/
def Row (h : Nat) (w : World) (ks : List Kd) : Prop := ∀ x ∈ ks, NodeAt h w x
def Wd (ks : List Kd) : Prop := ∀ x ∈ ks, 4 ≤ x.c
theorem Row.below {h : Nat} {w w' : World} {ks : List Kd} (hr : Row h w ks) (hb : Below w.heap.size w w') : Row h w' ks := fun x hx => (hr x hx).below hb
theorem Row.append {h : Nat} {w : World} {a b : List Kd} (ha : Row h w a) (hb : Row h w b) : Row h w (a ++ b) := fun x hx => (List.mem_append.1 hx).elim (ha x) (hb x)
theorem Wd.append {a b : List Kd} (ha : Wd a) (hb : Wd b) : Wd (a ++ b) := fun x hx => (List.mem_append.1 hx).elim (ha x) (hb x)
theorem Row.okl {h : Nat} {w : World} {ks : List Kd} (hr : Row h w ks) : Okl (fl ks) := by
  intro i hi
  obtain ⟨k, hk, h2⟩ := List.mem_flatMap.1 hi
  exact (hr k hk).ok i h2
/-- How many items there must be below nodes so high. -/
def p4 : Nat → Nat
  | 0 => 1
  | h + 1 => 4 * p4 h
theorem p4_pos : ∀ h, 1 ≤ p4 h
  | 0 => Nat.le_refl _
  | h + 1 => by have := p4_pos h; show 1 ≤ 4 * p4 h; omega
theorem fl_len {m : Nat} : ∀ {ks : List Kd}, (∀ x ∈ ks, m ≤ x.l.length) → ks.length * m ≤ (fl ks).length
  | [], _ => by simp [fl]
  | k :: ks, h => by
    have h1 := fl_len (m := m) (ks := ks) (fun x hx => h x (List.mem_cons_of_mem _ hx))
    have h2 := h k List.mem_cons_self
    have e : (fl (k :: ks)).length = k.l.length + (fl ks).length := by simp [fl]
    rw [e, List.length_cons, Nat.succ_mul]
    omega
theorem NodeAt.size : ∀ {h : Nat} {w : World} {k : Kd}, NodeAt h w k → k.c * p4 (h - 1) ≤ k.l.length
  | 0, _, _, h => h.elim
  | 1, _, _, ⟨_, _, _, h⟩ => by rw [h.len]; simp [p4]
  | h + 2, w, k, ⟨_, _, _, ks, g, q⟩ => by
    have := fl_len (m := p4 (h + 1)) (ks := ks) (fun x hx => by
      have h1 := (q x hx).1.size
      have h2 := (q x hx).2
      have h3 := Nat.mul_le_mul_right (p4 h) h2
      show 4 * p4 h ≤ _
      exact Nat.le_trans h3 h1)
    rw [g.fl, g.len] at this
    exact this
end Go.Proofs.Ytbbplppcabeojaa
