/- What items are together, over lists of items: plain facts, nothing of the program. Items in memory: their cells; the contracts of the functions that take one apart and of those that copy one. Reading an element of three sizes held by value. A slice of items, cut: where it lies, and what it holds. Items in a row of the call's own: laid one behind the other; appended. Rows cut: what they can hold. -/
import Derived.Test.YtpnjokhhbjpciaaGreatDoorBase
namespace Go.Proofs.YtpnjokhhbjpciaaGreatDoor
open Go.RowKit
/-- An item: its tag, its ID, three sizes, its greatness, its text. -/
structure I7 where
  (tag id d0 d1 d2 mx : Int)
  tx : ByteArray
instance : Inhabited I7 := ⟨⟨0, 0, 0, 0, 0, 0, ⟨#[]⟩⟩⟩
/-- The sum of items: how many, their sizes, the greatest, its place. -/
structure S6 where
  (n d0 d1 d2 mx pl : Int)
theorem S6.ext_ {a b : S6} (h1 : a.n = b.n) (h2 : a.d0 = b.d0) (h3 : a.d1 = b.d1) (h4 : a.d2 = b.d2) (h5 : a.mx = b.mx) (h6 : a.pl = b.pl) : a = b := by
  cases a; cases b; simp_all
def s0 : S6 := ⟨0, 0, 0, 0, 0, 0⟩
def sof (i : I7) : S6 := ⟨1, i.d0, i.d1, i.d2, i.mx, 0⟩
def sadd (a b : S6) : S6 :=
  if a.n = 0 then b else if b.n = 0 then a
  else ⟨a.n + b.n, a.d0 + b.d0, a.d1 + b.d1, a.d2 + b.d2, if a.mx < b.mx then b.mx else a.mx, if a.mx < b.mx then a.n + b.pl else a.pl⟩
def sall (l : List I7) : S6 := l.foldl (fun s i => sadd s (sof i)) s0
/-- A number that may be. -/
def Okn (v : Int) : Prop := 0 ≤ v ∧ v ≤ 1099511627776
/-- A right item. -/
def Okd (i : I7) : Prop := Okn i.d0 ∧ Okn i.d1 ∧ Okn i.d2
def Oki (i : I7) : Prop := Okd i ∧ Okn i.mx
/-- Right items. -/
def Okl (l : List I7) : Prop := ∀ i ∈ l, Oki i
/-- What the sum of n right items keeps. -/
def SOk (s : S6) (n : Int) : Prop :=
  s.n = n ∧ 0 ≤ n ∧ 0 ≤ s.d0 ∧ s.d0 ≤ 1099511627776 * n ∧ 0 ≤ s.d1 ∧ s.d1 ≤ 1099511627776 * n ∧ 0 ≤ s.d2 ∧ s.d2 ≤ 1099511627776 * n ∧ 0 ≤ s.mx ∧ s.mx ≤ 1099511627776 ∧ 0 ≤ s.pl ∧ s.pl ≤ n ∧ (n = 0 → s.mx = 0 ∧ s.pl = 0)
theorem s0_ok : SOk s0 0 := by simp [SOk, s0]
theorem sof_ok {i : I7} (h : Oki i) : SOk (sof i) 1 := by
  obtain ⟨⟨⟨a1, a2⟩, ⟨b1, b2⟩, ⟨c1, c2⟩⟩, ⟨m1, m2⟩⟩ := h
  refine ⟨rfl, ?_, ?_, ?_, ?_, ?_, ?_, ?_, ?_, ?_, ?_, ?_, fun h => absurd h (by omega)⟩ <;> (try simp only [sof]) <;> omega
theorem sadd_z {a b : S6} (h : a.n = 0) : sadd a b = b := by unfold sadd; rw [if_pos h]
theorem sadd_w {a b : S6} (h : a.n ≠ 0) (h2 : b.n = 0) : sadd a b = a := by unfold sadd; rw [if_neg h, if_pos h2]
theorem sadd_s {a b : S6} (h : a.n ≠ 0) (h2 : b.n ≠ 0) : sadd a b = ⟨a.n + b.n, a.d0 + b.d0, a.d1 + b.d1, a.d2 + b.d2, if a.mx < b.mx then b.mx else a.mx, if a.mx < b.mx then a.n + b.pl else a.pl⟩ := by
  unfold sadd; rw [if_neg h, if_neg h2]
theorem s_zero {s : S6} (h : SOk s 0) : s = s0 := by
  obtain ⟨a1, a2, a3, a4, a5, a6, a7, a8, a9, a10, a11, a12, a13⟩ := h
  have := a13 rfl
  refine S6.ext_ ?_ ?_ ?_ ?_ ?_ ?_ <;> (try simp only [s0]) <;> omega
theorem sadd_ok {a b : S6} {n m : Int} (ha : SOk a n) (hb : SOk b m) : SOk (sadd a b) (n + m) := by
  by_cases h1 : a.n = 0
  · have hn : n = 0 := by have := ha.1; omega
    subst hn
    rw [sadd_z h1, Int.zero_add]
    exact hb
  · by_cases h2 : b.n = 0
    · have hm : m = 0 := by have := hb.1; omega
      subst hm
      rw [sadd_w h1 h2, Int.add_zero]
      exact ha
    · rw [sadd_s h1 h2]
      obtain ⟨a1, a2, a3, a4, a5, a6, a7, a8, a9, a10, a11, a12, a13⟩ := ha
      obtain ⟨b1, b2, b3, b4, b5, b6, b7, b8, b9, b10, b11, b12, b13⟩ := hb
      refine ⟨?_, ?_, ?_, ?_, ?_, ?_, ?_, ?_, ?_, ?_, ?_, ?_, ?_⟩
      all_goals (try simp only)
      all_goals (repeat' split)
      all_goals omega
theorem sadd_assoc {a b c : S6} {n m k : Int} (ha : SOk a n) (hb : SOk b m) (hc : SOk c k) : sadd (sadd a b) c = sadd a (sadd b c) := by
  by_cases h1 : a.n = 0
  · rw [sadd_z h1, sadd_z h1]
  · by_cases h2 : b.n = 0
    · rw [sadd_w h1 h2, sadd_z h2]
    · have hab : (sadd a b).n ≠ 0 := by
        rw [sadd_s h1 h2]; show a.n + b.n ≠ 0
        have := ha.1; have := ha.2.1; have := hb.1; have := hb.2.1
        omega
      by_cases h3 : c.n = 0
      · rw [sadd_w hab h3, sadd_w h2 h3]
      · have hbc : (sadd b c).n ≠ 0 := by
          rw [sadd_s h2 h3]; show b.n + c.n ≠ 0
          have := hb.1; have := hb.2.1; have := hc.1; have := hc.2.1
          omega
        rw [sadd_s hab h3, sadd_s h1 hbc, sadd_s h1 h2, sadd_s h2 h3]
        refine S6.ext_ ?_ ?_ ?_ ?_ ?_ ?_
        all_goals (try simp only)
        all_goals (repeat' split)
        all_goals omega
theorem sadd_e {a : S6} {n : Int} (ha : SOk a n) : sadd a s0 = a := by
  by_cases h : a.n = 0
  · rw [sadd_z h]
    have hn : n = 0 := by have := ha.1; omega
    subst hn
    exact (s_zero ha).symm
  · exact sadd_w h rfl
theorem e_sadd (a : S6) : sadd s0 a = a := sadd_z rfl
theorem sall_snoc (l : List I7) (i : I7) : sall (l ++ [i]) = sadd (sall l) (sof i) := by simp [sall, List.foldl_append]
theorem sall_ok : ∀ (n : Nat) (l : List I7), l.length = n → Okl l → SOk (sall l) n := by
  intro n
  induction n with
  | zero =>
    intro l hl _
    obtain rfl : l = [] := List.eq_nil_of_length_eq_zero hl
    exact s0_ok
  | succ n ih =>
    intro l hl ho
    obtain ⟨c, r, rfl⟩ : ∃ c r, l = c ++ [r] := ⟨l.dropLast, l.getLast (by intro e; subst e; simp at hl), (List.dropLast_concat_getLast _).symm⟩
    rw [sall_snoc]
    have h1 := ih c (by simpa using hl) (fun i hi => ho i (List.mem_append_left _ hi))
    have h2 := sof_ok (ho r (by simp))
    have := sadd_ok h1 h2
    rwa [show ((n : Int) + 1) = ((n + 1 : Nat) : Int) from by omega] at this
theorem sall_append : ∀ (n : Nat) (a b : List I7), b.length = n → Okl a → Okl b → sall (a ++ b) = sadd (sall a) (sall b) := by
  intro n
  induction n with
  | zero =>
    intro a b hb ha _
    obtain rfl : b = [] := List.eq_nil_of_length_eq_zero hb
    rw [List.append_nil]
    exact (sadd_e (sall_ok _ a rfl ha)).symm
  | succ n ih =>
    intro a b hb ha ho
    obtain ⟨c, r, rfl⟩ : ∃ c r, b = c ++ [r] := ⟨b.dropLast, b.getLast (by intro e; subst e; simp at hb), (List.dropLast_concat_getLast _).symm⟩
    have hc : Okl c := fun i hi => ho i (List.mem_append_left _ hi)
    rw [← List.append_assoc, sall_snoc, ih a c (by simpa using hb) ha hc, sall_snoc]
    exact sadd_assoc (sall_ok _ a rfl ha) (sall_ok _ c rfl hc) (sof_ok (ho r (by simp)))
/-- The document's own sum, item by item. -/
def rstep (s : S6) (x : I7) (k : Int) : S6 := ⟨s.n, s.d0 + x.d0, s.d1 + x.d1, s.d2 + x.d2, if s.mx < x.mx then x.mx else s.mx, if s.mx < x.mx then k else s.pl⟩
theorem rstep_all (l : List I7) (x : I7) (hl : Okl l) (hx : Oki x) (n : Int) :
    rstep ⟨n, (sall l).d0, (sall l).d1, (sall l).d2, (sall l).mx, (sall l).pl⟩ x l.length = ⟨n, (sall (l ++ [x])).d0, (sall (l ++ [x])).d1, (sall (l ++ [x])).d2, (sall (l ++ [x])).mx, (sall (l ++ [x])).pl⟩ := by
  have h := sall_ok _ l rfl hl
  obtain ⟨⟨⟨x1, x2⟩, ⟨x3, x4⟩, ⟨x5, x6⟩⟩, ⟨x7, x8⟩⟩ := hx
  rw [sall_snoc]
  by_cases h0 : (sall l).n = 0
  · have hn : l.length = 0 := by have := h.1; omega
    rw [hn] at h
    rw [sadd_z h0, s_zero h, hn]
    refine S6.ext_ ?_ ?_ ?_ ?_ ?_ ?_
    all_goals simp only [rstep, sof, s0]
    all_goals (repeat' split)
    all_goals omega
  · rw [sadd_s h0 (by simp [sof])]
    have := h.1
    refine S6.ext_ ?_ ?_ ?_ ?_ ?_ ?_
    all_goals simp only [rstep, sof]
    all_goals (repeat' split)
    all_goals omega
/-- The item in a list's place. -/
def ith (l : List I7) (k : Nat) : I7 := l.getD k default
theorem ith_get (l : List I7) {j : Nat} (h : j < l.length) : ith l j = l[j] := by simp [ith, List.getD, h]
theorem ith_mem (l : List I7) {j : Nat} (h : j < l.length) : ith l j ∈ l := by rw [ith_get l h]; exact List.getElem_mem h
theorem take_ith (l : List I7) {j : Nat} (h : j < l.length) : l.take (j + 1) = l.take j ++ [ith l j] := by rw [List.take_succ_eq_append_getElem h, ith_get l h]
theorem sall_take (l : List I7) {j : Nat} (h : j < l.length) : sall (l.take (j + 1)) = sadd (sall (l.take j)) (sof (ith l j)) := by rw [take_ith l h, sall_snoc]
theorem Okl.take_ {l : List I7} (h : Okl l) (k : Nat) : Okl (l.take k) := fun i hi => h i (List.mem_of_mem_take hi)
theorem Okl.append_ {a b : List I7} (ha : Okl a) (hb : Okl b) : Okl (a ++ b) := fun i hi => (List.mem_append.1 hi).elim (ha i) (hb i)
theorem Okl.step {l : List I7} {j : Nat} (h : Okl (l.take j)) (hj : j < l.length) (ho : Oki (ith l j)) : Okl (l.take (j + 1)) := by
  rw [take_ith l hj]
  exact h.append_ (fun i hi => by rw [List.mem_singleton.1 hi]; exact ho)
/-- The cells of an item, and of a sum of items. -/
def ics (i : I7) : Array Value := #[.int .i64 i.tag, .int .i64 i.id, .int .i64 i.d0, .int .i64 i.d1, .int .i64 i.d2, .int .i64 i.mx, .string i.tx]
def scs (s : S6) : Array Value := #[.int .i64 s.n, .int .i64 s.d0, .int .i64 s.d1, .int .i64 s.d2, .int .i64 s.mx, .int .i64 s.pl]
/-- Items, seven cells each, from an address on; nothing is asked where there are none. -/
def ItsAt (w : World) (A : Option Addr) (l : List I7) : Prop :=
  0 < l.length → ∃ b off, A = some ⟨b, off, none⟩ ∧ b < w.heap.size ∧ ∀ k, k < l.length → w.cell? ⟨b, off + k * 7, none⟩ = some (.int .i64 (ith l k).tag) ∧ w.cell? ⟨b, off + k * 7 + 1, none⟩ = some (.int .i64 (ith l k).id) ∧
    w.cell? ⟨b, off + k * 7 + 2, none⟩ = some (.int .i64 (ith l k).d0) ∧ w.cell? ⟨b, off + k * 7 + 3, none⟩ = some (.int .i64 (ith l k).d1) ∧ w.cell? ⟨b, off + k * 7 + 4, none⟩ = some (.int .i64 (ith l k).d2) ∧
    w.cell? ⟨b, off + k * 7 + 5, none⟩ = some (.int .i64 (ith l k).mx) ∧ w.cell? ⟨b, off + k * 7 + 6, none⟩ = some (.string (ith l k).tx)
theorem ItsAt.below {w w' : World} {A : Option Addr} {l : List I7} (h : ItsAt w A l) (hb : Below w.heap.size w w') : ItsAt w' A l := by
  intro hl
  obtain ⟨b, off, rfl, h1, h2⟩ := h hl
  refine ⟨b, off, rfl, Nat.lt_of_lt_of_le h1 hb.size, fun k hk => ?_⟩
  obtain ⟨a0, a1, a2, a3, a4, a5, a6⟩ := h2 k hk
  have H := (old_cells hb).1
  exact ⟨(H _ _ h1).trans a0, (H _ _ h1).trans a1, (H _ _ h1).trans a2, (H _ _ h1).trans a3, (H _ _ h1).trans a4, (H _ _ h1).trans a5, (H _ _ h1).trans a6⟩
set_option maxHeartbeats 1000000 in
theorem iof_any (i : I7) (w : World) : Calls Tryz.prog 101 #[.agg (ics i)] w fun e w' => e = .returned (.agg (scs (sof i))) ∧ Below w.heap.size w w' := by
  unfold ics scs sof
  go_enter Tryz.func101, Tryz.ntmps101
  go_wp2
  refine bodyPost_ret (v := .agg #[.int .i64 1, .int .i64 i.d0, .int .i64 i.d1, .int .i64 i.d2, .int .i64 i.mx, .int .i64 0]) (by simp [results, Tryz.results101, go_sem]) rfl ⟨rfl, ?_⟩
  (repeat' (first | (with_reducible exact Below.refl _ _) | (with_reducible refine Below.setCell ?_ ?_ _) | (with_reducible refine Below.drew ?_) | (with_reducible refine Below.alloc ?_ ?_ _))) <;> first | exact Nat.le_refl _ | (simp; done) | (simp; omega)
theorem raw_ics {t : TypeId} {w : World} {b : Nat} {i : I7} (h : RawAt t w b (ics i)) : w.cell? ⟨b, 0, none⟩ = some (.int .i64 i.tag) ∧ w.cell? ⟨b, 1, none⟩ = some (.int .i64 i.id) ∧ w.cell? ⟨b, 2, none⟩ = some (.int .i64 i.d0) ∧ w.cell? ⟨b, 3, none⟩ = some (.int .i64 i.d1) ∧ w.cell? ⟨b, 4, none⟩ = some (.int .i64 i.d2) ∧ w.cell? ⟨b, 5, none⟩ = some (.int .i64 i.mx) ∧ w.cell? ⟨b, 6, none⟩ = some (.string i.tx) :=
  ⟨RawAt.cell h 0, RawAt.cell h 1, RawAt.cell h 2, RawAt.cell h 3, RawAt.cell h 4, RawAt.cell h 5, RawAt.cell h 6⟩
theorem raw_scs {t : TypeId} {w : World} {b : Nat} {s : S6} (h : RawAt t w b (scs s)) : w.cell? ⟨b, 0, none⟩ = some (.int .i64 s.n) ∧ w.cell? ⟨b, 1, none⟩ = some (.int .i64 s.d0) ∧ w.cell? ⟨b, 2, none⟩ = some (.int .i64 s.d1) ∧ w.cell? ⟨b, 3, none⟩ = some (.int .i64 s.d2) ∧ w.cell? ⟨b, 4, none⟩ = some (.int .i64 s.mx) ∧ w.cell? ⟨b, 5, none⟩ = some (.int .i64 s.pl) :=
  ⟨RawAt.cell h 0, RawAt.cell h 1, RawAt.cell h 2, RawAt.cell h 3, RawAt.cell h 4, RawAt.cell h 5⟩
theorem idx3_0 (a b c : Int) (w : World) : (Instr.index 127 (.agg #[.int .i64 a, .int .i64 b, .int .i64 c]) (.int .i64 0)).run Tryz.prog w = .ok (.int .i64 a) w := by
  simp [Instr.index, run_underlying Tryz.underlying127, asIntOf, part, isAgg, go_sem]
theorem idx3_1 (a b c : Int) (w : World) : (Instr.index 127 (.agg #[.int .i64 a, .int .i64 b, .int .i64 c]) (.int .i64 1)).run Tryz.prog w = .ok (.int .i64 b) w := by
  simp [Instr.index, run_underlying Tryz.underlying127, asIntOf, part, isAgg, go_sem]
theorem idx3_2 (a b c : Int) (w : World) : (Instr.index 127 (.agg #[.int .i64 a, .int .i64 b, .int .i64 c]) (.int .i64 2)).run Tryz.prog w = .ok (.int .i64 c) w := by
  simp [Instr.index, run_underlying Tryz.underlying127, asIntOf, part, isAgg, go_sem]
/-- Where a slice of items that is cut begins. -/
def cutI (A : Option Addr) (c k : Nat) : Option Addr := if c = k then A else A.map (·.add (k * 7))
theorem ItsAt.cut {w : World} {A : Option Addr} {l : List I7} {n c : Nat} (h : ItsAt w A l) (hl : l.length = n) (hn : n ≤ c) (k m : Nat) (hk : k + m ≤ n) : ItsAt w (cutI A c k) ((l.drop k).take m) := by
  intro hp
  have hlen : ((l.drop k).take m).length = m := by rw [List.length_take, List.length_drop]; omega
  obtain ⟨b, off, rfl, hb, hc⟩ := h (by omega)
  have hne : ¬ c = k := by omega
  have hk7 : (⟨b, off, none⟩ : Addr).add (k * 7) = ⟨b, off + k * 7, none⟩ := Go.WideShapes.add_plain b off (k * 7)
  refine ⟨b, off + k * 7, by simp only [cutI, if_neg hne, Option.map_some, hk7], hb, fun j hj => ?_⟩
  have e : ith ((l.drop k).take m) j = ith l (k + j) := by
    unfold ith
    simp only [List.getD, List.getElem?_take, List.getElem?_drop]
    rw [if_pos (by omega)]
  rw [e, show off + k * 7 + j * 7 = off + (k + j) * 7 from by omega]
  exact hc (k + j) (by omega)
theorem ItsAt.front {w : World} {A : Option Addr} {l : List I7} (h : ItsAt w A l) (k : Nat) : ItsAt w A (l.take k) := by
  intro hp
  have hk : (l.take k).length ≤ l.length := List.length_take_le' _ _
  have hk2 : (l.take k).length ≤ k := List.length_take_le k l
  obtain ⟨b, off, rfl, hb, hc⟩ := h (by omega)
  refine ⟨b, off, rfl, hb, fun j hj => ?_⟩
  have e : ith (l.take k) j = ith l j := by
    unfold ith
    simp only [List.getD, List.getElem?_take]
    rw [if_pos (by omega)]
  rw [e]
  exact hc j (by omega)
theorem cut_front {P : Program} {t e : TypeId} (ht : P.underlying t = some (.slice e)) {i : TypeInfo} (hi : P.info? e = some i) (A : Option Addr) (n c k : Nat) (hk : k ≤ c) (w : World) :
    (Instr.slice t (.slice A n c) none (some (.int .i64 k)) none).run P w = .ok (.slice A k c) w := by
  have he : P.elem t = e := by simp [Program.elem, ht]
  subst he
  rw [run_slice_h _ _ _ _ _ ht _ _ (by omega) (by omega), run_sizeOf _ hi]
  have h0 : (A.map fun x => x.add 0) = A := by cases A <;> simp [Addr.add]
  simp [Result.andThen, sliced, h0]
theorem cut_back7 {P : Program} {t e : TypeId} (ht : P.underlying t = some (.slice e)) {i : TypeInfo} (hi : P.info? e = some i) (h1 : P.cellsOf e = 7) (A : Option Addr) (n c k : Nat) (hk : k ≤ n) (w : World) :
    (Instr.slice t (.slice A n c) (some (.int .i64 k)) none none).run P w = .ok (.slice (cutI A c k) (n - k) (c - k)) w := by
  have he : P.elem t = e := by simp [Program.elem, ht]
  subst he
  rw [run_slice_l _ _ _ _ _ ht _ _ (by omega) (by omega), run_sizeOf _ hi, h1]
  simp [Result.andThen, sliced, cutI]
theorem cut_both7 {P : Program} {t e : TypeId} (ht : P.underlying t = some (.slice e)) {i : TypeInfo} (hi : P.info? e = some i) (h1 : P.cellsOf e = 7) (A : Option Addr) (n c k m : Nat) (hk : k ≤ m) (hm : m ≤ c) (w : World) :
    (Instr.slice t (.slice A n c) (some (.int .i64 k)) (some (.int .i64 m)) none).run P w = .ok (.slice (cutI A c k) (m - k) (c - k)) w := by
  have he : P.elem t = e := by simp [Program.elem, ht]
  subst he
  rw [run_slice_lh _ _ _ _ _ ht _ _ _ _ (by omega) (by omega) (by omega), run_sizeOf _ hi, h1]
  simp [Result.andThen, sliced, cutI]
/-- The cells of items. -/
def iflat (l : List I7) : List Value := l.flatMap fun i => [.int .i64 i.tag, .int .i64 i.id, .int .i64 i.d0, .int .i64 i.d1, .int .i64 i.d2, .int .i64 i.mx, .string i.tx]
theorem iflat_length (l : List I7) : (iflat l).length = l.length * 7 := by
  induction l with
  | nil => rfl
  | cons i l ih => simp only [iflat, List.flatMap_cons, List.length_append, List.length_cons, List.length_nil] at ih ⊢; omega
theorem iflat_append (a b : List I7) : iflat (a ++ b) = iflat a ++ iflat b := by simp [iflat]
/-- An item's cell by its number. -/
def icell (i : I7) : Nat → Value
  | 0 => .int .i64 i.tag
  | 1 => .int .i64 i.id
  | 2 => .int .i64 i.d0
  | 3 => .int .i64 i.d1
  | 4 => .int .i64 i.d2
  | 5 => .int .i64 i.mx
  | _ => .string i.tx
theorem iflat_at : ∀ (l : List I7) (k f : Nat), k < l.length → f < 7 → (iflat l)[k * 7 + f]? = some (icell (ith l k) f)
  | [], k, f, h, _ => absurd h (by simp)
  | i :: l, 0, f, _, hf => by
    obtain rfl | rfl | rfl | rfl | rfl | rfl | rfl : f = 0 ∨ f = 1 ∨ f = 2 ∨ f = 3 ∨ f = 4 ∨ f = 5 ∨ f = 6 := by omega
    all_goals simp [iflat, ith, icell]
  | i :: l, k + 1, f, h, hf => by
    have := iflat_at l k f (by simpa using h) hf
    rw [show (k + 1) * 7 + f = (k * 7 + f) + 7 from by omega]
    simpa [iflat, ith] using this
theorem ItsAt.of_cells {w : World} {b off : Nat} {l : List I7} (hb : b < w.heap.size) (h : ∀ j u, (iflat l)[j]? = some u → w.cell? ⟨b, off + j, none⟩ = some u) : ItsAt w (some ⟨b, off, none⟩) l := by
  intro _
  refine ⟨b, off, rfl, hb, fun k hk => ?_⟩
  have g := fun f (hf : f < 7) => h _ _ (iflat_at l k f hk hf)
  have g0 := g 0 (by omega)
  have g1 := g 1 (by omega)
  have g2 := g 2 (by omega)
  have g3 := g 3 (by omega)
  have g4 := g 4 (by omega)
  have g5 := g 5 (by omega)
  have g6 := g 6 (by omega)
  simp only [← Nat.add_assoc, Nat.add_zero] at g0 g1 g2 g3 g4 g5 g6
  exact ⟨g0, g1, g2, g3, g4, g5, g6⟩
theorem ItsAt.news {w : World} {a : Addr} {l : List I7} (h : ItsAt w (some a) l) : ∀ (j : Nat) (u : Value), (iflat l)[j]? = some u → w.cell? (a.add j) = some u := by
  intro j u hu
  have hj : j < l.length * 7 := by rw [← iflat_length]; exact (List.getElem?_eq_some_iff.1 hu).1
  obtain ⟨b, off, e, _, hc⟩ := h (by omega)
  obtain rfl : a = ⟨b, off, none⟩ := by injection e
  obtain ⟨e0, e1, e2, e3, e4, e5, e6⟩ := hc (j / 7) (by omega)
  have hat := iflat_at l (j / 7) (j % 7) (by omega) (by omega)
  rw [show j / 7 * 7 + j % 7 = j from by omega, hu] at hat
  rw [hat, Go.WideShapes.add_plain]
  have hf : j % 7 = 0 ∨ j % 7 = 1 ∨ j % 7 = 2 ∨ j % 7 = 3 ∨ j % 7 = 4 ∨ j % 7 = 5 ∨ j % 7 = 6 := by omega
  rcases hf with hf | hf | hf | hf | hf | hf | hf
  · rw [hf, show off + j = off + j / 7 * 7 from by omega]; exact e0
  · rw [hf, show off + j = off + j / 7 * 7 + 1 from by omega]; exact e1
  · rw [hf, show off + j = off + j / 7 * 7 + 2 from by omega]; exact e2
  · rw [hf, show off + j = off + j / 7 * 7 + 3 from by omega]; exact e3
  · rw [hf, show off + j = off + j / 7 * 7 + 4 from by omega]; exact e4
  · rw [hf, show off + j = off + j / 7 * 7 + 5 from by omega]; exact e5
  · rw [hf, show off + j = off + j / 7 * 7 + 6 from by omega]; exact e6
theorem its_of_own {w : World} {base n : Nat} {e : TypeId} {v : Value} {l : List I7} (h : w.ownsRow base e 7 v n (iflat l)) : ∃ A c, v = .slice A n c ∧ ItsAt w A l ∧ l.length = n ∧ Caps A n c := by
  have hl : l.length = n := by have := h.1; rw [iflat_length] at this; omega
  rcases h.2 with ⟨rfl, rfl⟩ | ⟨g, cap, cur, rfl, hbg, hh, hnc, _, hsz, htake⟩
  · exact ⟨none, 0, rfl, fun hp => by omega, hl, Nat.le_refl _, fun _ => rfl⟩
  · refine ⟨_, cap, rfl, ItsAt.of_cells (block_lt hh) (fun j u hu => ?_), hl, hnc, fun h => by cases h⟩
    have hj : j < l.length * 7 := by rw [← iflat_length]; exact (List.getElem?_eq_some_iff.1 hu).1
    rw [cell_of_row w g _ cur e (0, 0) hh, ← Array.getElem?_toList, Nat.zero_add]
    rw [← htake, List.getElem?_take, if_pos (by omega)] at hu
    exact hu
theorem iflat_one (l : List I7) : ∀ u ∈ iflat l, u.oneCell' = true := by
  intro u hu
  obtain ⟨i, _, hi⟩ := List.mem_flatMap.1 hu
  simp only [List.mem_cons, List.not_mem_nil, or_false] at hi
  rcases hi with rfl | rfl | rfl | rfl | rfl | rfl | rfl <;> rfl
theorem news_new (w : World) (t : TypeId) (x : I7) : ∀ (j : Nat) (u : Value), (iflat [x])[j]? = some u → (w.alloc (.cells (ics x) t)).cell? ((⟨w.heap.size, 0, none⟩ : Addr).add j) = some u := by
  intro j u hu
  rw [Go.WideShapes.add_plain, cell_of_row _ _ _ _ t _ (heap_alloc_new w _), Nat.zero_add, ← Array.getElem?_toList]
  exact hu
theorem item_info : (Tryz.prog.info? 162).map (fun i => (i.zero, i.size, i.bytes)) = some (some (.agg #[.int .i64 0, .int .i64 0, .int .i64 0, .int .i64 0, .int .i64 0, .int .i64 0, .string ⟨#[]⟩]), 7, 64) := by kernel_rfl
theorem wpList_append_items {w : World} {ops : Array Oper} {rest : List Oper} {o : Oper} {a : Act} {Q : Exit → Act → World → Prop} (hgd : o.guard = none) (s x : Operand)
    (ho : o.op = .call { callee := .builtin .append, args := #[s, x], argTypes := #[138, 138] })
    (base : Nat) (v : Value) (n : Nat) (xs : List Value) (hs : a.eval s = v) (hown : w.ownsRow base 162 7 v n xs)
    (A : Option Addr) (m c : Nat) (l : List I7) (hx : a.eval x = .slice A m c) (hA : ItsAt w A l) (hcap : Caps A m c) (hl : l.length = m) (hsz : n + m ≤ 1000000000) (hbase : base ≤ w.heap.size)
    (h : ∀ v' w', w'.ownsRow base 162 7 v' (n + m) (xs ++ iflat l) → w.grownBy w' v.ownBlock → wpList Tryz.prog ops Q rest (a.put o.dst v') w') : wpList Tryz.prog ops Q (o :: rest) a w := by
  obtain ⟨i0, hi0, hz0, hz1, hz2⟩ := info_parts item_info
  rcases A with _ | ad
  · obtain rfl := hcap.2 rfl
    have hm : m = 0 := by have := hcap.1; omega
    subst hm
    have hl0 : l = [] := List.eq_nil_of_length_eq_zero hl
    subst hl0
    exact wpList_append_own_none hgd s x _ ho base 162 i0 7 Tryz.underlying138 hi0 v n xs hs hown hx (h v w (by simpa [iflat] using hown) (World.grownBy.refl w _))
  · exact wpList_append_own w hgd s x _ ho base 162 i0 _ 7 64 Tryz.underlying138 hi0 hz0 hz1 hz2 rfl (by omega) v n xs hs hown ad m c (iflat l) hx (by rw [iflat_length]; omega) hA.news
      (iflat_one l) (by simp only [maxLen]; omega) (by omega) hbase (fun v' w' h1 h2 _ => h v' w' h1 h2)
theorem Caps.cut {A : Option Addr} {n c : Nat} (h : Caps A n c) (k m : Nat) (hk : k + m ≤ n) : Caps (cutI A c k) m (c - k) := by
  obtain ⟨h1, h2⟩ := h
  refine ⟨by omega, fun e => ?_⟩
  unfold cutI at e
  by_cases hc : c = k
  · omega
  · rw [if_neg hc] at e
    cases A with
    | none => have := h2 rfl; omega
    | some a => simp at e
end Go.Proofs.YtpnjokhhbjpciaaGreatDoor
