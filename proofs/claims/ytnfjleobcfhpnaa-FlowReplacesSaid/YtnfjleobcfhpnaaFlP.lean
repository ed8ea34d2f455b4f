/- Flow, plain: lines, what they have together, their items; the widest one; the line of a row. -/
import Derived.Test.YtnfjleobcfhpnaaItBase
import Derived.Test.YtnfjleobcfhpnaaTreeQ
import Derived.Test.YtnfjleobcfhpnaaKRow
namespace Go.Proofs.Ytnfjleobcfhpnaa
open Go.RowKit
/-- A line: its shown runes, runes of the buffer, rows, and how wide its widest row is. -/
structure Ln where
  (s b r wd : Int)
  deriving DecidableEq
instance : Inhabited Ln := ⟨⟨0, 0, 0, 0⟩⟩
def encL (x : Ln) : List Value := [.int .i64 x.s, .int .i64 x.b, .int .i64 x.r, .int .i64 x.wd]
theorem encL_len (x : Ln) : (encL x).length = 4 := rfl
theorem encL_one (x : Ln) : ∀ v ∈ encL x, v.oneCell' = true := by
  intro v hv
  simp only [encL, List.mem_cons, List.not_mem_nil, or_false] at hv
  rcases hv with rfl | rfl | rfl | rfl <;> rfl
/-- A line's item. -/
def itm (x : Ln) : I7 := ⟨0, 0, x.s, x.b, x.r, x.wd, ⟨#[]⟩⟩
/-- A line such as may be. -/
def Lok (x : Ln) : Prop := Okn x.s ∧ Okn x.b ∧ Okn x.r ∧ Okn x.wd ∧ x.r ≠ 0
instance (x : Ln) : Decidable (Lok x) := by unfold Lok Okn; exact inferInstance
def Loks (l : List Ln) : Prop := ∀ x ∈ l, Lok x
instance (l : List Ln) : Decidable (Loks l) := by unfold Loks; exact inferInstance
theorem Loks.take_ {l : List Ln} (h : Loks l) (k : Nat) : Loks (l.take k) := fun i hi => h i (List.mem_of_mem_take hi)
theorem Loks.drop_ {l : List Ln} (h : Loks l) (k : Nat) : Loks (l.drop k) := fun i hi => h i (List.mem_of_mem_drop hi)
theorem Loks.append_ {a b : List Ln} (ha : Loks a) (hb : Loks b) : Loks (a ++ b) := fun i hi => (List.mem_append.1 hi).elim (ha i) (hb i)
theorem Loks.its {l : List Ln} (h : Loks l) : Okl (l.map itm) := by
  intro i hi
  obtain ⟨x, hx, rfl⟩ := List.mem_map.1 hi
  obtain ⟨a, b, c, d, _⟩ := h x hx
  exact ⟨⟨a, b, c⟩, d⟩
/-- Right lines, where each has a row: just those whose items are right. -/
theorem loks_iff {l : List Ln} (h : ∀ x ∈ l, 1 ≤ x.r) : Loks l ↔ Okl (l.map itm) := by
  refine ⟨Loks.its, fun g x hx => ?_⟩
  obtain ⟨⟨a, b, c⟩, d⟩ := g (itm x) (List.mem_map_of_mem hx)
  exact ⟨a, b, c, d, by have := h x hx; omega⟩
/-- What lines have together. -/
def ladd (s x : Ln) : Ln := ⟨s.s + x.s, s.b + x.b, s.r + x.r, if s.wd < x.wd then x.wd else s.wd⟩
def lsum (l : List Ln) : Ln := l.foldl ladd ⟨0, 0, 0, 0⟩
theorem lsum_snoc (l : List Ln) (x : Ln) : lsum (l ++ [x]) = ladd (lsum l) x := by simp [lsum, List.foldl_append]
/-- The first of the widest ones. -/
structure Widest (l : List Ln) (i : Nat) : Prop where
  lt : l ≠ [] → i < l.length
  nil : l = [] → i = 0
  yes : ∀ h : i < l.length, l[i].wd = (lsum l).wd
  no : ∀ j (h : j < l.length), j < i → l[j].wd ≠ (lsum l).wd
theorem Widest.unique {l : List Ln} {i j : Nat} (h : Widest l i) (g : Widest l j) : i = j := by
  by_cases e : l = []
  · rw [h.nil e, g.nil e]
  · rcases Nat.lt_trichotomy i j with h1 | h1 | h1
    · exact absurd (h.yes (h.lt e)) (g.no i (h.lt e) h1)
    · exact h1
    · exact absurd (g.yes (g.lt e)) (h.no j (g.lt e) h1)
/-- All of it, by what the tree's items have together. -/
theorem lsum_all : ∀ (n : Nat) (l : List Ln), l.length = n → Loks l → (sall (l.map itm)).d0 = (lsum l).s ∧ (sall (l.map itm)).d1 = (lsum l).b ∧ (sall (l.map itm)).d2 = (lsum l).r ∧ (sall (l.map itm)).mx = (lsum l).wd ∧ (∀ x ∈ l, x.wd ≤ (lsum l).wd) ∧ ∃ i : Nat, (sall (l.map itm)).pl = i ∧ Widest l i := by
  intro n
  induction n with
  | zero =>
    intro l hl _
    obtain rfl : l = [] := List.eq_nil_of_length_eq_zero hl
    exact ⟨rfl, rfl, rfl, rfl, fun x h => absurd h (by simp), 0, rfl, fun h => absurd rfl h, fun _ => rfl, fun h => absurd h (by simp), fun j h => absurd h (by simp)⟩
  | succ n ih =>
    intro l hl ho
    obtain ⟨c, x, rfl⟩ : ∃ c x, l = c ++ [x] := ⟨l.dropLast, l.getLast (by intro e; subst e; simp at hl), (List.dropLast_concat_getLast _).symm⟩
    have hlc : c.length = n := by simpa using hl
    have hoc : Loks c := fun i hi => ho i (List.mem_append_left _ hi)
    obtain ⟨e0, e1, e2, e3, e4, i, e5, e6⟩ := ih c hlc hoc
    have hx := ho x (by simp)
    have hS := sall_ok _ _ (List.length_map itm) hoc.its
    have hn : (sall (c.map itm)).n = n := by rw [hS.1, hlc]
    rw [List.map_append, List.map_cons, List.map_nil, sall_snoc, lsum_snoc]
    by_cases h0 : n = 0
    · have hc0 : c = [] := List.eq_nil_of_length_eq_zero (by omega)
      subst hc0
      rw [sadd_z (by rw [hn, h0]; rfl)]
      have hw := hx.2.2.2.1
      unfold Okn at hw
      have hmx : (ladd (lsum []) x).wd = x.wd := by
        show (if (0 : Int) < x.wd then x.wd else 0) = x.wd
        by_cases hp : 0 < x.wd
        · rw [if_pos hp]
        · rw [if_neg hp]; omega
      refine ⟨by simp [sof, itm, ladd, lsum], by simp [sof, itm, ladd, lsum], by simp [sof, itm, ladd, lsum], by rw [hmx]; rfl, fun y hy => ?_, 0, rfl, fun _ => by simp, fun _ => rfl, fun h => ?_, fun j _ h => absurd h (by omega)⟩
      · rw [hmx]; simp at hy; rw [hy]; exact Int.le_refl _
      · rw [lsum_snoc, hmx]; rfl
    · rw [sadd_s (by rw [hn]; omega) (by simp [sof])]
      simp only [sof, itm, e0, e1, e2, e3, e5, hn, ladd]
      refine ⟨trivial, trivial, trivial, trivial, fun y hy => ?_, ?_⟩
      · rcases List.mem_append.1 hy with h | h
        · have := e4 y h
          split <;> omega
        · simp at h; rw [h]; split <;> omega
      · have hlt : i < c.length := e6.lt (fun h => by rw [h] at hlc; simp at hlc; omega)
        by_cases hw : (lsum c).wd < x.wd
        · rw [if_pos hw]
          refine ⟨n, by omega, fun _ => by simp; omega, fun h => by simp at h, fun h => ?_, fun j h hj => ?_⟩
          · rw [lsum_snoc]
            simp only [ladd, if_pos hw]
            rw [List.getElem_append_right (by omega)]
            simp [hlc]
          · rw [lsum_snoc]
            simp only [ladd, if_pos hw]
            rw [List.getElem_append_left (by omega)]
            have := e4 c[j] (List.getElem_mem _)
            omega
        · rw [if_neg hw]
          refine ⟨i, rfl, fun _ => by simp; omega, fun h => by simp at h, fun h => ?_, fun j h hj => ?_⟩
          · rw [lsum_snoc]
            simp only [ladd, if_neg hw]
            rw [List.getElem_append_left hlt]
            exact e6.yes hlt
          · rw [lsum_snoc]
            simp only [ladd, if_neg hw]
            rw [List.getElem_append_left (by omega)]
            exact e6.no j (by omega) hj
/-- The sum stays small. -/
theorem lsum_bd (l : List Ln) (h : Loks l) (hl : l.length ≤ 1000000) : Small (lsum l).s ∧ Small (lsum l).b ∧ Small (lsum l).r := by
  obtain ⟨a, b, c, _⟩ := lsum_all _ l rfl h
  obtain ⟨_, h1, h2, h3, _⟩ := (sall_ok _ _ rfl h.its).small (by rw [List.length_map]; omega)
  rw [← a, ← b, ← c]
  exact ⟨h1, h2, h3⟩
theorem lsum_nn (l : List Ln) (h : Loks l) : 0 ≤ (lsum l).s ∧ 0 ≤ (lsum l).b ∧ 0 ≤ (lsum l).r ∧ 0 ≤ (lsum l).wd := by
  obtain ⟨a, b, c, d, _⟩ := lsum_all _ l rfl h
  obtain ⟨_, _, h1, _, h2, _, h3, _, h4, _⟩ := sall_ok _ _ rfl h.its
  rw [← a, ← b, ← c, ← d]
  exact ⟨h1, h2, h3, h4⟩
/-- The rows of lines, step by step. -/
theorem lsum_take {l : List Ln} {k : Nat} (h : k < l.length) : lsum (l.take (k + 1)) = ladd (lsum (l.take k)) l[k] := by rw [List.take_succ_eq_append_getElem h, lsum_snoc]
theorem sdim_rows (l : List Ln) (h : Loks l) (k : Nat) : sdim ((l.map itm).take k) 2 = (lsum (l.take k)).r := by
  rw [← List.map_take]
  exact (lsum_all _ _ rfl (h.take_ k)).2.2.1
/-- The line of a row. -/
structure RowIs (l : List Ln) (row : Int) (k : Nat) : Prop where
  lt : k < l.length
  lo : (lsum (l.take k)).r ≤ row
  hi : row < (lsum (l.take k)).r + (l[k]'lt).r
theorem row_find {l : List Ln} (h : Loks l) {row : Int} {k : Nat} (h0 : 0 ≤ row) (hr : row < (lsum l).r) (hf : FindIs (l.map itm) 2 row 1 k) : RowIs l row k := by
  have hst : ∀ j, Stops (sdim ((l.map itm).take j) 2) row 1 ↔ row < (lsum (l.take j)).r := fun j => by
    unfold Stops
    rw [sdim_rows l h]
    omega
  have hlen : (l.map itm).length = l.length := List.length_map _
  have hk : k < l.length := by
    rcases Nat.lt_or_ge k l.length with g | g
    · exact g
    · exfalso
      have hle := hf.le
      have hp : 0 < l.length := by
        rcases Nat.eq_zero_or_pos l.length with e | e
        · rw [List.eq_nil_of_length_eq_zero e] at hr; simp [lsum] at hr; omega
        · exact e
      refine hf.no (l.length - 1) (by omega) ((hst _).2 ?_)
      rw [List.take_of_length_le (by omega)]
      exact hr
  have hy := (hst _).1 (hf.yes (by omega))
  refine ⟨hk, ?_, ?_⟩
  · rcases Nat.eq_zero_or_pos k with e | e
    · subst e; simpa [lsum] using h0
    · have hn : ¬ row < (lsum (l.take (k - 1 + 1))).r := fun h => hf.no (k - 1) (by omega) ((hst _).2 h)
      rw [show k - 1 + 1 = k from by omega] at hn
      omega
  · rw [lsum_take hk] at hy
    exact hy
theorem RowIs.first {l : List Ln} (h : Loks l) {k : Nat} (g : RowIs l 0 k) : k = 0 := by
  rcases Nat.eq_zero_or_pos k with e | e
  · exact e
  · exfalso
    have hk := g.lt
    have h1 := g.lo
    obtain ⟨j, rfl⟩ : ∃ j, k = j + 1 := ⟨k - 1, by omega⟩
    rw [lsum_take (by omega)] at h1
    have h2 := (lsum_nn _ (h.take_ j)).2.2.1
    have h3 := (h l[j] (List.getElem_mem _)).2.2
    unfold Okn at h3
    simp only [ladd] at h1
    omega
/-- The next row's line: the same one, or the next. -/
theorem RowIs.next {l : List Ln} (h : Loks l) {row : Int} {k m : Nat} (g : RowIs l row k) (g2 : RowIs l (row + 1) m) : (m = k) ∨ (m = k + 1 ∧ row + 1 = (lsum (l.take m)).r) := by
  have hmono : ∀ n i, i + n ≤ l.length → (lsum (l.take i)).r + n ≤ (lsum (l.take (i + n))).r := by
    intro n
    induction n with
    | zero => intro i _; simp
    | succ n ih =>
      intro i hi
      have h1 := ih i (by omega)
      rw [show i + (n + 1) = i + n + 1 from by omega, lsum_take (by omega)]
      have h3 := (h (l[i + n]'(by omega)) (List.getElem_mem _)).2.2
      unfold Okn at h3
      simp only [ladd]
      omega
  have a1 := g.lo
  have a2 := g.hi
  have b1 := g2.lo
  have b2 := g2.hi
  have c1 := g.lt
  have c2 := g2.lt
  have e1 := lsum_take c1
  have e2 := lsum_take c2
  have e1r : (lsum (l.take (k + 1))).r = (lsum (l.take k)).r + l[k].r := by rw [e1]; rfl
  have e2r : (lsum (l.take (m + 1))).r = (lsum (l.take m)).r + l[m].r := by rw [e2]; rfl
  rcases Nat.lt_trichotomy m k with hm | hm | hm
  · exfalso
    have := hmono (k - (m + 1)) (m + 1) (by omega)
    rw [show m + 1 + (k - (m + 1)) = k from by omega] at this
    omega
  · exact .inl hm
  · right
    have := hmono (m - (k + 1)) (k + 1) (by omega)
    rw [show k + 1 + (m - (k + 1)) = m from by omega] at this
    refine ⟨by omega, by omega⟩
/-- The last row's line is the last one. -/
theorem RowIs.last {l : List Ln} (h : Loks l) {row : Int} {k : Nat} (g : RowIs l row k) (hr : row + 1 = (lsum l).r) : k + 1 = l.length := by
  have c1 := g.lt
  rcases Nat.lt_or_ge (k + 1) l.length with h1 | h1
  · exfalso
    have hmono : ∀ n i, i + n ≤ l.length → (lsum (l.take i)).r + n ≤ (lsum (l.take (i + n))).r := by
      intro n
      induction n with
      | zero => intro i _; simp
      | succ n ih =>
        intro i hi
        have h1 := ih i (by omega)
        rw [show i + (n + 1) = i + n + 1 from by omega, lsum_take (by omega)]
        have h3 := (h (l[i + n]'(by omega)) (List.getElem_mem _)).2.2
        unfold Okn at h3
        simp only [ladd]
        omega
    have := hmono (l.length - (k + 1)) (k + 1) (by omega)
    rw [show k + 1 + (l.length - (k + 1)) = l.length from by omega, List.take_of_length_le (Nat.le_refl _)] at this
    have e1r : (lsum (l.take (k + 1))).r = (lsum (l.take k)).r + l[k].r := by rw [lsum_take c1]; rfl
    have := g.hi
    omega
  · omega
end Go.Proofs.Ytnfjleobcfhpnaa
