/- What items are together, over lists of items: plain facts, nothing of the program. -/
import Derived.Test.YtbbplppcabeojaaBase
namespace Go.Proofs.Ytbbplppcabeojaa
/-- An item: its tag, its ID, three sizes, its greatness, its text. -/
structure I7 where
  (tag id d0 d1 d2 mx : Int)
  tx : ByteArray
instance : Inhabited I7 := ⟨⟨0, 0, 0, 0, 0, 0, ⟨#[]⟩⟩⟩
/-- The sum of items: how many, their sizes, the greatest, its place. -/
structure S6 where
  (n d0 d1 d2 mx pl : Int)
theorem S6.ext_ {a b : S6} (h1 : a.n = b.n) (h2 : a.d0 = b.d0) (h3 : a.d1 = b.d1) (h4 : a.d2 = b.d2) (h5 : a.mx = b.mx) (h6 : a.pl = b.pl) : a = b := by
  cases a; cases b; simp_all
def s0 : S6 := ⟨0, 0, 0, 0, 0, 0⟩
def sof (i : I7) : S6 := ⟨1, i.d0, i.d1, i.d2, i.mx, 0⟩
def sadd (a b : S6) : S6 :=
  if a.n = 0 then b else if b.n = 0 then a
  else ⟨a.n + b.n, a.d0 + b.d0, a.d1 + b.d1, a.d2 + b.d2, if a.mx < b.mx then b.mx else a.mx, if a.mx < b.mx then a.n + b.pl else a.pl⟩
def sall (l : List I7) : S6 := l.foldl (fun s i => sadd s (sof i)) s0
/-- A number that may be. -/
def Okn (v : Int) : Prop := 0 ≤ v ∧ v ≤ 1099511627776
/-- A right item. -/
def Okd (i : I7) : Prop := Okn i.d0 ∧ Okn i.d1 ∧ Okn i.d2
def Oki (i : I7) : Prop := Okd i ∧ Okn i.mx
/-- Right items. -/
def Okl (l : List I7) : Prop := ∀ i ∈ l, Oki i
/-- What the sum of n right items keeps. -/
def SOk (s : S6) (n : Int) : Prop :=
  s.n = n ∧ 0 ≤ n ∧ 0 ≤ s.d0 ∧ s.d0 ≤ 1099511627776 * n ∧ 0 ≤ s.d1 ∧ s.d1 ≤ 1099511627776 * n ∧ 0 ≤ s.d2 ∧ s.d2 ≤ 1099511627776 * n ∧ 0 ≤ s.mx ∧ s.mx ≤ 1099511627776 ∧ 0 ≤ s.pl ∧ s.pl ≤ n ∧ (n = 0 → s.mx = 0 ∧ s.pl = 0)
theorem s0_ok : SOk s0 0 := by simp [SOk, s0]
theorem sof_ok {i : I7} (h : Oki i) : SOk (sof i) 1 := by
  obtain ⟨⟨⟨a1, a2⟩, ⟨b1, b2⟩, ⟨c1, c2⟩⟩, ⟨m1, m2⟩⟩ := h
  refine ⟨rfl, ?_, ?_, ?_, ?_, ?_, ?_, ?_, ?_, ?_, ?_, ?_, fun h => absurd h (by omega)⟩ <;> (try simp only [sof]) <;> omega
theorem sadd_z {a b : S6} (h : a.n = 0) : sadd a b = b := by unfold sadd; rw [if_pos h]
theorem sadd_w {a b : S6} (h : a.n ≠ 0) (h2 : b.n = 0) : sadd a b = a := by unfold sadd; rw [if_neg h, if_pos h2]
theorem sadd_s {a b : S6} (h : a.n ≠ 0) (h2 : b.n ≠ 0) : sadd a b = ⟨a.n + b.n, a.d0 + b.d0, a.d1 + b.d1, a.d2 + b.d2, if a.mx < b.mx then b.mx else a.mx, if a.mx < b.mx then a.n + b.pl else a.pl⟩ := by
  unfold sadd; rw [if_neg h, if_neg h2]
theorem s_zero {s : S6} (h : SOk s 0) : s = s0 := by
  obtain ⟨a1, a2, a3, a4, a5, a6, a7, a8, a9, a10, a11, a12, a13⟩ := h
  have := a13 rfl
  refine S6.ext_ ?_ ?_ ?_ ?_ ?_ ?_ <;> (try simp only [s0]) <;> omega
theorem sadd_ok {a b : S6} {n m : Int} (ha : SOk a n) (hb : SOk b m) : SOk (sadd a b) (n + m) := by
  by_cases h1 : a.n = 0
  · have hn : n = 0 := by have := ha.1; omega
    subst hn
    rw [sadd_z h1, Int.zero_add]
    exact hb
  · by_cases h2 : b.n = 0
    · have hm : m = 0 := by have := hb.1; omega
      subst hm
      rw [sadd_w h1 h2, Int.add_zero]
      exact ha
    · rw [sadd_s h1 h2]
      obtain ⟨a1, a2, a3, a4, a5, a6, a7, a8, a9, a10, a11, a12, a13⟩ := ha
      obtain ⟨b1, b2, b3, b4, b5, b6, b7, b8, b9, b10, b11, b12, b13⟩ := hb
      refine ⟨?_, ?_, ?_, ?_, ?_, ?_, ?_, ?_, ?_, ?_, ?_, ?_, ?_⟩
      all_goals (try simp only)
      all_goals (repeat' split)
      all_goals omega
theorem sadd_assoc {a b c : S6} {n m k : Int} (ha : SOk a n) (hb : SOk b m) (hc : SOk c k) : sadd (sadd a b) c = sadd a (sadd b c) := by
  by_cases h1 : a.n = 0
  · rw [sadd_z h1, sadd_z h1]
  · by_cases h2 : b.n = 0
    · rw [sadd_w h1 h2, sadd_z h2]
    · have hab : (sadd a b).n ≠ 0 := by
        rw [sadd_s h1 h2]; show a.n + b.n ≠ 0
        have := ha.1; have := ha.2.1; have := hb.1; have := hb.2.1
        omega
      by_cases h3 : c.n = 0
      · rw [sadd_w hab h3, sadd_w h2 h3]
      · have hbc : (sadd b c).n ≠ 0 := by
          rw [sadd_s h2 h3]; show b.n + c.n ≠ 0
          have := hb.1; have := hb.2.1; have := hc.1; have := hc.2.1
          omega
        rw [sadd_s hab h3, sadd_s h1 hbc, sadd_s h1 h2, sadd_s h2 h3]
        refine S6.ext_ ?_ ?_ ?_ ?_ ?_ ?_
        all_goals (try simp only)
        all_goals (repeat' split)
        all_goals omega
theorem sadd_e {a : S6} {n : Int} (ha : SOk a n) : sadd a s0 = a := by
  by_cases h : a.n = 0
  · rw [sadd_z h]
    have hn : n = 0 := by have := ha.1; omega
    subst hn
    exact (s_zero ha).symm
  · exact sadd_w h rfl
theorem e_sadd (a : S6) : sadd s0 a = a := sadd_z rfl
theorem sall_snoc (l : List I7) (i : I7) : sall (l ++ [i]) = sadd (sall l) (sof i) := by simp [sall, List.foldl_append]
theorem sall_ok : ∀ (n : Nat) (l : List I7), l.length = n → Okl l → SOk (sall l) n := by
  intro n
  induction n with
  | zero =>
    intro l hl _
    obtain rfl : l = [] := List.eq_nil_of_length_eq_zero hl
    exact s0_ok
  | succ n ih =>
    intro l hl ho
    obtain ⟨c, r, rfl⟩ : ∃ c r, l = c ++ [r] := ⟨l.dropLast, l.getLast (by intro e; subst e; simp at hl), (List.dropLast_concat_getLast _).symm⟩
    rw [sall_snoc]
    have h1 := ih c (by simpa using hl) (fun i hi => ho i (List.mem_append_left _ hi))
    have h2 := sof_ok (ho r (by simp))
    have := sadd_ok h1 h2
    rwa [show ((n : Int) + 1) = ((n + 1 : Nat) : Int) from by omega] at this
theorem sall_append : ∀ (n : Nat) (a b : List I7), b.length = n → Okl a → Okl b → sall (a ++ b) = sadd (sall a) (sall b) := by
  intro n
  induction n with
  | zero =>
    intro a b hb ha _
    obtain rfl : b = [] := List.eq_nil_of_length_eq_zero hb
    rw [List.append_nil]
    exact (sadd_e (sall_ok _ a rfl ha)).symm
  | succ n ih =>
    intro a b hb ha ho
    obtain ⟨c, r, rfl⟩ : ∃ c r, b = c ++ [r] := ⟨b.dropLast, b.getLast (by intro e; subst e; simp at hb), (List.dropLast_concat_getLast _).symm⟩
    have hc : Okl c := fun i hi => ho i (List.mem_append_left _ hi)
    rw [← List.append_assoc, sall_snoc, ih a c (by simpa using hb) ha hc, sall_snoc]
    exact sadd_assoc (sall_ok _ a rfl ha) (sall_ok _ c rfl hc) (sof_ok (ho r (by simp)))
/-- The document's own sum, item by item. -/
def rstep (s : S6) (x : I7) (k : Int) : S6 := ⟨s.n, s.d0 + x.d0, s.d1 + x.d1, s.d2 + x.d2, if s.mx < x.mx then x.mx else s.mx, if s.mx < x.mx then k else s.pl⟩
theorem rstep_all (l : List I7) (x : I7) (hl : Okl l) (hx : Oki x) (n : Int) :
    rstep ⟨n, (sall l).d0, (sall l).d1, (sall l).d2, (sall l).mx, (sall l).pl⟩ x l.length = ⟨n, (sall (l ++ [x])).d0, (sall (l ++ [x])).d1, (sall (l ++ [x])).d2, (sall (l ++ [x])).mx, (sall (l ++ [x])).pl⟩ := by
  have h := sall_ok _ l rfl hl
  obtain ⟨⟨⟨x1, x2⟩, ⟨x3, x4⟩, ⟨x5, x6⟩⟩, ⟨x7, x8⟩⟩ := hx
  rw [sall_snoc]
  by_cases h0 : (sall l).n = 0
  · have hn : l.length = 0 := by have := h.1; omega
    rw [hn] at h
    rw [sadd_z h0, s_zero h, hn]
    refine S6.ext_ ?_ ?_ ?_ ?_ ?_ ?_
    all_goals simp only [rstep, sof, s0]
    all_goals (repeat' split)
    all_goals omega
  · rw [sadd_s h0 (by simp [sof])]
    have := h.1
    refine S6.ext_ ?_ ?_ ?_ ?_ ?_ ?_
    all_goals simp only [rstep, sof]
    all_goals (repeat' split)
    all_goals omega
/-- The item in a list's place. -/
def ith (l : List I7) (k : Nat) : I7 := l.getD k default
theorem ith_get (l : List I7) {j : Nat} (h : j < l.length) : ith l j = l[j] := by simp [ith, List.getD, h]
theorem ith_mem (l : List I7) {j : Nat} (h : j < l.length) : ith l j ∈ l := by rw [ith_get l h]; exact List.getElem_mem h
theorem take_ith (l : List I7) {j : Nat} (h : j < l.length) : l.take (j + 1) = l.take j ++ [ith l j] := by rw [List.take_succ_eq_append_getElem h, ith_get l h]
theorem sall_take (l : List I7) {j : Nat} (h : j < l.length) : sall (l.take (j + 1)) = sadd (sall (l.take j)) (sof (ith l j)) := by rw [take_ith l h, sall_snoc]
theorem Okl.take_ {l : List I7} (h : Okl l) (k : Nat) : Okl (l.take k) := fun i hi => h i (List.mem_of_mem_take hi)
theorem Okl.append_ {a b : List I7} (ha : Okl a) (hb : Okl b) : Okl (a ++ b) := fun i hi => (List.mem_append.1 hi).elim (ha i) (hb i)
theorem Okl.step {l : List I7} {j : Nat} (h : Okl (l.take j)) (hj : j < l.length) (ho : Oki (ith l j)) : Okl (l.take (j + 1)) := by
  rw [take_ith l hj]
  exact h.append_ (fun i hi => by rw [List.mem_singleton.1 hi]; exact ho)
end Go.Proofs.Ytbbplppcabeojaa
