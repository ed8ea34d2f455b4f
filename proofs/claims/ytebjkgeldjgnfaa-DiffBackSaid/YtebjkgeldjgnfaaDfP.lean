/- Rows that are shown: what is alike in two lists of them. -/
import Derived.Test.YtebjkgeldjgnfaaClP
namespace Go.Proofs.Ytebjkgeldjgnfaa
set_option linter.unusedVariables false
/-- A row, and where its cells lie. -/
structure Rw where
  A : Option Go.Addr
  n : Nat
  c : Nat
  cs : List Cl
  st : Int
  en : Int
  bu : Int
  wr : Bool
  fo : Bool
  wd : Int
instance : Inhabited Rw := ⟨⟨none, 0, 0, [], 0, 0, 0, false, false, 0⟩⟩
/-- Two cells that are shown alike. -/
def CS (x y : Cl) : Prop := x.r = y.r ∧ x.k = y.k ∧ x.wd = y.wd
def LS (l o : List Cl) : Prop := l.length = o.length ∧ ∀ (i : Nat) (h : i < l.length) (h' : i < o.length), CS l[i] o[i]
/-- Two rows that are shown alike. -/
def RS (a b : Rw) : Prop := a.wr = b.wr ∧ a.fo = b.fo ∧ a.wd = b.wd ∧ LS a.cs b.cs
theorem CS.refl (x : Cl) : CS x x := ⟨rfl, rfl, rfl⟩
theorem CS.symm {x y : Cl} (h : CS x y) : CS y x := ⟨h.1.symm, h.2.1.symm, h.2.2.symm⟩
theorem LS.refl (l : List Cl) : LS l l := ⟨rfl, fun _ _ _ => CS.refl _⟩
theorem LS.symm {l o : List Cl} (h : LS l o) : LS o l := ⟨h.1.symm, fun i a b => (h.2 i b a).symm⟩
theorem RS.refl (a : Rw) : RS a a := ⟨rfl, rfl, rfl, LS.refl _⟩
theorem RS.symm {a b : Rw} (h : RS a b) : RS b a := ⟨h.1.symm, h.2.1.symm, h.2.2.1.symm, h.2.2.2.symm⟩
/-- Rows of one content: only where their cells lie may differ. -/
def RB (a b : Rw) : Prop := a.n = b.n ∧ a.cs = b.cs ∧ a.st = b.st ∧ a.en = b.en ∧ a.bu = b.bu ∧ a.wr = b.wr ∧ a.fo = b.fo ∧ a.wd = b.wd
theorem RB.rs {a b : Rw} (h : RB a b) : RS a b := ⟨h.2.2.2.2.2.1, h.2.2.2.2.2.2.1, h.2.2.2.2.2.2.2, by rw [h.2.1]; exact LS.refl _⟩
theorem RS.of_rb {a b c : Rw} (h : RB a b) (g : RS b c) : RS a c := ⟨h.2.2.2.2.2.1.trans g.1, h.2.2.2.2.2.2.1.trans g.2.1, h.2.2.2.2.2.2.2.trans g.2.2.1, by rw [h.2.1]; exact g.2.2.2⟩
/-- The first of n numbers that P does not hold of is m; n, if it holds of all. -/
def Alk (P : Nat → Prop) (n m : Nat) : Prop := m ≤ n ∧ (∀ i, i < m → P i) ∧ (m < n → ¬ P m)
theorem alk_ex (P : Nat → Prop) : ∀ n, ∃ m, Alk P n m
  | 0 => ⟨0, Nat.le_refl _, fun _ h => absurd h (Nat.not_lt_zero _), fun h => absurd h (Nat.lt_irrefl _)⟩
  | n + 1 => by
    obtain ⟨m, h1, h2, h3⟩ := alk_ex P n
    by_cases e : m < n
    · exact ⟨m, by omega, h2, fun _ => h3 e⟩
    · obtain rfl : m = n := by omega
      by_cases p : P m
      · exact ⟨m + 1, by omega, fun i hi => by rcases Nat.lt_succ_iff_lt_or_eq.mp hi with h | rfl; exact h2 i h; exact p, fun h => by omega⟩
      · exact ⟨m, by omega, h2, fun _ => p⟩
theorem Alk.all {P : Nat → Prop} {n m : Nat} (h : Alk P n m) : m = n ↔ ∀ i, i < n → P i := by
  constructor
  · rintro rfl; exact h.2.1
  · intro g
    by_cases e : m < n
    · exact absurd (g m e) (h.2.2 e)
    · have := h.1; omega
theorem Alk.unique {P : Nat → Prop} {n m k : Nat} (h : Alk P n m) (g : Alk P n k) : m = k := by
  by_cases e : m < k
  · exact absurd (g.2.1 m e) (h.2.2 (by have := g.1; omega))
  · by_cases e' : k < m
    · exact absurd (h.2.1 k e') (g.2.2 (by have := h.1; omega))
    · omega
/-- The row at a place. -/
def rth (l : List Rw) (i : Nat) : Rw := l.getD i default
theorem rth_get {l : List Rw} {i : Nat} (h : i < l.length) : rth l i = l[i] := by simp [rth, List.getD, h]
/-- Pairs from the beginning on, and from the end. -/
def PF (l o : List Rw) (i : Nat) : Prop := RS (rth l i) (rth o i)
def PB (l o : List Rw) (i : Nat) : Prop := RS (rth l (l.length - 1 - i)) (rth o (o.length - 1 - i))
/-- A row patch. -/
structure Rp where
  a : Int
  b : Int
  c : Int
  d : Int
def RFit (p : Rp) (n m : Int) : Prop := (0 ≤ p.a ∧ p.a ≤ p.b ∧ p.b ≤ n) ∧ (p.c = p.a ∧ p.c ≤ p.d ∧ p.d ≤ m) ∧ n - p.b = m - p.d
instance (p : Rp) (n m : Int) : Decidable (RFit p n m) := by unfold RFit; infer_instance
/-- A sound one. -/
def Snd (l o : List Rw) (p : Rp) : Prop := RFit p l.length o.length ∧ (∀ i, i < p.a.toNat → PF l o i) ∧ ∀ i, i < l.length - p.b.toNat → PB l o i
/-- The least one. -/
def Lst (l o : List Rw) (p : Rp) : Prop := ∃ a b : Nat, Alk (PF l o) (min l.length o.length) a ∧ Alk (PB l o) (min l.length o.length - a) b ∧ p = ⟨a, l.length - b, a, o.length - b⟩
theorem lst_ex (l o : List Rw) : ∃ p, Lst l o p := by
  obtain ⟨a, ha⟩ := alk_ex (PF l o) (min l.length o.length)
  obtain ⟨b, hb⟩ := alk_ex (PB l o) (min l.length o.length - a)
  exact ⟨_, a, b, ha, hb, rfl⟩
theorem Lst.unique {l o : List Rw} {p q : Rp} (h : Lst l o p) (g : Lst l o q) : p = q := by
  obtain ⟨a, b, h1, h2, rfl⟩ := h
  obtain ⟨a', b', g1, g2, rfl⟩ := g
  obtain rfl := h1.unique g1
  obtain rfl := h2.unique g2
  rfl
theorem Lst.snd {l o : List Rw} {p : Rp} (h : Lst l o p) : Snd l o p := by
  obtain ⟨a, b, h1, h2, rfl⟩ := h
  have := h1.1
  have := h2.1
  refine ⟨⟨⟨?_, ?_, ?_⟩, ⟨rfl, ?_, ?_⟩, ?_⟩, fun i hi => h1.2.1 i ?_, fun i hi => h2.2.1 i ?_⟩ <;> simp only at * <;> omega
theorem Lst.same {l : List Rw} {p : Rp} (h : Lst l l p) : p.a = l.length ∧ p.b = l.length := by
  obtain ⟨a, b, h1, h2, rfl⟩ := h
  have e : a = min l.length l.length := h1.all.mpr fun i _ => RS.refl _
  have := h2.1
  simp only
  omega
/-- Rows in the place of others. -/
def putR (l : List Rw) (p : Rp) (o : List Rw) : List Rw := l.take p.a.toNat ++ (o ++ l.drop p.b.toNat)
def RBs (l o : List Rw) : Prop := l.length = o.length ∧ ∀ i, i < o.length → RB (rth l i) (rth o i)
theorem Snd.back {l o : List Rw} {p : Rp} (h : Snd l o p) : (putR l p ((o.drop p.c.toNat).take (p.d.toNat - p.c.toNat))).length = o.length ∧ ∀ i, i < o.length → RS (rth (putR l p ((o.drop p.c.toNat).take (p.d.toNat - p.c.toNat))) i) (rth o i) := by
  obtain ⟨⟨⟨f1, f2, f3⟩, ⟨f4, f5, f6⟩, f7⟩, h1, h2⟩ := h
  obtain ⟨a, b, c, d⟩ := p
  simp only at *
  obtain ⟨a, rfl⟩ : ∃ k : Nat, a = k := ⟨a.toNat, by omega⟩
  obtain ⟨b, rfl⟩ : ∃ k : Nat, b = k := ⟨b.toNat, by omega⟩
  obtain ⟨d, rfl⟩ : ∃ k : Nat, d = k := ⟨d.toNat, by omega⟩
  subst f4
  simp only [Int.toNat_natCast, putR] at *
  have L : (l.take a ++ ((o.drop a).take (d - a) ++ l.drop b)).length = o.length := by
    simp only [List.length_append, List.length_take, List.length_drop]; omega
  refine ⟨L, fun i hi => ?_⟩
  rw [rth_get (by rw [L]; exact hi), rth_get hi]
  by_cases e1 : i < a
  · have := h1 i e1
    unfold PF at this
    rw [rth_get (by omega), rth_get hi] at this
    rw [List.getElem_append_left (by rw [List.length_take]; omega), List.getElem_take]
    exact this
  · rw [List.getElem_append_right (by rw [List.length_take]; omega)]
    by_cases e2 : i < d
    · rw [List.getElem_append_left (by simp only [List.length_take, List.length_drop]; omega), List.getElem_take, List.getElem_drop]
      have : a + (i - (l.take a).length) = i := by rw [List.length_take]; omega
      simp only [this]
      exact RS.refl _
    · rw [List.getElem_append_right (by simp only [List.length_take, List.length_drop]; omega), List.getElem_drop]
      have := h2 (o.length - 1 - i) (by omega)
      unfold PB at this
      rw [rth_get (by omega), rth_get (by omega)] at this
      have q1 : l.length - 1 - (o.length - 1 - i) = b + (i - (l.take a).length - ((o.drop a).take (d - a)).length) := by simp only [List.length_take, List.length_drop]; omega
      have q2 : o.length - 1 - (o.length - 1 - i) = i := by omega
      simp only [q1, q2] at this
      exact this
end Go.Proofs.Ytebjkgeldjgnfaa
