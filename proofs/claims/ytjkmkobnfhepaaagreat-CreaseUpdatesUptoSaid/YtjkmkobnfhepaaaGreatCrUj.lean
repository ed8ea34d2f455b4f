/- Creases: plain facts of Update: what is made anew. Creases: plain facts of Update: which items are made anew. Creases: plain facts of Update: where all that was turned is between, it leaves the new spans' items. Creases: plain facts of Update: where equal lists are hidden outside, it leaves the new spans' items. Creases: where equal lists are hidden outside, Update leaves the new spans' items. -/
import Derived.Test.YtjkmkobnfhepaaaGreatCrUd
namespace Go.Proofs.YtjkmkobnfhepaaaGreat
set_option linter.unusedVariables false
theorem crP_app : ∀ (a b : List (Int × Int)) (f t : Int), crP f (a ++ b) t = crQ f a ++ crP (clast f a) b t
  | [], b, f, t => rfl
  | x :: a, b, f, t => by
    rw [List.cons_append, crP_cons, crP_app a b x.2 t]
    show _ = (cgap 0 (x.1 - f) ++ (cgap 1 (x.2 - x.1) ++ crQ x.2 a)) ++ crP (clast x.2 a) b t
    simp only [List.append_assoc]
/-- Where the first of some spans begins, or the end. -/
def cfst (l : List (Int × Int)) (t : Int) : Int := match l with | [] => t | x :: _ => x.1
/-- The items from there. -/
def crR (l : List (Int × Int)) (t : Int) : List I7 := match l with | [] => [] | x :: l => cgap 1 (x.2 - x.1) ++ crP x.2 l t
theorem crP_R (f : Int) (l : List (Int × Int)) (t : Int) : crP f l t = cgap 0 (cfst l t - f) ++ crR l t := by
  cases l with
  | nil => rw [crP_nil]; simp [cfst, crR]
  | cons x l => rw [crP_cons]; rfl
theorem CrOk.fst {l : List (Int × Int)} {f t : Int} (h : CrOk f l t) : f ≤ cfst l t ∧ cfst l t ≤ t := by
  cases l with
  | nil => exact ⟨h, Int.le_refl t⟩
  | cons x l => have := h.2.2.le; have := h.1; have := h.2.1; show f ≤ x.1 ∧ x.1 ≤ t; omega
theorem crQ_sum : ∀ (a : List (Int × Int)) (f : Int), CrOk f a (clast f a) → wdsum 0 (crQ f a) = clast f a - f
  | [], f, _ => by show (0 : Int) = f - f; omega
  | x :: a, f, h => by
    obtain ⟨h1, h2, h3⟩ := h
    have ih := crQ_sum a x.2 h3
    show wdsum 0 (cgap 0 (x.1 - f) ++ (cgap 1 (x.2 - x.1) ++ crQ x.2 a)) = clast x.2 a - f
    rw [wdsum_append, wdsum_append, ih]
    unfold cgap
    rw [if_pos (show 0 < x.2 - x.1 from by omega)]
    split <;> (simp [wdsum, wdz, cpc]; omega)
/-- Spans that end at a place or ahead of it, and those that begin at it or behind it. -/
theorem acr_cut : ∀ (l : List (Int × Int)) (f t p : Int), CrOk f l t → f ≤ p → acr l p = false → ∃ a b, l = a ++ b ∧ clast f a ≤ p ∧ (p ≤ cfst b t ∨ t < p) ∧ CrOk f a (clast f a) ∧ CrOk (clast f a) b t
  | [], f, t, p, h, hp, _ => ⟨[], [], rfl, hp, by show p ≤ t ∨ t < p; omega, Int.le_refl f, h⟩
  | x :: l, f, t, p, h, hp, ha => by
    by_cases g : p ≤ x.1
    · exact ⟨[], x :: l, rfl, hp, .inl g, Int.le_refl f, h⟩
    · obtain ⟨h1, h2, h3⟩ := h
      unfold acr at ha
      rw [List.any_cons, Bool.or_eq_false_iff] at ha
      have hx := of_decide_eq_false ha.1
      obtain ⟨a, b, e, q1, q2, q3, q4⟩ := acr_cut l x.2 t p h3 (by omega) ha.2
      exact ⟨x :: a, b, by rw [e]; rfl, q1, q2, ⟨h1, h2, q3⟩, q4⟩
theorem wfnd_skip (v : Int) : ∀ (a r : List I7), (∀ i ∈ a, 0 ≤ i.d0) → wdsum 0 a ≤ v → wfnd 0 (a ++ r) v 1 = a.length + wfnd 0 r (v - wdsum 0 a) 1
  | [], r, _, _ => by
    have : wdsum 0 ([] : List I7) = 0 := rfl
    rw [this, Int.sub_zero, List.nil_append, List.length_nil, Nat.zero_add]
  | i :: a, r, hp, hv => by
    have e : wdsum 0 (i :: a) = i.d0 + wdsum 0 a := rfl
    have h0 : 0 ≤ wdsum 0 a := by
      clear hv e
      induction a with
      | nil => exact Int.le_refl _
      | cons j a ih =>
        have e2 : wdsum 0 (j :: a) = j.d0 + wdsum 0 a := rfl
        have := hp j (by simp)
        have := ih (fun x hx => hp x (by rcases List.mem_cons.1 hx with rfl | hx <;> simp_all))
        omega
    rw [List.cons_append, wfnd, wd0, if_neg (by omega), wfnd_skip (v - i.d0) a r (fun x hx => hp x (List.mem_cons_of_mem _ hx)) (by omega), e, List.length_cons, show v - i.d0 - wdsum 0 a = v - (i.d0 + wdsum 0 a) from by omega]
    omega
theorem ith_appL {a b : List I7} {k : Nat} (h : k < a.length) : ith (a ++ b) k = ith a k := by
  unfold ith List.getD
  rw [List.getElem?_append_left h]
theorem ith_appR (a b : List I7) (k : Nat) : ith (a ++ b) (a.length + k) = ith b k := by
  unfold ith List.getD
  rw [List.getElem?_append_right (by omega), show a.length + k - a.length = k from by omega]
theorem crQ_tag : ∀ (a : List (Int × Int)) (f : Int), CrOk f a (clast f a) → (crQ f a).length = 0 ∨ ∃ k, (crQ f a).length = k + 1 ∧ (ith (crQ f a) k).tag = 1
  | [], f, _ => .inl rfl
  | x :: a, f, h => by
    obtain ⟨h1, h2, h3⟩ := h
    right
    have e : crQ f (x :: a) = (cgap 0 (x.1 - f) ++ [cpc 1 (x.2 - x.1)]) ++ crQ x.2 a := by
      show cgap 0 (x.1 - f) ++ (cgap 1 (x.2 - x.1) ++ crQ x.2 a) = _
      rw [show cgap 1 (x.2 - x.1) = [cpc 1 (x.2 - x.1)] from by unfold cgap; rw [if_pos (by omega)], List.append_assoc]
    rcases crQ_tag a x.2 h3 with h0 | ⟨k, h5, h6⟩
    · refine ⟨(cgap 0 (x.1 - f)).length, ?_, ?_⟩
      · rw [e, List.length_append, List.length_append, h0]; rfl
      · rw [e, ith_appL (by rw [List.length_append]; simp)]
        have := ith_appR (cgap 0 (x.1 - f)) [cpc 1 (x.2 - x.1)] 0
        rw [Nat.add_zero] at this
        rw [this]
        rfl
    · refine ⟨(cgap 0 (x.1 - f) ++ [cpc 1 (x.2 - x.1)]).length + k, ?_, ?_⟩
      · rw [e, List.length_append, h5]; omega
      · rw [e, ith_appR]; exact h6
set_option linter.unusedVariables false
theorem crR_lead {b : List (Int × Int)} {c t : Int} (h : CrOk c b t) : lead (crR b t) = 0 ∧ wfnd 0 (crR b t) 0 1 = 0 := by
  cases b with
  | nil => exact ⟨rfl, rfl⟩
  | cons x b =>
    obtain ⟨h1, h2, h3⟩ := h
    have e : crR (x :: b) t = cpc 1 (x.2 - x.1) :: crP x.2 b t := by
      show cgap 1 (x.2 - x.1) ++ _ = _
      unfold cgap
      rw [if_pos (by omega)]
      rfl
    rw [e]
    refine ⟨rfl, ?_⟩
    rw [wfnd, if_pos (.inl (show (0 : Int) < x.2 - x.1 from by omega))]
theorem crQ_pos : ∀ (a : List (Int × Int)) (f : Int), CrOk f a (clast f a) → ∀ i ∈ crQ f a, 0 ≤ i.d0
  | [], f, _, i, hi => by cases hi
  | x :: a, f, h, i, hi => by
    obtain ⟨h1, h2, h3⟩ := h
    have hc : ∀ k n : Int, ∀ j ∈ cgap k n, 0 ≤ j.d0 := fun k n j hj => by
      unfold cgap at hj
      split at hj
      · rw [List.mem_singleton.1 hj]; show 0 ≤ n; omega
      · cases hj
    rcases List.mem_append.1 hi with hi | hi
    · exact hc _ _ i hi
    · rcases List.mem_append.1 hi with hi | hi
      · exact hc _ _ i hi
      · exact crQ_pos a x.2 h3 i hi
/-- Where a place between spans is found. -/
theorem wfnd_cut {a b : List (Int × Int)} {n p : Int} (ha : CrOk 0 a (clast 0 a)) (hb : CrOk (clast 0 a) b n) (h1 : clast 0 a ≤ p) (h2 : p ≤ cfst b n) :
    wfnd 0 (crP 0 (a ++ b) n) p 1 = (crQ 0 a).length + (if p < cfst b n then 0 else (cgap 0 (cfst b n - clast 0 a)).length) := by
  have hs := crQ_sum a 0 ha
  rw [Int.sub_zero] at hs
  rw [crP_app, wfnd_skip p (crQ 0 a) _ (crQ_pos a 0 ha) (by rw [hs]; exact h1), hs, crP_R]
  congr 1
  have hR := (crR_lead hb).2
  by_cases g : 0 < cfst b n - clast 0 a
  · have e : cgap 0 (cfst b n - clast 0 a) = [cpc 0 (cfst b n - clast 0 a)] := by unfold cgap; rw [if_pos g]
    rw [e, List.singleton_append, wfnd]
    have e2 : wdz 0 (cpc 0 (cfst b n - clast 0 a)) = cfst b n - clast 0 a := rfl
    rw [e2]
    by_cases q : p < cfst b n
    · rw [if_pos (.inl (by omega)), if_pos q]
    · rw [if_neg (by omega), if_neg q, show p - clast 0 a - (cfst b n - clast 0 a) = 0 from by omega, hR]
      rfl
  · have e : cgap 0 (cfst b n - clast 0 a) = [] := by unfold cgap; rw [if_neg g]
    rw [e, List.nil_append, if_neg (by omega), show p - clast 0 a = 0 from by omega, hR]
    rfl
theorem ahd_crQ {a : List (Int × Int)} (ha : CrOk 0 a (clast 0 a)) (r : List I7) : ahd (crQ 0 a ++ r) (crQ 0 a).length = (crQ 0 a).length := by
  rcases crQ_tag a 0 ha with h0 | ⟨k, h5, h6⟩
  · rw [h0]; rfl
  · rw [h5, ahd, ith_appL (by omega), if_neg (by rw [h6]; decide)]
theorem ufst_is {a b : List (Int × Int)} {n p : Int} (ha : CrOk 0 a (clast 0 a)) (hb : CrOk (clast 0 a) b n) (h1 : clast 0 a ≤ p) (h2 : p ≤ cfst b n) :
    ufst (crP 0 (a ++ b) n) p = (crQ 0 a).length := by
  unfold ufst
  rw [wfnd_cut ha hb h1 h2, crP_app]
  by_cases q : p < cfst b n
  · rw [if_pos q, Nat.add_zero]
    exact ahd_crQ ha _
  · rw [if_neg q]
    by_cases g : 0 < cfst b n - clast 0 a
    · have e : cgap 0 (cfst b n - clast 0 a) = [cpc 0 (cfst b n - clast 0 a)] := by unfold cgap; rw [if_pos g]
      rw [e, List.length_singleton, ahd]
      have := ith_appR (crQ 0 a) (crP (clast 0 a) b n) 0
      rw [Nat.add_zero] at this
      rw [this, crP_R, e, List.singleton_append, show (ith (cpc 0 (cfst b n - clast 0 a) :: crR b n) 0).tag = 0 from rfl, if_pos rfl]
      exact ahd_crQ ha _
    · have e : cgap 0 (cfst b n - clast 0 a) = [] := by unfold cgap; rw [if_neg g]
      rw [e, List.length_nil, Nat.add_zero]
      exact ahd_crQ ha _
theorem ulst_is {a b : List (Int × Int)} {n p : Int} (ha : CrOk 0 a (clast 0 a)) (hb : CrOk (clast 0 a) b n) (h1 : clast 0 a ≤ p) (h2 : p ≤ cfst b n) :
    ulst (crP 0 (a ++ b) n) p = (crQ 0 a).length + (cgap 0 (cfst b n - clast 0 a)).length := by
  unfold ulst
  rw [wfnd_cut ha hb h1 h2, crP_app, crP_R]
  have hR := (crR_lead hb).1
  by_cases q : p < cfst b n
  · have e : cgap 0 (cfst b n - clast 0 a) = [cpc 0 (cfst b n - clast 0 a)] := by unfold cgap; rw [if_pos (by omega)]
    rw [if_pos q, Nat.add_zero, List.drop_left, e, List.singleton_append, lead, show (cpc 0 (cfst b n - clast 0 a)).tag = 0 from rfl, if_pos rfl, hR]
    rfl
  · rw [if_neg q, ← List.length_append, ← List.append_assoc, List.drop_left, hR, Nat.add_zero]
theorem uhead {a b : List (Int × Int)} {n : Int} (ha : CrOk 0 a (clast 0 a)) : (crP 0 (a ++ b) n).take (crQ 0 a).length = crQ 0 a ∧ wdsum 0 (crQ 0 a) = clast 0 a := by
  have hs := crQ_sum a 0 ha
  rw [Int.sub_zero] at hs
  rw [crP_app, List.take_left]
  exact ⟨rfl, hs⟩
theorem utail {a b : List (Int × Int)} {n : Int} (ha : CrOk 0 a (clast 0 a)) (hb : CrOk (clast 0 a) b n) :
    (crP 0 (a ++ b) n).drop ((crQ 0 a).length + (cgap 0 (cfst b n - clast 0 a)).length) = crR b n ∧ wdsum 0 ((crP 0 (a ++ b) n).take ((crQ 0 a).length + (cgap 0 (cfst b n - clast 0 a)).length)) = cfst b n := by
  have hs := crQ_sum a 0 ha
  rw [Int.sub_zero] at hs
  have hf := hb.fst
  rw [crP_app, crP_R, ← List.length_append, ← List.append_assoc, List.drop_left, List.take_left, wdsum_append, hs]
  refine ⟨rfl, ?_⟩
  unfold cgap
  split
  · show clast 0 a + (cfst b n - clast 0 a + 0) = cfst b n
    omega
  · show clast 0 a + 0 = cfst b n
    omega
/-- What Update leaves, by the spans. -/
theorem uitems_is {a b c d L2 : List (Int × Int)} {n f t f' t' : Int} (e : a ++ b = c ++ d) (ha : CrOk 0 a (clast 0 a)) (hb : CrOk (clast 0 a) b n) (h1 : clast 0 a ≤ f) (h2 : f ≤ cfst b n) (hc : CrOk 0 c (clast 0 c)) (hd : CrOk (clast 0 c) d n) (h3 : clast 0 c ≤ t) (h4 : t ≤ cfst d n) :
    uitems (crP 0 (a ++ b) n) L2 f t f' t' = crQ 0 a ++ crP (clast 0 a) (L2.filter fun y => !outs f' t' y) (cfst d n - t + t') ++ crR d n := by
  unfold uitems
  rw [ufst_is ha hb h1 h2, (uhead ha).1, (uhead (b := b) (n := n) ha).2, e, ulst_is hc hd h3 h4, (utail hc hd).1, (utail hc hd).2]
set_option linter.unusedVariables false
/-- Spans moved. -/
def mvS (d : Int) (l : List (Int × Int)) : List (Int × Int) := l.map fun x => (x.1 + d, x.2 + d)
theorem crP_mv (d : Int) : ∀ (l : List (Int × Int)) (f t : Int), crP (f + d) (mvS d l) (t + d) = crP f l t
  | [], f, t => by
    show crP (f + d) [] (t + d) = _
    rw [crP_nil, crP_nil, show t + d - (f + d) = t - f from by omega]
  | x :: l, f, t => by
    have e : mvS d (x :: l) = (x.1 + d, x.2 + d) :: mvS d l := rfl
    rw [e, crP_cons, crP_cons]
    simp only
    rw [crP_mv d l x.2 t, show x.1 + d - (f + d) = x.1 - f from by omega, show x.2 + d - (x.1 + d) = x.2 - x.1 from by omega]
theorem crR_mv (d : Int) (l : List (Int × Int)) (t : Int) : crR (mvS d l) (t + d) = crR l t := by
  cases l with
  | nil => rfl
  | cons x l =>
    have e : mvS d (x :: l) = (x.1 + d, x.2 + d) :: mvS d l := rfl
    rw [e]
    show cgap 1 (x.2 + d - (x.1 + d)) ++ crP (x.2 + d) (mvS d l) (t + d) = cgap 1 (x.2 - x.1) ++ crP x.2 l t
    rw [crP_mv, show x.2 + d - (x.1 + d) = x.2 - x.1 from by omega]
theorem cfst_mv (d : Int) (l : List (Int × Int)) (t : Int) : cfst (mvS d l) (t + d) = cfst l t + d := by
  cases l with
  | nil => rfl
  | cons x l => rfl
/-- A head, a middle and a moved tail are the items of all spans. -/
theorem uitems_new {a m d : List (Int × Int)} {n t t' : Int} : crQ 0 a ++ crP (clast 0 a) m (cfst d n - t + t') ++ crR d n = crP 0 (a ++ m ++ mvS (t' - t) d) (n - t + t') := by
  have e1 : n - t + t' = n + (t' - t) := by omega
  have e2 : cfst d n - t + t' = cfst d n + (t' - t) := by omega
  rw [e1, e2, List.append_assoc a, crP_app, crP_app m, crP_R (clast (clast 0 a) m), crR_mv, cfst_mv, List.append_assoc]
  congr 1
  rw [← List.append_assoc]
  congr 1
set_option linter.unusedVariables false
def fLo (p : Int) (l : List (Int × Int)) : List (Int × Int) := l.filter fun x => decide (x.2 ≤ p)
def fMi (p q : Int) (l : List (Int × Int)) : List (Int × Int) := l.filter fun x => !outs p q x
def fHi (q : Int) (l : List (Int × Int)) : List (Int × Int) := l.filter fun x => decide (q ≤ x.1)
theorem cr_ge : ∀ (l : List (Int × Int)) (f t : Int), CrOk f l t → ∀ x ∈ l, f ≤ x.1 ∧ x.1 < x.2
  | y :: l, f, t, h, x, hx => by
    obtain ⟨h1, h2, h3⟩ := h
    rcases List.mem_cons.1 hx with rfl | hx
    · exact ⟨h1, h2⟩
    · have := cr_ge l y.2 t h3 x hx; omega
theorem part3 (p q : Int) (hpq : p ≤ q) : ∀ (l : List (Int × Int)) (f t : Int), CrOk f l t → acr l p = false → acr l q = false → l = fLo p l ++ fMi p q l ++ fHi q l
  | [], _, _, _, _, _ => rfl
  | x :: l, f, t, h, hp, hq => by
    obtain ⟨h1, h2, h3⟩ := h
    unfold acr at hp hq
    rw [List.any_cons, Bool.or_eq_false_iff] at hp hq
    have xp := of_decide_eq_false hp.1
    have xq := of_decide_eq_false hq.1
    have ih := part3 p q hpq l x.2 t h3 hp.2 hq.2
    have hge := cr_ge l x.2 t h3
    by_cases g1 : x.2 ≤ p
    · have e1 : fLo p (x :: l) = x :: fLo p l := List.filter_cons_of_pos (by exact decide_eq_true g1)
      have e2 : fMi p q (x :: l) = fMi p q l := List.filter_cons_of_neg (by unfold outs; rw [decide_eq_true (.inl (by omega))]; simp)
      have e3 : fHi q (x :: l) = fHi q l := List.filter_cons_of_neg (by simp; omega)
      rw [e1, e2, e3, List.cons_append, List.cons_append, ← ih]
    · have z1 : fLo p l = [] := filter_none fun y hy => decide_eq_false (by have := hge y hy; omega)
      have e1 : fLo p (x :: l) = [] := (List.filter_cons_of_neg (by simp; omega)).trans z1
      rw [z1, List.nil_append] at ih
      by_cases g2 : x.2 ≤ q
      · have e2 : fMi p q (x :: l) = x :: fMi p q l := List.filter_cons_of_pos (by unfold outs; rw [decide_eq_false (by omega)]; rfl)
        have e3 : fHi q (x :: l) = fHi q l := List.filter_cons_of_neg (by simp; omega)
        rw [e1, e2, e3, List.nil_append, List.cons_append, ← ih]
      · have z2 : fMi p q l = [] := filter_none fun y hy => by unfold outs; rw [decide_eq_true (.inr (by have := hge y hy; omega))]; rfl
        have e2 : fMi p q (x :: l) = [] := (List.filter_cons_of_neg (by unfold outs; rw [decide_eq_true (.inr (by omega))]; simp)).trans z2
        have e3 : fHi q (x :: l) = x :: fHi q l := List.filter_cons_of_pos (by exact decide_eq_true (by omega))
        rw [z2, List.nil_append] at ih
        rw [e1, e2, e3, List.nil_append, List.nil_append, ← ih]
theorem clast_ge : ∀ (a : List (Int × Int)) (f : Int), CrOk f a (clast f a) → ∀ x ∈ a, x.2 ≤ clast f a
  | y :: a, f, h, x, hx => by
    obtain ⟨h1, h2, h3⟩ := h
    rcases List.mem_cons.1 hx with rfl | hx
    · exact h3.le
    · exact clast_ge a y.2 h3 x hx
theorem cfst_ge {b : List (Int × Int)} {c t : Int} (h : CrOk c b t) : ∀ x ∈ b, cfst b t ≤ x.1 ∧ x.1 < x.2 := by
  cases b with
  | nil => intro x hx; cases hx
  | cons y b =>
    obtain ⟨h1, h2, h3⟩ := h
    intro x hx
    show y.1 ≤ x.1 ∧ x.1 < x.2
    rcases List.mem_cons.1 hx with rfl | hx
    · omega
    · have := cr_ge b y.2 t h3 x hx; omega
theorem cut_lo {a b : List (Int × Int)} {n p : Int} (ha : CrOk 0 a (clast 0 a)) (hb : CrOk (clast 0 a) b n) (h1 : clast 0 a ≤ p) (h2 : p ≤ cfst b n) : fLo p (a ++ b) = a ∧ fHi p (a ++ b) = b := by
  unfold fLo fHi
  rw [List.filter_append, List.filter_append, filter_all (l := a) (fun x hx => decide_eq_true (by have := clast_ge a 0 ha x hx; omega)), filter_none (l := b) (fun x hx => decide_eq_false (by have := cfst_ge hb x hx; omega)), List.append_nil, filter_none (l := a) (fun x hx => decide_eq_false (by have := clast_ge a 0 ha x hx; have := cr_ge a 0 _ ha x hx; omega)), filter_all (l := b) (fun x hx => decide_eq_true (by have := cfst_ge hb x hx; omega)), List.nil_append]
  exact ⟨rfl, rfl⟩
/-- What the law holds against each other. -/
def outX (f t : Int) (l : List (Int × Int)) : List (Int × Int) := l.filter fun x => decide (x.2 ≤ f ∨ t ≤ x.1)
def outY (f t g : Int) : List (Int × Int) → List (Int × Int)
  | [] => []
  | x :: l => if x.2 ≤ f then x :: outY f t g l else if t ≤ x.1 then (x.1 - g, x.2 - g) :: outY f t g l else outY f t g l
theorem outY_app (f t g : Int) : ∀ a b : List (Int × Int), outY f t g (a ++ b) = outY f t g a ++ outY f t g b
  | [], b => rfl
  | x :: a, b => by
    rw [List.cons_append, outY, outY, outY_app f t g a b]
    split
    · rfl
    · split <;> rfl
theorem outY_snoc (f t g : Int) (l : List (Int × Int)) (x : Int × Int) : outY f t g (l ++ [x]) = outY f t g l ++ (if x.2 ≤ f then [x] else if t ≤ x.1 then [(x.1 - g, x.2 - g)] else []) := by
  rw [outY_app]
  rfl
theorem mvS_neg (g : Int) (l : List (Int × Int)) : mvS g (mvS (-g) l) = l := by
  unfold mvS
  rw [List.map_map]
  conv => rhs; rw [← List.map_id l]
  refine List.map_congr_left fun x _ => ?_
  show (x.1 + -g + g, x.2 + -g + g) = x
  rw [show x.1 + -g + g = x.1 from by omega, show x.2 + -g + g = x.2 from by omega]
set_option linter.unusedVariables false
theorem fLo_mem {p : Int} {l : List (Int × Int)} {x : Int × Int} (h : x ∈ fLo p l) : x ∈ l ∧ x.2 ≤ p := by
  obtain ⟨h1, h2⟩ := List.mem_filter.1 h
  exact ⟨h1, of_decide_eq_true h2⟩
theorem fHi_mem {q : Int} {l : List (Int × Int)} {x : Int × Int} (h : x ∈ fHi q l) : x ∈ l ∧ q ≤ x.1 := by
  obtain ⟨h1, h2⟩ := List.mem_filter.1 h
  exact ⟨h1, of_decide_eq_true h2⟩
theorem fMi_mem {p q : Int} {l : List (Int × Int)} {x : Int × Int} (h : x ∈ fMi p q l) : x ∈ l ∧ p ≤ x.1 ∧ x.2 ≤ q := by
  obtain ⟨h1, h2⟩ := List.mem_filter.1 h
  refine ⟨h1, ?_⟩
  unfold outs at h2
  by_cases g : x.1 < p ∨ q < x.2
  · rw [decide_eq_true g] at h2; cases h2
  · omega
theorem outX_is {L : List (Int × Int)} {n f t : Int} (h : CrOk 0 L n) (hft : f ≤ t) (a1 : acr L f = false) (a2 : acr L t = false) : outX f t L = fLo f L ++ fHi t L := by
  have hge := cr_ge L 0 n h
  have e := part3 f t hft L 0 n h a1 a2
  have e0 : outX f t L = outX f t (fLo f L ++ fMi f t L ++ fHi t L) := by rw [← e]
  rw [e0]
  unfold outX
  rw [List.filter_append, List.filter_append, filter_all (l := fLo f L) (fun x hx => decide_eq_true (.inl (fLo_mem hx).2)), filter_none (l := fMi f t L) (fun x hx => decide_eq_false (by have := fMi_mem hx; have := hge x this.1; omega)), filter_all (l := fHi t L) (fun x hx => decide_eq_true (.inr (fHi_mem hx).2)), List.append_nil]
theorem outY_lo (f t g : Int) : ∀ l : List (Int × Int), (∀ x ∈ l, x.2 ≤ f) → outY f t g l = l
  | [], _ => rfl
  | x :: l, h => by rw [outY, if_pos (h x (by simp)), outY_lo f t g l (fun y hy => h y (List.mem_cons_of_mem _ hy))]
theorem outY_mi (f t g : Int) : ∀ l : List (Int × Int), (∀ x ∈ l, ¬ x.2 ≤ f ∧ ¬ t ≤ x.1) → outY f t g l = []
  | [], _ => rfl
  | x :: l, h => by rw [outY, if_neg (h x (by simp)).1, if_neg (h x (by simp)).2, outY_mi f t g l (fun y hy => h y (List.mem_cons_of_mem _ hy))]
theorem outY_hi (f t g : Int) : ∀ l : List (Int × Int), (∀ x ∈ l, ¬ x.2 ≤ f ∧ t ≤ x.1) → outY f t g l = mvS (-g) l
  | [], _ => rfl
  | x :: l, h => by rw [outY, if_neg (h x (by simp)).1, if_pos (h x (by simp)).2, outY_hi f t g l (fun y hy => h y (List.mem_cons_of_mem _ hy))]; rfl
theorem outY_is {L : List (Int × Int)} {n f t : Int} (g : Int) (h : CrOk 0 L n) (hft : f ≤ t) (a1 : acr L f = false) (a2 : acr L t = false) : outY f t g L = fLo f L ++ mvS (-g) (fHi t L) := by
  have hge := cr_ge L 0 n h
  have e := part3 f t hft L 0 n h a1 a2
  have e0 : outY f t g L = outY f t g (fLo f L ++ fMi f t L ++ fHi t L) := by rw [← e]
  rw [e0, outY_app, outY_app, outY_lo f t g (fLo f L) (fun x hx => (fLo_mem hx).2), outY_mi f t g (fMi f t L) (fun x hx => by have := fMi_mem hx; have := hge x this.1; omega), outY_hi f t g (fHi t L) (fun x hx => by have := fHi_mem hx; have := hge x this.1; omega), List.append_nil]
/-- Where the law's two lists are one, what Update leaves is the new spans' items. -/
theorem upd_is {L L2 : List (Int × Int)} {n1 n2 f t f' t' : Int} (h : CrOk 0 L n1) (h2 : CrOk 0 L2 n2) (s1 : 0 ≤ f ∧ f ≤ t ∧ t ≤ n1) (s2 : 0 ≤ f' ∧ f' ≤ t' ∧ t' ≤ n2) (e1 : f = f') (e2 : n1 - t = n2 - t') (a1 : acr L f = false) (a2 : acr L t = false) (a3 : acr L2 f' = false) (a4 : acr L2 t' = false)
    (ho : outX f t L = outY f' t' (t' - t) L2) : uitems (crP 0 L n1) L2 f t f' t' = crP 0 L2 n2 := by
  subst e1
  have hge := cr_ge L 0 n1 h
  have hge2 := cr_ge L2 0 n2 h2
  have hp3 := part3 f t' s2.2.1 L2 0 n2 h2 a3 a4
  rw [outX_is h s1.2.1 a1 a2, outY_is (t' - t) h2 s2.2.1 a3 a4] at ho
  have k1 : ∀ l : List (Int × Int), fLo f (fLo f l) = fLo f l := fun l => filter_all fun x hx => decide_eq_true (fLo_mem hx).2
  have k2 : fLo f (fHi t L) = [] := filter_none fun x hx => decide_eq_false (by have := fHi_mem hx; have := hge x this.1; omega)
  have k3 : fLo f (mvS (-(t' - t)) (fHi t' L2)) = [] := filter_none fun x hx => by
    unfold mvS at hx
    obtain ⟨y, hy, rfl⟩ := List.mem_map.1 hx
    refine decide_eq_false ?_
    have := fHi_mem hy
    have := hge2 y this.1
    simp only
    omega
  have happ : ∀ a b : List (Int × Int), fLo f (a ++ b) = fLo f a ++ fLo f b := fun a b => List.filter_append ..
  have hlo : fLo f L = fLo f L2 := by
    have := congrArg (fLo f) ho
    rw [happ, happ, k1, k1, k2, k3, List.append_nil, List.append_nil] at this
    exact this
  have hhi : mvS (t' - t) (fHi t L) = fHi t' L2 := by
    rw [hlo] at ho
    rw [List.append_cancel_left ho, mvS_neg]
  obtain ⟨a, b, ea, p1, p2, pa, pb⟩ := acr_cut L 0 n1 f h s1.1 a1
  obtain ⟨c, d, ec, q1, q2, qc, qd⟩ := acr_cut L 0 n1 t h (by omega) a2
  have p2' : f ≤ cfst b n1 := by omega
  have q2' : t ≤ cfst d n1 := by omega
  have ea' : fLo f L = a := by rw [ea]; exact (cut_lo pa pb p1 p2').1
  have ed' : fHi t L = d := by rw [ec]; exact (cut_lo qc qd q1 q2').2
  have ht := uitems_is (L2 := L2) (f' := f) (t' := t') (ea.symm.trans ec) pa pb p1 p2' qc qd q1 q2'
  rw [← ea] at ht
  rw [ht, uitems_new, ← ea', ← ed', hlo, hhi, show n1 - t + t' = n2 from by omega]
  have e3 : (L2.filter fun y => !outs f t' y) = fMi f t' L2 := rfl
  rw [e3, ← hp3]
end Go.Proofs.YtjkmkobnfhepaaaGreat
