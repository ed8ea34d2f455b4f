/- Creases: plain facts of Out and In: the program's and the document's are one. Creases: plain facts: In, and behind it Out; Out, and behind it In; places rise. -/
import Derived.Test.YtjkmkobnfhepaaaGreatCrE
namespace Go.Proofs.YtjkmkobnfhepaaaGreat
set_option linter.unusedVariables false
theorem coutP_nil (v : Int) : coutP [] v = v := by
  unfold coutP
  simp [wfnd, ith, wdsum]
  intro h; exact absurd h (by decide)
theorem cinP_nil (v : Int) : cinP [] v = v := by
  unfold cinP
  simp [wfnd, ith, wdsum]
  intro h; exact absurd h (by decide)
theorem ith_succ9 (i : I7) (l : List I7) (k : Nat) : ith (i :: l) (k + 1) = ith l k := by simp [ith, List.getD]
theorem wd0 (i : I7) : wdz 0 i = i.d0 := rfl
theorem wd1 (i : I7) : wdz 1 i = i.d1 := rfl
theorem coutP_cons (i : I7) (l : List I7) (v : Int) : coutP (i :: l) v = if v < i.d0 then (if i.tag = 1 then 0 else v) else i.d1 + coutP l (v - i.d0) := by
  by_cases h : v < i.d0
  · have e : wfnd 0 (i :: l) v 1 = 0 := by unfold wfnd; rw [if_pos (.inl h)]
    rw [if_pos h]
    unfold coutP
    rw [e]
    have e2 : ith (i :: l) 0 = i := rfl
    have e3 : wdsum 1 ((i :: l).take 0) = 0 := rfl
    have e4 : wdsum 0 ((i :: l).take 0) = 0 := rfl
    rw [e2, e3, e4]
    split <;> omega
  · have e : wfnd 0 (i :: l) v 1 = wfnd 0 l (v - i.d0) 1 + 1 := by
      rw [wfnd, wd0, if_neg (by omega)]
    rw [if_neg h]
    unfold coutP
    rw [e, ith_succ9, List.take_succ_cons]
    have e3 : ∀ k, wdsum 1 (i :: l.take k) = i.d1 + wdsum 1 (l.take k) := fun k => rfl
    have e4 : ∀ k, wdsum 0 (i :: l.take k) = i.d0 + wdsum 0 (l.take k) := fun k => rfl
    rw [e3, e4]
    split <;> omega
theorem cinP_cons (i : I7) (l : List I7) (v : Int) : cinP (i :: l) v = if v ≤ i.d1 then (if i.tag = 1 ∧ 0 < v then i.d0 else v) else i.d0 + cinP l (v - i.d1) := by
  by_cases h : v ≤ i.d1
  · have e : wfnd 1 (i :: l) v 0 = 0 := by rw [wfnd, wd1, if_pos (by omega)]
    rw [if_pos h]
    unfold cinP
    rw [e]
    have e2 : ith (i :: l) 0 = i := rfl
    have e3 : wdsum 1 ((i :: l).take 0) = 0 := rfl
    have e4 : wdsum 0 ((i :: l).take 0) = 0 := rfl
    rw [e2, e3, e4, Int.sub_zero, Int.zero_add, Int.zero_add]
  · have e : wfnd 1 (i :: l) v 0 = wfnd 1 l (v - i.d1) 0 + 1 := by
      rw [wfnd, wd1, if_neg (by omega)]
    rw [if_neg h]
    unfold cinP
    rw [e, ith_succ9, List.take_succ_cons]
    have e3 : ∀ k, wdsum 1 (i :: l.take k) = i.d1 + wdsum 1 (l.take k) := fun k => rfl
    have e4 : ∀ k, wdsum 0 (i :: l.take k) = i.d0 + wdsum 0 (l.take k) := fun k => rfl
    rw [e3, e4, show v - (i.d1 + wdsum 1 (l.take (wfnd 1 l (v - i.d1) 0))) = v - i.d1 - wdsum 1 (l.take (wfnd 1 l (v - i.d1) 0)) from by omega]
    split <;> omega
theorem coutP_gap0 (g : Int) (R : List I7) (v : Int) (hg : 0 ≤ g) (hv : 0 ≤ v) : coutP (cgap 0 g ++ R) v = if v < g then v else g + coutP R (v - g) := by
  unfold cgap
  by_cases h : 0 < g
  · rw [if_pos h, List.singleton_append, coutP_cons]
    simp [cpc]
  · rw [if_neg h, List.nil_append, if_neg (by omega), show g = 0 from by omega, Int.sub_zero, Int.zero_add]
theorem coutP_gap1 (g : Int) (R : List I7) (v : Int) (hg : 0 < g) : coutP (cgap 1 g ++ R) v = if v < g then 0 else 1 + coutP R (v - g) := by
  unfold cgap
  rw [if_pos hg, List.singleton_append, coutP_cons]
  simp [cpc]
theorem cinP_gap0 (g : Int) (R : List I7) (v : Int) (hg : 0 ≤ g) (hv : 0 ≤ v) (h0 : cinP R 0 = 0) : cinP (cgap 0 g ++ R) v = if v ≤ g then v else g + cinP R (v - g) := by
  unfold cgap
  by_cases h : 0 < g
  · rw [if_pos h, List.singleton_append, cinP_cons]
    simp [cpc]
  · rw [if_neg h, List.nil_append]
    obtain rfl : g = 0 := by omega
    by_cases h2 : v ≤ 0
    · rw [if_pos h2, show v = 0 from by omega, h0]
    · rw [if_neg h2, Int.sub_zero, Int.zero_add]
theorem cinP_gap1 (g : Int) (R : List I7) (v : Int) (hg : 0 < g) (hv : 0 ≤ v) (h0 : cinP R 0 = 0) : cinP (cgap 1 g ++ R) v = if v = 0 then 0 else g + cinP R (v - 1) := by
  unfold cgap
  rw [if_pos hg, List.singleton_append, cinP_cons]
  have e1 : (cpc 1 g).d1 = 1 := rfl
  have e2 : (cpc 1 g).d0 = g := rfl
  have e3 : (cpc 1 g).tag = 1 := rfl
  rw [e1, e2, e3]
  by_cases h : v = 0
  · subst h; simp
  · by_cases h2 : v = 1
    · subst h2; simp [h0]
    · rw [if_neg (by omega), if_neg h]
/-- Where the runes of the creased text begin, and its end. -/
def dpl (S : List Int) (t : Int) (v : Nat) : Int := (S ++ [t]).getD v 0
theorem dpl_rng : ∀ (k : Nat) (f : Int) (S : List Int) (t : Int) (v : Nat), dpl (rng f k ++ S) t v = if v < k then f + v else dpl S t (v - k)
  | 0, f, S, t, v => by simp [rng]
  | k + 1, f, S, t, 0 => by simp [rng, dpl]
  | k + 1, f, S, t, v + 1 => by
    have := dpl_rng k (f + 1) S t v
    have e : dpl (rng f (k + 1) ++ S) t (v + 1) = dpl (rng (f + 1) k ++ S) t v := by simp [rng, dpl]
    rw [e, this, show v + 1 - (k + 1) = v - k from by omega]
    by_cases h : v < k
    · rw [if_pos h, if_pos (by omega)]; omega
    · rw [if_neg h, if_neg (by omega)]
theorem dpl_cons (p : Int) (S : List Int) (t : Int) (v : Nat) : dpl (p :: S) t v = if v = 0 then p else dpl S t (v - 1) := by
  cases v with
  | zero => simp [dpl]
  | succ v => simp [dpl]
theorem dpl_head : ∀ (l : List (Int × Int)) (f t : Int), CrOk f l t → dpl (cst f l t) t 0 = f
  | [], f, t, h => by
    unfold CrOk at h
    unfold cst
    have := dpl_rng (t - f).toNat f [] t 0
    rw [List.append_nil] at this
    rw [this]
    split
    · omega
    · show ([] ++ [t]).getD _ 0 = f
      rw [show 0 - (t - f).toNat = 0 from by omega]
      simp
      omega
  | x :: l, f, t, h => by
    obtain ⟨h1, h2, h3⟩ := h
    unfold cst
    rw [dpl_rng, dpl_cons]
    split
    · omega
    · rw [if_pos (by omega)]; omega
theorem cinP_doc : ∀ (l : List (Int × Int)) (f t : Int) (v : Nat), CrOk f l t → v ≤ (cst f l t).length → cinP (crP f l t) v = dpl (cst f l t) t v - f
  | [], f, t, v, h, hv => by
    unfold CrOk at h
    rw [crP_nil]
    have := cinP_gap0 (t - f) [] v (by omega) (by omega) (cinP_nil 0)
    rw [List.append_nil, cinP_nil] at this
    unfold cst at hv ⊢
    rw [rng_len] at hv
    have e := dpl_rng (t - f).toNat f [] t v
    rw [List.append_nil] at e
    rw [this, if_pos (by omega), e]
    split
    · omega
    · rw [show v - (t - f).toNat = 0 from by omega]
      show (v : Int) = ([] ++ [t]).getD 0 0 - f
      simp
      omega
  | x :: l, f, t, v, h, hv => by
    obtain ⟨h1, h2, h3⟩ := h
    have hh := dpl_head l x.2 t h3
    have h0 : cinP (crP x.2 l t) 0 = 0 := by
      have := cinP_doc l x.2 t 0 h3 (by omega)
      rw [hh] at this
      have e : ((0 : Nat) : Int) = 0 := rfl
      rw [e] at this
      omega
    have h01 : cinP (cgap 1 (x.2 - x.1) ++ crP x.2 l t) 0 = 0 := by
      rw [cinP_gap1 _ _ _ (by omega) (by omega) h0, if_pos rfl]
    rw [crP_cons, cinP_gap0 _ _ _ (by omega) (by omega) h01]
    unfold cst at hv ⊢
    rw [List.length_append, rng_len, List.length_cons] at hv
    rw [dpl_rng, dpl_cons]
    by_cases q : (v : Int) ≤ x.1 - f
    · rw [if_pos q]
      split
      · omega
      · rw [if_pos (by omega)]; omega
    · have ih := cinP_doc l x.2 t (v - (x.1 - f).toNat - 1) h3 (by omega)
      rw [if_neg q, cinP_gap1 _ _ _ (by omega) (by omega) h0, if_neg (by omega), if_neg (by omega), if_neg (by omega), show (v : Int) - (x.1 - f) - 1 = ((v - (x.1 - f).toNat - 1 : Nat) : Int) from by omega, ih]
      omega
set_option linter.unusedVariables false
theorem ci_zero {l : List (Int × Int)} {f t : Int} (h : CrOk f l t) : cinP (crP f l t) 0 = 0 := by
  have := cinP_doc l f t 0 h (by omega)
  rw [dpl_head l f t h] at this
  have e : ((0 : Nat) : Int) = 0 := rfl
  rw [e] at this
  omega
theorem ci_step {x : Int × Int} {l : List (Int × Int)} {f t v : Int} (h : CrOk f (x :: l) t) (hv : 0 ≤ v) : cinP (crP f (x :: l) t) v = if v ≤ x.1 - f then v else x.2 - f + cinP (crP x.2 l t) (v - (x.1 - f) - 1) := by
  obtain ⟨h1, h2, h3⟩ := h
  have h0 := ci_zero h3
  have h01 : cinP (cgap 1 (x.2 - x.1) ++ crP x.2 l t) 0 = 0 := by
    rw [cinP_gap1 _ _ _ (by omega) (by omega) h0, if_pos rfl]
  rw [crP_cons, cinP_gap0 _ _ _ (by omega) hv h01]
  by_cases q : v ≤ x.1 - f
  · rw [if_pos q, if_pos q]
  · rw [if_neg q, if_neg q, cinP_gap1 _ _ _ (by omega) (by omega) h0, if_neg (by omega)]
    omega
theorem co_step {x : Int × Int} {l : List (Int × Int)} {f t a : Int} (h : CrOk f (x :: l) t) (ha : 0 ≤ a) : coutP (crP f (x :: l) t) a = if a ≤ x.1 - f then a else if a < x.2 - f then x.1 - f else x.1 - f + 1 + coutP (crP x.2 l t) (a - (x.2 - f)) := by
  obtain ⟨h1, h2, h3⟩ := h
  rw [crP_cons, coutP_gap0 _ _ _ (by omega) ha, coutP_gap1 _ _ _ (by omega)]
  by_cases q : a ≤ x.1 - f
  · rw [if_pos q]
    by_cases q2 : a < x.1 - f
    · rw [if_pos q2]
    · rw [if_neg q2, if_pos (by omega)]; omega
  · rw [if_neg q, if_neg (by omega)]
    by_cases q2 : a < x.2 - f
    · rw [if_pos q2, if_pos (by omega)]; omega
    · rw [if_neg q2, if_neg (by omega), show a - (x.1 - f) - (x.2 - x.1) = a - (x.2 - f) from by omega]; omega
theorem ci_nil {f t v : Int} (h : f ≤ t) (h0 : 0 ≤ v) (h1 : v ≤ t - f) : cinP (crP f [] t) v = v := by
  rw [crP_nil]
  have := cinP_gap0 (t - f) [] v (by omega) h0 (cinP_nil 0)
  rw [List.append_nil, if_pos h1] at this
  exact this
theorem co_nil {f t a : Int} (h : f ≤ t) (h0 : 0 ≤ a) : coutP (crP f [] t) a = a := by
  rw [crP_nil]
  have := coutP_gap0 (t - f) [] a (by omega) h0
  rw [List.append_nil, coutP_nil] at this
  rw [this]
  split <;> omega
/-- The beginning of what is hidden around a place, or the place. -/
def wnt (at_ : Int) : Int → List (Int × Int) → Int
  | acc, [] => acc
  | acc, x :: l => wnt at_ (if x.1 < at_ ∧ at_ < x.2 then x.1 else acc) l
theorem wnt_ahead (at_ : Int) : ∀ (l : List (Int × Int)) (f t acc : Int), CrOk f l t → at_ ≤ f → wnt at_ acc l = acc
  | [], _, _, _, _, _ => rfl
  | x :: l, f, t, acc, h, ha => by
    obtain ⟨h1, h2, h3⟩ := h
    rw [wnt, if_neg (by omega)]
    exact wnt_ahead at_ l x.2 t acc h3 (by omega)
theorem crn_pos : ∀ (l : List (Int × Int)) (f t : Int), CrOk f l t → 0 ≤ crn l ∧ 0 ≤ t - f - crn l
  | [], f, t, h => by unfold CrOk at h; unfold crn; omega
  | x :: l, f, t, h => by
    obtain ⟨h1, h2, h3⟩ := h
    have := crn_pos l x.2 t h3
    unfold crn
    omega
theorem cr_out_in : ∀ (l : List (Int × Int)) (f t a : Int), CrOk f l t → 0 ≤ a → a ≤ t - f → (0 ≤ coutP (crP f l t) a ∧ coutP (crP f l t) a ≤ t - f - crn l) ∧ cinP (crP f l t) (coutP (crP f l t) a) + f = wnt (a + f) (a + f) l
  | [], f, t, a, h, h0, h1 => by
    unfold CrOk at h
    rw [co_nil h h0, ci_nil h h0 h1]
    unfold crn wnt
    omega
  | x :: l, f, t, a, h, h0, h1 => by
    rw [co_step h h0]
    have h' := h
    obtain ⟨g1, g2, g3⟩ := h
    have hp := crn_pos l x.2 t g3
    unfold crn
    rw [wnt]
    by_cases q : a ≤ x.1 - f
    · rw [if_pos q, ci_step h' h0, if_pos q, if_neg (by omega), wnt_ahead (a + f) l x.2 t _ g3 (by omega)]
      omega
    · rw [if_neg q]
      by_cases q2 : a < x.2 - f
      · rw [if_pos q2, ci_step h' (by omega), if_pos (by omega), if_pos (by omega), wnt_ahead (a + f) l x.2 t _ g3 (by omega)]
        omega
      · have ih := cr_out_in l x.2 t (a - (x.2 - f)) g3 (by omega) (by omega)
        rw [show a - (x.2 - f) + x.2 = a + f from by omega] at ih
        rw [if_neg q2, ci_step h' (by omega), if_neg (by omega), if_neg (by omega), show x.1 - f + 1 + coutP (crP x.2 l t) (a - (x.2 - f)) - (x.1 - f) - 1 = coutP (crP x.2 l t) (a - (x.2 - f)) from by omega, ← ih.2]
        omega
end Go.Proofs.YtjkmkobnfhepaaaGreat
