/- Creases: plain facts: In, and behind it Out; Out, and behind it In; places rise. -/
import Derived.Test.YtdpmimlhchghlaaGreatCrQ
namespace Go.Proofs.YtdpmimlhchghlaaGreat
set_option linter.unusedVariables false
theorem ci_zero {l : List (Int × Int)} {f t : Int} (h : CrOk f l t) : cinP (crP f l t) 0 = 0 := by
  have := cinP_doc l f t 0 h (by omega)
  rw [dpl_head l f t h] at this
  have e : ((0 : Nat) : Int) = 0 := rfl
  rw [e] at this
  omega
theorem ci_step {x : Int × Int} {l : List (Int × Int)} {f t v : Int} (h : CrOk f (x :: l) t) (hv : 0 ≤ v) : cinP (crP f (x :: l) t) v = if v ≤ x.1 - f then v else x.2 - f + cinP (crP x.2 l t) (v - (x.1 - f) - 1) := by
  obtain ⟨h1, h2, h3⟩ := h
  have h0 := ci_zero h3
  have h01 : cinP (cgap 1 (x.2 - x.1) ++ crP x.2 l t) 0 = 0 := by
    rw [cinP_gap1 _ _ _ (by omega) (by omega) h0, if_pos rfl]
  rw [crP_cons, cinP_gap0 _ _ _ (by omega) hv h01]
  by_cases q : v ≤ x.1 - f
  · rw [if_pos q, if_pos q]
  · rw [if_neg q, if_neg q, cinP_gap1 _ _ _ (by omega) (by omega) h0, if_neg (by omega)]
    omega
theorem co_step {x : Int × Int} {l : List (Int × Int)} {f t a : Int} (h : CrOk f (x :: l) t) (ha : 0 ≤ a) : coutP (crP f (x :: l) t) a = if a ≤ x.1 - f then a else if a < x.2 - f then x.1 - f else x.1 - f + 1 + coutP (crP x.2 l t) (a - (x.2 - f)) := by
  obtain ⟨h1, h2, h3⟩ := h
  rw [crP_cons, coutP_gap0 _ _ _ (by omega) ha, coutP_gap1 _ _ _ (by omega)]
  by_cases q : a ≤ x.1 - f
  · rw [if_pos q]
    by_cases q2 : a < x.1 - f
    · rw [if_pos q2]
    · rw [if_neg q2, if_pos (by omega)]; omega
  · rw [if_neg q, if_neg (by omega)]
    by_cases q2 : a < x.2 - f
    · rw [if_pos q2, if_pos (by omega)]; omega
    · rw [if_neg q2, if_neg (by omega), show a - (x.1 - f) - (x.2 - x.1) = a - (x.2 - f) from by omega]; omega
theorem ci_nil {f t v : Int} (h : f ≤ t) (h0 : 0 ≤ v) (h1 : v ≤ t - f) : cinP (crP f [] t) v = v := by
  rw [crP_nil]
  have := cinP_gap0 (t - f) [] v (by omega) h0 (cinP_nil 0)
  rw [List.append_nil, if_pos h1] at this
  exact this
theorem co_nil {f t a : Int} (h : f ≤ t) (h0 : 0 ≤ a) : coutP (crP f [] t) a = a := by
  rw [crP_nil]
  have := coutP_gap0 (t - f) [] a (by omega) h0
  rw [List.append_nil, coutP_nil] at this
  rw [this]
  split <;> omega
/-- The beginning of what is hidden around a place, or the place. -/
def wnt (at_ : Int) : Int → List (Int × Int) → Int
  | acc, [] => acc
  | acc, x :: l => wnt at_ (if x.1 < at_ ∧ at_ < x.2 then x.1 else acc) l
theorem wnt_ahead (at_ : Int) : ∀ (l : List (Int × Int)) (f t acc : Int), CrOk f l t → at_ ≤ f → wnt at_ acc l = acc
  | [], _, _, _, _, _ => rfl
  | x :: l, f, t, acc, h, ha => by
    obtain ⟨h1, h2, h3⟩ := h
    rw [wnt, if_neg (by omega)]
    exact wnt_ahead at_ l x.2 t acc h3 (by omega)
theorem wnt_snoc (at_ : Int) : ∀ (l : List (Int × Int)) (acc : Int) (x : Int × Int), wnt at_ acc (l ++ [x]) = if x.1 < at_ ∧ at_ < x.2 then x.1 else wnt at_ acc l
  | [], acc, x => rfl
  | y :: l, acc, x => by
    rw [List.cons_append, wnt, wnt_snoc at_ l _ x, wnt]
theorem crn_pos : ∀ (l : List (Int × Int)) (f t : Int), CrOk f l t → 0 ≤ crn l ∧ 0 ≤ t - f - crn l
  | [], f, t, h => by unfold CrOk at h; unfold crn; omega
  | x :: l, f, t, h => by
    obtain ⟨h1, h2, h3⟩ := h
    have := crn_pos l x.2 t h3
    unfold crn
    omega
theorem cr_in_out : ∀ (l : List (Int × Int)) (f t v : Int), CrOk f l t → 0 ≤ v → v ≤ t - f - crn l → (0 ≤ cinP (crP f l t) v ∧ cinP (crP f l t) v ≤ t - f) ∧ coutP (crP f l t) (cinP (crP f l t) v) = v
  | [], f, t, v, h, h0, h1 => by
    unfold CrOk at h
    unfold crn at h1
    rw [ci_nil h h0 (by omega), co_nil h h0]
    omega
  | x :: l, f, t, v, h, h0, h1 => by
    rw [ci_step h h0]
    obtain ⟨g1, g2, g3⟩ := h
    have hle := g3.le
    by_cases q : v ≤ x.1 - f
    · rw [if_pos q, co_step ⟨g1, g2, g3⟩ h0, if_pos q]
      omega
    · unfold crn at h1
      have ih := cr_in_out l x.2 t (v - (x.1 - f) - 1) g3 (by omega) (by omega)
      rw [if_neg q, co_step ⟨g1, g2, g3⟩ (by omega), if_neg (by omega), if_neg (by omega), show x.2 - f + cinP (crP x.2 l t) (v - (x.1 - f) - 1) - (x.2 - f) = cinP (crP x.2 l t) (v - (x.1 - f) - 1) from by omega, ih.2]
      omega
theorem ci_end : ∀ (l : List (Int × Int)) (f t : Int), CrOk f l t → cinP (crP f l t) (t - f - crn l) = t - f
  | [], f, t, h => by
    unfold CrOk at h
    unfold crn
    rw [ci_nil h (by omega) (by omega)]
    omega
  | x :: l, f, t, h => by
    have hp := (crn_pos _ _ _ h).2
    rw [ci_step h hp]
    obtain ⟨g1, g2, g3⟩ := h
    have h2 := crn_pos l x.2 t g3
    have ih := ci_end l x.2 t g3
    unfold crn at hp ⊢
    rw [if_neg (by omega), show t - f - (x.2 - x.1 - 1 + crn l) - (x.1 - f) - 1 = t - x.2 - crn l from by omega, ih]
    omega
theorem ci_lt : ∀ (l : List (Int × Int)) (f t v : Int), CrOk f l t → 0 ≤ v → v + 1 ≤ t - f - crn l → cinP (crP f l t) v < cinP (crP f l t) (v + 1)
  | [], f, t, v, h, h0, h1 => by
    unfold CrOk at h
    unfold crn at h1
    rw [ci_nil h h0 (by omega), ci_nil h (by omega) (by omega)]
    omega
  | x :: l, f, t, v, h, h0, h1 => by
    rw [ci_step h h0, ci_step h (by omega)]
    obtain ⟨g1, g2, g3⟩ := h
    unfold crn at h1
    by_cases q : v + 1 ≤ x.1 - f
    · rw [if_pos (by omega), if_pos q]; omega
    · by_cases q2 : v ≤ x.1 - f
      · rw [if_pos q2, if_neg q, show v + 1 - (x.1 - f) - 1 = 0 from by omega, ci_zero g3]; omega
      · have ih := ci_lt l x.2 t (v - (x.1 - f) - 1) g3 (by omega) (by omega)
        rw [if_neg q2, if_neg q, show v + 1 - (x.1 - f) - 1 = v - (x.1 - f) - 1 + 1 from by omega]; omega
theorem cr_out_in : ∀ (l : List (Int × Int)) (f t a : Int), CrOk f l t → 0 ≤ a → a ≤ t - f → (0 ≤ coutP (crP f l t) a ∧ coutP (crP f l t) a ≤ t - f - crn l) ∧ cinP (crP f l t) (coutP (crP f l t) a) + f = wnt (a + f) (a + f) l
  | [], f, t, a, h, h0, h1 => by
    unfold CrOk at h
    rw [co_nil h h0, ci_nil h h0 h1]
    unfold crn wnt
    omega
  | x :: l, f, t, a, h, h0, h1 => by
    rw [co_step h h0]
    have h' := h
    obtain ⟨g1, g2, g3⟩ := h
    have hp := crn_pos l x.2 t g3
    unfold crn
    rw [wnt]
    by_cases q : a ≤ x.1 - f
    · rw [if_pos q, ci_step h' h0, if_pos q, if_neg (by omega), wnt_ahead (a + f) l x.2 t _ g3 (by omega)]
      omega
    · rw [if_neg q]
      by_cases q2 : a < x.2 - f
      · rw [if_pos q2, ci_step h' (by omega), if_pos (by omega), if_pos (by omega), wnt_ahead (a + f) l x.2 t _ g3 (by omega)]
        omega
      · have ih := cr_out_in l x.2 t (a - (x.2 - f)) g3 (by omega) (by omega)
        rw [show a - (x.2 - f) + x.2 = a + f from by omega] at ih
        rw [if_neg q2, ci_step h' (by omega), if_neg (by omega), if_neg (by omega), show x.1 - f + 1 + coutP (crP x.2 l t) (a - (x.2 - f)) - (x.1 - f) - 1 = coutP (crP x.2 l t) (a - (x.2 - f)) from by omega, ← ih.2]
        omega
theorem co_end : ∀ (l : List (Int × Int)) (f t : Int), CrOk f l t → coutP (crP f l t) (t - f) = t - f - crn l
  | [], f, t, h => by
    unfold CrOk at h
    unfold crn
    rw [co_nil h (by omega)]
    omega
  | x :: l, f, t, h => by
    have hle := h.le
    rw [co_step h (by omega)]
    obtain ⟨g1, g2, g3⟩ := h
    have h2 := g3.le
    have ih := co_end l x.2 t g3
    unfold crn
    rw [if_neg (by omega), if_neg (by omega), show t - f - (x.2 - f) = t - x.2 from by omega, ih]
    omega
theorem co_le : ∀ (l : List (Int × Int)) (f t a : Int), CrOk f l t → 0 ≤ a → a + 1 ≤ t - f → coutP (crP f l t) a ≤ coutP (crP f l t) (a + 1)
  | [], f, t, a, h, h0, h1 => by
    unfold CrOk at h
    rw [co_nil h h0, co_nil h (by omega)]
    omega
  | x :: l, f, t, a, h, h0, h1 => by
    rw [co_step h h0, co_step h (by omega)]
    obtain ⟨g1, g2, g3⟩ := h
    by_cases q : a + 1 ≤ x.1 - f
    · rw [if_pos (by omega), if_pos q]; omega
    · rw [if_neg q]
      by_cases q2 : a + 1 < x.2 - f
      · rw [if_pos q2]
        by_cases q3 : a ≤ x.1 - f
        · rw [if_pos q3]; omega
        · rw [if_neg q3, if_pos (by omega)]; omega
      · rw [if_neg q2]
        by_cases q3 : a < x.2 - f
        · have hz := (cr_out_in l x.2 t (a + 1 - (x.2 - f)) g3 (by omega) (by omega)).1.1
          by_cases q4 : a ≤ x.1 - f
          · rw [if_pos q4]; omega
          · rw [if_neg q4, if_pos q3]; omega
        · have ih := co_le l x.2 t (a - (x.2 - f)) g3 (by omega) (by omega)
          rw [if_neg (by omega), if_neg q3, show a + 1 - (x.2 - f) = a - (x.2 - f) + 1 from by omega]
          omega
end Go.Proofs.YtdpmimlhchghlaaGreat
