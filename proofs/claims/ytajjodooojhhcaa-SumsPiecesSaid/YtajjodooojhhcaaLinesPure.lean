/- The lengths of a text's lines, and the sum that the document's own answer makes of them: plain facts. -/
import Derived.Test.YtajjodooojhhcaaOf
namespace Go.Proofs.Ytajjodooojhhcaa
/-- The lengths of all lines but the last one, and the last one's. -/
def lstep (s : List Int × Int) (r : Int) : List Int × Int := if r = 10 then (s.1 ++ [s.2], 0) else (s.1, s.2 + 1)
def lns (l : List Int) : List Int × Int := l.foldl lstep ([], 0)
def lall (l : List Int) : List Int := (lns l).1 ++ [(lns l).2]
theorem lns_snoc (l : List Int) (r : Int) : lns (l ++ [r]) = lstep (lns l) r := by simp [lns, List.foldl_append]
theorem lns_take (l : List Int) {j : Nat} (h : j < l.length) : lns (l.take (j + 1)) = lstep (lns (l.take j)) (nth l j) := by
  rw [List.take_succ_eq_append_getElem h, lns_snoc]
  have e : nth l j = l[j] := by simp [nth, List.getD, h]
  rw [e]
/-- The longest of the first ones, and its place. -/
def scan (x : Int × Int) (k : Int) : List Int → Int × Int
  | [] => x
  | n :: l => scan (if x.1 < n then (n, k) else x) (k + 1) l
theorem scan_snoc (n : Int) : ∀ (l : List Int) (x : Int × Int) (k : Int), scan x k (l ++ [n]) = if (scan x k l).1 < n then (n, k + l.length) else scan x k l
  | [], x, k => by simp [scan]
  | m :: l, x, k => by
    show scan (if x.1 < m then (m, k) else x) (k + 1) (l ++ [n]) = if (scan (if x.1 < m then (m, k) else x) (k + 1) l).1 < n then (n, k + ((m :: l).length : Int)) else scan (if x.1 < m then (m, k) else x) (k + 1) l
    rw [scan_snoc n l, List.length_cons, show k + 1 + (l.length : Int) = k + ((l.length + 1 : Nat) : Int) from by omega]
def best (l : List Int) : Int × Int := scan (0, 0) 0 l
theorem best_snoc (l : List Int) (n : Int) : best (l ++ [n]) = if (best l).1 < n then (n, (l.length : Int)) else best l := by
  unfold best
  rw [scan_snoc, Int.zero_add]
/-- What lines say of a sum. -/
structure Told (s : List Int × Int) (q : Q) : Prop where
  br : q.br = s.1.length
  la : q.la = s.2
  fi : q.fi = (s.1 ++ [s.2]).headD 0
  lo : (q.lo, q.rw) = best (s.1 ++ [s.2])
theorem told_step {s : List Int × Int} {q : Q} {n : Int} (h : Told s q) (hq : QOk q n) (r : Int) : Told (lstep s r) (qstep q r) := by
  obtain ⟨l, x⟩ := s
  obtain ⟨h1, h2, h3, h4⟩ := h
  obtain ⟨a1, a2, a3, a4, a5, a6, a7, a8, a9, a10, a11, a12, a13⟩ := hq
  simp only at h1 h2 h3 h4
  by_cases hr : r = 10
  · subst hr
    rw [qstep_nl]
    simp only [lstep, if_true]
    refine ⟨?_, rfl, ?_, ?_⟩
    · simp only [List.length_append, List.length_cons, List.length_nil]; omega
    · simp only; rw [h3]; cases l <;> simp
    · simp only
      rw [best_snoc, ← h4, if_neg (by simp only; omega)]
  · rw [qstep_ne q hr]
    simp only [lstep, if_neg hr]
    refine ⟨h1, ?_, ?_, ?_⟩
    · simp only; omega
    · simp only
      cases l with
      | nil => rw [if_pos (by rw [h1]; rfl)]; simp; omega
      | cons y l =>
        rw [if_neg (by rw [h1]; simp only [List.length_cons]; omega), h3]
        rfl
    · simp only
      rw [best_snoc] at h4 ⊢
      by_cases hb : (best l).1 < x
      · rw [if_pos hb] at h4
        have e1 : q.lo = x := congrArg Prod.fst h4
        rw [if_pos (by omega), if_pos (by omega), if_pos (by omega), h1, h2]
      · rw [if_neg hb] at h4
        rw [← h4]
        simp only
        by_cases hc : q.lo < q.la + 1
        · rw [if_pos hc, if_pos hc, if_pos (by omega), h1, h2]
        · rw [if_neg hc, if_neg hc, if_neg (by omega)]
theorem told (l : List Int) : Told (lns l) (qof l) := by
  suffices h : ∀ (l : List Int) (s : List Int × Int) (q : Q) (n : Int), Told s q → QOk q n → Told (l.foldl lstep s) (l.foldl qstep q) from
    h l ([], 0) q0 0 ⟨rfl, rfl, rfl, rfl⟩ q0_ok
  intro l
  induction l with
  | nil => intro s q n h _; exact h
  | cons r l ih => intro s q n h hq; exact ih _ _ _ (told_step h hq r) (qstep_ok hq r)
theorem qof_by (l : List Int) : (qof l).by_ = ((encAll l).length : Int) := by
  suffices h : ∀ (l : List Int) (q : Q), (l.foldl qstep q).by_ = q.by_ + ((encAll l).length : Int) by
    show (l.foldl qstep q0).by_ = _
    rw [h]
    simp [q0]
  intro l
  induction l with
  | nil => intro q; simp [encAll]
  | cons r l ih =>
    intro q
    rw [List.foldl_cons, ih]
    have e1 : (qstep q r).by_ = q.by_ + uSize r := by unfold qstep; split <;> rfl
    have e2 : ((encAll (r :: l)).length : Int) = uSize r + ((encAll l).length : Int) := by
      rw [enc_sum, enc_sum, List.map_cons, List.sum_cons]
    rw [e1, e2]
    omega
theorem lns_len (l : List Int) : (lns l).1.length ≤ l.length ∧ 0 ≤ (lns l).2 ∧ (lns l).2 ≤ l.length := by
  have h := told l
  obtain ⟨a1, a2, a3, a4, a5, a6, a7, a8, a9, a10, _⟩ := qof_ok l
  have := h.br
  have := h.la
  omega
end Go.Proofs.Ytajjodooojhhcaa
