/- What a text's sum is, over lists of runes: plain facts, nothing of the program. -/
import Derived.Test.YtajjodooojhhcaaEncPure
namespace Go.Proofs.Ytajjodooojhhcaa
/-- A sum: bytes, runes, breaks, the first line's length, the last one's, the longest one's, and its row. -/
structure Q where
  (by_ ru br fi la lo rw : Int)
/-- Nothing's sum. -/
def q0 : Q := ⟨0, 0, 0, 0, 0, 0, 0⟩
/-- One rune more. -/
def qstep (q : Q) (r : Int) : Q :=
  if r = 10 then ⟨q.by_ + uSize r, q.ru + 1, q.br + 1, q.fi, 0, q.lo, q.rw⟩
  else ⟨q.by_ + uSize r, q.ru + 1, q.br, if q.br = 0 then q.la + 1 else q.fi, q.la + 1, if q.lo < q.la + 1 then q.la + 1 else q.lo, if q.lo < q.la + 1 then q.br else q.rw⟩
def qof (l : List Int) : Q := l.foldl qstep q0
/-- The longest of three, and its row. -/
def qlo (a b : Q) : Int := if a.lo < a.la + b.fi then a.la + b.fi else a.lo
def qrw (a b : Q) : Int := if a.lo < a.la + b.fi then a.br else a.rw
def qadd (a b : Q) : Q :=
  ⟨a.by_ + b.by_, a.ru + b.ru, a.br + b.br, if a.br = 0 then a.la + b.fi else a.fi, if b.br = 0 then a.la + b.fi else b.la, if qlo a b < b.lo then b.lo else qlo a b, if qlo a b < b.lo then a.br + b.rw else qrw a b⟩
/-- What each text's sum keeps, of n runes. -/
def QOk (q : Q) (n : Int) : Prop :=
  0 ≤ q.by_ ∧ q.by_ ≤ 4 * n ∧ q.ru = n ∧ 0 ≤ q.br ∧ q.br ≤ n ∧ 0 ≤ q.fi ∧ q.fi ≤ q.lo ∧ 0 ≤ q.la ∧ q.la ≤ q.lo ∧ q.lo ≤ n ∧ 0 ≤ q.rw ∧ q.rw ≤ q.br ∧ (q.br = 0 → q.fi = q.la ∧ q.lo = q.la)
theorem q0_ok : QOk q0 0 := by simp [QOk, q0]
theorem Q.ext_ {a b : Q} (h1 : a.by_ = b.by_) (h2 : a.ru = b.ru) (h3 : a.br = b.br) (h4 : a.fi = b.fi) (h5 : a.la = b.la) (h6 : a.lo = b.lo) (h7 : a.rw = b.rw) : a = b := by
  cases a; cases b; simp_all
theorem qstep_nl (q : Q) : qstep q 10 = ⟨q.by_ + uSize 10, q.ru + 1, q.br + 1, q.fi, 0, q.lo, q.rw⟩ := if_pos rfl
theorem qstep_ne (q : Q) {r : Int} (h : r ≠ 10) : qstep q r = ⟨q.by_ + uSize r, q.ru + 1, q.br, if q.br = 0 then q.la + 1 else q.fi, q.la + 1, if q.lo < q.la + 1 then q.la + 1 else q.lo, if q.lo < q.la + 1 then q.br else q.rw⟩ := if_neg h
theorem qstep_ok {q : Q} {n : Int} (h : QOk q n) (r : Int) : QOk (qstep q r) (n + 1) := by
  have hu := uSize_bd r
  obtain ⟨a1, a2, a3, a4, a5, a6, a7, a8, a9, a10, a11, a12, a13⟩ := h
  by_cases hr : r = 10
  · subst hr
    rw [qstep_nl]
    refine ⟨?_, ?_, ?_, ?_, ?_, ?_, ?_, ?_, ?_, ?_, ?_, ?_, ?_⟩
    all_goals simp only
    all_goals omega
  · rw [qstep_ne q hr]
    refine ⟨?_, ?_, ?_, ?_, ?_, ?_, ?_, ?_, ?_, ?_, ?_, ?_, ?_⟩
    all_goals simp only
    all_goals (repeat' split)
    all_goals omega
theorem qof_snoc (l : List Int) (r : Int) : qof (l ++ [r]) = qstep (qof l) r := by simp [qof, List.foldl_append]
theorem qof_ok (l : List Int) : QOk (qof l) l.length := by
  suffices h : ∀ (l : List Int) (q : Q) (n : Int), QOk q n → QOk (l.foldl qstep q) (n + l.length) by
    have := h l q0 0 q0_ok
    rwa [Int.zero_add] at this
  intro l
  induction l with
  | nil => intro q n h; simpa using h
  | cons r l ih =>
    intro q n h
    have := ih _ _ (qstep_ok h r)
    simp only [List.foldl_cons, List.length_cons]
    rwa [show n + ((l.length + 1 : Nat) : Int) = n + 1 + (l.length : Int) from by omega]
theorem qadd_step {x y : Q} {n m : Int} (hx : QOk x n) (hy : QOk y m) (r : Int) : qstep (qadd x y) r = qadd x (qstep y r) := by
  obtain ⟨a1, a2, a3, a4, a5, a6, a7, a8, a9, a10, a11, a12, a13⟩ := hx
  obtain ⟨b1, b2, b3, b4, b5, b6, b7, b8, b9, b10, b11, b12, b13⟩ := hy
  by_cases hr : r = 10
  · subst hr
    rw [qstep_nl, qstep_nl]
    refine Q.ext_ ?_ ?_ ?_ ?_ ?_ ?_ ?_
    all_goals simp only [qadd, qlo, qrw]
    all_goals (repeat' split)
    all_goals omega
  · rw [qstep_ne _ hr, qstep_ne _ hr]
    by_cases hb : y.br = 0
    · have := b13 hb
      refine Q.ext_ ?_ ?_ ?_ ?_ ?_ ?_ ?_
      all_goals simp only [qadd, qlo, qrw, if_pos hb]
      all_goals (repeat' split)
      all_goals omega
    · refine Q.ext_ ?_ ?_ ?_ ?_ ?_ ?_ ?_
      all_goals simp only [qadd, qlo, qrw, if_neg hb]
      all_goals (repeat' split)
      all_goals omega
theorem qadd_zero {x : Q} {n : Int} (hx : QOk x n) : qadd x q0 = x := by
  obtain ⟨a1, a2, a3, a4, a5, a6, a7, a8, a9, a10, a11, a12, a13⟩ := hx
  refine Q.ext_ ?_ ?_ ?_ ?_ ?_ ?_ ?_
  all_goals simp only [qadd, qlo, qrw, q0, Int.add_zero, ↓reduceIte]
  all_goals (repeat' split)
  all_goals omega
theorem qof_append (a b : List Int) : qof (a ++ b) = qadd (qof a) (qof b) := by
  suffices h : ∀ (n : Nat) (b : List Int), b.length = n → qof (a ++ b) = qadd (qof a) (qof b) from h _ b rfl
  intro n
  induction n with
  | zero =>
    intro b hb
    obtain rfl : b = [] := List.eq_nil_of_length_eq_zero hb
    rw [List.append_nil]
    exact (qadd_zero (qof_ok a)).symm
  | succ n ih =>
    intro b hb
    obtain ⟨c, r, rfl⟩ : ∃ c r, b = c ++ [r] := ⟨b.dropLast, b.getLast (by intro e; subst e; simp at hb), (List.dropLast_concat_getLast _).symm⟩
    have hc : c.length = n := by simpa using hb
    rw [← List.append_assoc, qof_snoc, ih c hc, qof_snoc]
    exact qadd_step (qof_ok a) (qof_ok c) r
theorem qof_nil : qof [] = q0 := rfl
theorem zero_qadd (l : List Int) : qadd q0 (qof l) = qof l := by rw [← qof_nil, ← qof_append]; rfl
end Go.Proofs.Ytajjodooojhhcaa
