/- Where a line's cells are broken: plain facts. -/
import Derived.Test.YtnlhpbnonmdkdaaClP
namespace Go.Proofs.Ytnlhpbnonmdkdaa
set_option linter.unusedVariables false
/-- Is a cell blank? -/
def isB (c : Cl) : Bool := c.r == 32 || c.r == 9
/-- Widths from 0 to 2. -/
def W02 (l : List Cl) : Prop := ∀ x ∈ l, 0 ≤ x.wd ∧ x.wd ≤ 2
theorem W02.drop {l : List Cl} (h : W02 l) (j : Nat) : W02 (l.drop j) := fun x hx => h x (List.mem_of_mem_drop hx)
theorem W02.take {l : List Cl} (h : W02 l) (j : Nat) : W02 (l.take j) := fun x hx => h x (List.mem_of_mem_take hx)
theorem wsum_cons (c : Cl) (l : List Cl) : wsum (c :: l) = c.wd + wsum l := by simp [wsum]
theorem wsum_nil : wsum [] = 0 := rfl
theorem W02.sum {l : List Cl} (h : W02 l) : 0 ≤ wsum l ∧ wsum l ≤ 2 * l.length := by
  induction l with
  | nil => simp [wsum]
  | cons c l ih =>
    have h1 := h c (by simp)
    have h2 := ih (fun x hx => h x (by simp [hx]))
    rw [wsum_cons, List.length_cons]
    omega
theorem W02.mono {l : List Cl} (h : W02 l) {i j : Nat} (hij : i ≤ j) : wsum (l.take i) ≤ wsum (l.take j) := by
  have e : l.take j = l.take i ++ (l.take j).drop i := by
    conv => lhs; rw [← List.take_append_drop i (l.take j)]
    rw [List.take_take, Nat.min_eq_left hij]
  rw [e, wsum_append]
  have := ((h.take j).drop i).sum.1
  omega
theorem wsum_split (l : List Cl) (j : Nat) : wsum l = wsum (l.take j) + wsum (l.drop j) := by
  rw [← wsum_append, List.take_append_drop]
/-- How many blank cells are ahead. -/
def nbl : List Cl → Nat
  | [] => 0
  | c :: l => if isB c then nbl l + 1 else 0
theorem nbl_le : ∀ l : List Cl, nbl l ≤ l.length
  | [] => Nat.le_refl _
  | c :: l => by rw [nbl]; have := nbl_le l; split <;> simp <;> omega
theorem nbl_all : ∀ (l : List Cl) (j : Nat), j < nbl l → ∀ h : j < l.length, isB l[j] = true
  | c :: l, 0, h, _ => by rw [nbl] at h; split at h <;> simp_all
  | c :: l, j + 1, h, hj => by
    rw [nbl] at h
    split at h
    · exact nbl_all l j (by omega) (by simpa using hj)
    · omega
theorem nbl_stop : ∀ (l : List Cl) (h : nbl l < l.length), isB l[nbl l] = false
  | c :: l, h => by
    rw [nbl] at h
    by_cases hc : isB c = true
    · have e : nbl (c :: l) = nbl l + 1 := by rw [nbl, if_pos hc]
      rw [if_pos hc] at h
      have := nbl_stop l (by simpa using h)
      simp only [e, List.getElem_cons_succ]
      exact this
    · have e : nbl (c :: l) = 0 := by rw [nbl, if_neg hc]
      simp only [e, List.getElem_cons_zero]
      simpa using hc
/-- How far the loop is: all ahead are blank, and so on. -/
theorem nbl_eq {l : List Cl} {j : Nat} (h1 : ∀ i (h : i < l.length), i < j → isB l[i] = true) (h2 : ∀ h : j < l.length, isB l[j] = false) (h3 : j ≤ l.length) : nbl l = j := by
  have a := nbl_le l
  rcases Nat.lt_trichotomy (nbl l) j with h | h | h
  · have := nbl_stop l (by omega)
    rw [h1 _ (by omega) h] at this
    cases this
  · exact h
  · have := nbl_all l j h (by omega)
    rw [h2 (by omega)] at this
    cases this
/-- A line's indent. -/
def ind (l : List Cl) : Int := if wsum (l.take (nbl l)) ≤ 8 then wsum (l.take (nbl l)) else 8
/-- How many cells there is room for. -/
def cnt : List Cl → Int → Nat
  | [], _ => 0
  | c :: l, r => if c.wd ≤ r then cnt l (r - c.wd) + 1 else 0
theorem cnt_le : ∀ (l : List Cl) (r : Int), cnt l r ≤ l.length
  | [], _ => Nat.le_refl _
  | c :: l, r => by rw [cnt]; have := cnt_le l (r - c.wd); split <;> simp <;> omega
theorem cnt_fits : ∀ (l : List Cl) (r : Int) (j : Nat), 0 < j → j ≤ cnt l r → W02 l → wsum (l.take j) ≤ r
  | [], r, j, h0, h, _ => by simp [cnt] at h; omega
  | c :: l, r, j + 1, h0, h, hw => by
    rw [cnt] at h
    split at h
    · rename_i hc
      rw [List.take_succ_cons, wsum_cons]
      rcases Nat.eq_zero_or_pos j with h1 | h1
      · subst h1; simp [wsum]; exact hc
      · have := cnt_fits l (r - c.wd) j h1 (by omega) (fun x hx => hw x (by simp [hx]))
        omega
    · omega
theorem cnt_stop : ∀ (l : List Cl) (r : Int), cnt l r < l.length → r < wsum (l.take (cnt l r + 1))
  | [], r, h => by simp at h
  | c :: l, r, h => by
    rw [cnt] at h ⊢
    split at h
    · rename_i hc
      rw [if_pos hc, List.take_succ_cons, wsum_cons]
      have := cnt_stop l (r - c.wd) (by simpa using h)
      omega
    · rename_i hc
      rw [if_neg hc, List.take_succ_cons, wsum_cons]
      simp [wsum]; omega
theorem cnt_eq {l : List Cl} {r : Int} {j : Nat} (hw : W02 l) (h1 : j ≤ l.length) (h2 : 0 < j → wsum (l.take j) ≤ r) (h3 : j < l.length → r < wsum (l.take (j + 1))) : cnt l r = j := by
  have a := cnt_le l r
  rcases Nat.lt_trichotomy (cnt l r) j with h | h | h
  · have b := cnt_stop l r (by omega)
    have c := hw.mono (show cnt l r + 1 ≤ j by omega)
    have := h2 (by omega)
    omega
  · exact h
  · have b := cnt_fits l r (j + 1) (by omega) (by omega) hw
    have := h3 (by omega)
    omega
/-- How many cells without width are ahead. -/
def nz : List Cl → Nat
  | [] => 0
  | c :: l => if c.wd = 0 then nz l + 1 else 0
theorem nz_le : ∀ l : List Cl, nz l ≤ l.length
  | [] => Nat.le_refl _
  | c :: l => by rw [nz]; have := nz_le l; split <;> simp <;> omega
theorem nz_all : ∀ (l : List Cl) (j : Nat), j < nz l → ∀ h : j < l.length, l[j].wd = 0
  | c :: l, 0, h, _ => by rw [nz] at h; split at h <;> simp_all
  | c :: l, j + 1, h, hj => by
    rw [nz] at h
    split at h
    · exact nz_all l j (by omega) (by simpa using hj)
    · omega
theorem nz_stop : ∀ (l : List Cl) (h : nz l < l.length), ¬ l[nz l].wd = 0
  | c :: l, h => by
    rw [nz] at h
    by_cases hc : c.wd = 0
    · have e : nz (c :: l) = nz l + 1 := by rw [nz, if_pos hc]
      rw [if_pos hc] at h
      have := nz_stop l (by simpa using h)
      simp only [e, List.getElem_cons_succ]
      exact this
    · have e : nz (c :: l) = 0 := by rw [nz, if_neg hc]
      simp only [e, List.getElem_cons_zero]
      exact hc
/-- The first cell, and those without width behind it. -/
def alo (l : List Cl) : Nat := 1 + nz l.tail
theorem alo_eq {l : List Cl} {j : Nat} (h0 : 0 < j) (h1 : ∀ i (h : i < l.length), 0 < i → i < j → l[i].wd = 0) (h2 : ∀ h : j < l.length, ¬ l[j].wd = 0) (h3 : j ≤ l.length) : alo l = j := by
  cases l with
  | nil => simp at h3; omega
  | cons c l =>
    obtain ⟨j, rfl⟩ : ∃ i, j = i + 1 := ⟨j - 1, by omega⟩
    unfold alo
    rw [List.tail_cons]
    have h3 : j ≤ l.length := by simpa using h3
    have a := nz_le l
    rcases Nat.lt_trichotomy (nz l) j with h | h | h
    · have b := nz_stop l (by omega)
      have := h1 (nz l + 1) (by simp; omega) (by omega) (by omega)
      simp at this
      exact absurd this b
    · omega
    · have b := nz_all l j h (by omega)
      have := h2 (by simp; omega)
      simp at this
      exact absurd b this
theorem alo_le {l : List Cl} (h : 0 < l.length) : alo l ≤ l.length := by
  match l with
  | c :: l => have := nz_le l; simp [alo]; omega
/-- How many a row has room for. -/
def fitN (l : List Cl) (r : Int) : Nat := if cnt l r = 0 ∧ 0 < l.length then alo l else cnt l r
theorem fitN_le (l : List Cl) (r : Int) : fitN l r ≤ l.length := by
  unfold fitN
  split
  · rename_i h; exact alo_le h.2
  · exact cnt_le l r
theorem fitN_pos {l : List Cl} {r : Int} (h : 0 < l.length) : 0 < fitN l r := by
  unfold fitN alo
  split <;> omega
/-- Is a boundary at a place? -/
def bnd (l : List Cl) (at_ : Nat) : Bool := match l[at_ - 1]?, l[at_]? with
  | some a, some b => decide (0 < at_) && isB a && !isB b && decide (0 < b.wd)
  | _, _ => false
theorem bnd_of {l : List Cl} {i : Nat} (h : i < l.length) (h0 : 0 < i) : bnd l i = (isB (l[i - 1]'(by omega)) && !isB l[i] && decide (0 < l[i].wd)) := by
  unfold bnd
  rw [List.getElem?_eq_getElem h, List.getElem?_eq_getElem (by omega : i - 1 < l.length)]
  simp [h0]
theorem bnd_out {l : List Cl} {i : Nat} (h : ¬ i < l.length) : bnd l i = false := by
  unfold bnd
  rw [List.getElem?_eq_none (by omega : l.length ≤ i)]
  split <;> simp_all
theorem bnd_zero (l : List Cl) : bnd l 0 = false := by
  unfold bnd
  split <;> simp
/-- The last boundary up to a place; 0 where none is. -/
def lastB (l : List Cl) : Nat → Nat
  | 0 => 0
  | n + 1 => if bnd l (n + 1) then n + 1 else lastB l n
theorem lastB_le (l : List Cl) : ∀ n, lastB l n ≤ n
  | 0 => Nat.le_refl _
  | n + 1 => by rw [lastB]; have := lastB_le l n; split <;> omega
theorem lastB_mono (l : List Cl) {a b : Nat} (h : a ≤ b) : lastB l a ≤ lastB l b := by
  induction b with
  | zero => obtain rfl : a = 0 := by omega
            exact Nat.le_refl _
  | succ b ih =>
    rcases Nat.lt_or_ge a (b + 1) with h1 | h1
    · have := ih (by omega)
      have := lastB_le l a
      rw [lastB]; split <;> omega
    · obtain rfl : a = b + 1 := by omega
      exact Nat.le_refl _
theorem lastB_none (l : List Cl) : ∀ {n : Nat}, lastB l n = 0 → ∀ i, i ≤ n → bnd l i = false
  | 0, _, i, hi => by obtain rfl : i = 0 := by omega
                      exact bnd_zero l
  | n + 1, h, i, hi => by
    rw [lastB] at h
    split at h
    · omega
    · rename_i hb
      rcases Nat.lt_or_ge i (n + 1) with h1 | h1
      · exact lastB_none l h i (by omega)
      · obtain rfl : i = n + 1 := by omega
        simpa using hb
theorem lastB_is (l : List Cl) : ∀ {n : Nat}, 0 < lastB l n → bnd l (lastB l n) = true
  | n + 1, h => by
    rw [lastB] at h ⊢
    split
    · rename_i hb; exact hb
    · rename_i hb; rw [if_neg hb] at h; exact lastB_is l h
/-- The last boundary, told by what a loop knows: one at k, none behind it up to n. -/
theorem lastB_at {l : List Cl} {k n : Nat} (hk : k ≤ n) (h1 : bnd l k = true) (h2 : ∀ i, k < i → i ≤ n → bnd l i = false) : lastB l n = k := by
  induction n with
  | zero => obtain rfl : k = 0 := by omega
            rfl
  | succ n ih =>
    rw [lastB]
    rcases Nat.lt_or_ge k (n + 1) with h | h
    · rw [if_neg (by rw [h2 (n + 1) h (Nat.le_refl _)]; simp)]
      exact ih (by omega) (fun i a b => h2 i a (by omega))
    · obtain rfl : k = n + 1 := by omega
      rw [if_pos h1]
theorem lastB_no {l : List Cl} {n : Nat} (h2 : ∀ i, 0 < i → i ≤ n → bnd l i = false) : lastB l n = 0 := by
  induction n with
  | zero => rfl
  | succ n ih =>
    rw [lastB, if_neg (by rw [h2 (n + 1) (by omega) (Nat.le_refl _)]; simp)]
    exact ih (fun i a b => h2 i a (by omega))
/-- How many a row takes. -/
def tak (l : List Cl) (r : Int) : Nat := if fitN l r = l.length then fitN l r else if lastB l (fitN l r) = 0 then fitN l r else lastB l (fitN l r)
theorem tak_le_fit (l : List Cl) (r : Int) : tak l r ≤ fitN l r := by
  unfold tak
  have := lastB_le l (fitN l r)
  split
  · omega
  · split <;> omega
theorem tak_le (l : List Cl) (r : Int) : tak l r ≤ l.length := Nat.le_trans (tak_le_fit l r) (fitN_le l r)
theorem tak_pos {l : List Cl} {r : Int} (h : 0 < l.length) : 0 < tak l r := by
  unfold tak
  have := fitN_pos (r := r) h
  split
  · omega
  · split <;> omega
theorem tak_nil (r : Int) : tak [] r = 0 := by have := tak_le [] r; simpa using this
theorem fitN_nil (r : Int) : fitN [] r = 0 := by have := fitN_le [] r; simpa using this
/-- How many a line's first row takes. -/
def opn (l : List Cl) (r : Int) : Nat := if nbl (l.take (tak l r)) = tak l r then fitN l r else tak l r
theorem opn_le_fit (l : List Cl) (r : Int) : opn l r ≤ fitN l r := by unfold opn; have := tak_le_fit l r; split <;> omega
theorem opn_le (l : List Cl) (r : Int) : opn l r ≤ l.length := Nat.le_trans (opn_le_fit l r) (fitN_le l r)
theorem opn_pos {l : List Cl} {r : Int} (h : 0 < l.length) : 0 < opn l r := by
  unfold opn
  have := fitN_pos (r := r) h
  have := tak_pos (r := r) h
  split <;> omega
/-- The rows behind the first one. -/
def rst (r : Int) : Nat → List Cl → List Nat
  | 0, _ => []
  | f + 1, l => if l.length = 0 then [] else tak l r :: rst r f (l.drop (tak l r))
theorem rst_fuel (r : Int) : ∀ (f g : Nat) (l : List Cl), l.length ≤ f → l.length ≤ g → rst r f l = rst r g l
  | 0, 0, l, _, _ => rfl
  | 0, g + 1, l, h, _ => by rw [rst, rst, if_pos (by omega)]
  | f + 1, 0, l, _, h => by rw [rst, rst, if_pos (by omega)]
  | f + 1, g + 1, l, h1, h2 => by
    rw [rst, rst]
    split
    · rfl
    · rename_i hl
      have := tak_pos (l := l) (r := r) (by omega)
      rw [rst_fuel r f g (l.drop (tak l r)) (by simp; omega) (by simp; omega)]
def rsts (l : List Cl) (r : Int) : List Nat := rst r l.length l
theorem rsts_nil (r : Int) : rsts [] r = [] := rfl
theorem rsts_step {l : List Cl} {r : Int} (h : 0 < l.length) : rsts l r = tak l r :: rsts (l.drop (tak l r)) r := by
  unfold rsts
  have := tak_pos (l := l) (r := r) h
  rw [rst_fuel r _ (l.length + 1) l (Nat.le_refl _) (by omega), rst, if_neg (by omega)]
  rw [rst_fuel r l.length (l.drop (tak l r)).length (l.drop (tak l r)) (by simp) (Nat.le_refl _)]
/-- How many each row takes. -/
def allN (l : List Cl) (a b : Int) : List Nat := opn l a :: rsts (l.drop (opn l a)) b
theorem allN_nil (a b : Int) : allN [] a b = [0] := by
  have : opn [] a = 0 := by have := opn_le [] a; simpa using this
  simp [allN, this, rsts_nil]
theorem rsts_ind {P : List Cl → List Nat → Prop} (r : Int) (h0 : P [] []) (h1 : ∀ l, 0 < l.length → P (l.drop (tak l r)) (rsts (l.drop (tak l r)) r) → P l (tak l r :: rsts (l.drop (tak l r)) r)) : ∀ (n : Nat) (l : List Cl), l.length ≤ n → P l (rsts l r)
  | 0, l, h => by
    obtain rfl : l = [] := List.eq_nil_of_length_eq_zero (by omega)
    exact h0
  | n + 1, l, h => by
    rcases Nat.eq_zero_or_pos l.length with h2 | h2
    · obtain rfl : l = [] := List.eq_nil_of_length_eq_zero h2
      exact h0
    · rw [rsts_step h2]
      have := tak_pos (l := l) (r := r) h2
      exact h1 l h2 (rsts_ind r h0 h1 n _ (by simp; omega))
theorem rsts_pos (l : List Cl) (r : Int) : ∀ x ∈ rsts l r, 0 < x := by
  refine rsts_ind (P := fun _ o => ∀ x ∈ o, 0 < x) r (by simp) (fun l h ih x hx => ?_) l.length l (Nat.le_refl _)
  rcases List.mem_cons.1 hx with rfl | hx
  · exact tak_pos h
  · exact ih x hx
theorem rsts_sum (l : List Cl) (r : Int) : (rsts l r).sum = l.length := by
  refine rsts_ind (P := fun l o => o.sum = l.length) r (by simp) (fun l h ih => ?_) l.length l (Nat.le_refl _)
  have := tak_le l r
  rw [List.sum_cons, ih, List.length_drop]
  omega
theorem allN_sum (l : List Cl) (a b : Int) : (allN l a b).sum = l.length := by
  have := opn_le l a
  rw [allN, List.sum_cons, rsts_sum, List.length_drop]
  omega
theorem rsts_len (l : List Cl) (r : Int) : (rsts l r).length ≤ l.length := by
  refine rsts_ind (P := fun l o => o.length ≤ l.length) r (by simp) (fun l h ih => ?_) l.length l (Nat.le_refl _)
  have := tak_pos (r := r) h
  rw [List.length_drop] at ih
  rw [List.length_cons]
  omega
theorem allN_len (l : List Cl) (a b : Int) : (allN l a b).length ≤ l.length + 1 := by
  have := rsts_len (l.drop (opn l a)) b
  rw [List.length_drop] at this
  rw [allN, List.length_cons]
  omega
-- more room
theorem cnt_mono : ∀ (l : List Cl) {a b : Int}, a ≤ b → cnt l a ≤ cnt l b
  | [], _, _, _ => Nat.le_refl _
  | c :: l, a, b, h => by
    rw [cnt, cnt]
    have := cnt_mono l (show a - c.wd ≤ b - c.wd by omega)
    split
    · rw [if_pos (by omega)]; omega
    · omega
theorem nz_cnt : ∀ (l : List Cl) {r : Int}, 0 ≤ r → nz l ≤ cnt l r
  | [], _, _ => Nat.le_refl _
  | c :: l, r, h => by
    rw [nz, cnt]
    split
    · rename_i hc
      rw [if_pos (by omega), hc, Int.sub_zero]
      have := nz_cnt l h
      omega
    · omega
theorem fitN_mono (l : List Cl) {a b : Int} (h : a ≤ b) : fitN l a ≤ fitN l b := by
  have hc := cnt_mono l h
  unfold fitN
  split
  · rename_i h1
    split
    · exact Nat.le_refl _
    · rename_i h2
      match l, h1, h2 with
      | c :: l, h1, h2 =>
        have h3 : ¬ cnt (c :: l) b = 0 := fun e => h2 ⟨e, by simp⟩
        rw [cnt] at h3
        rw [cnt]
        split at h3
        · rename_i h4
          have := nz_cnt l (r := b - c.wd) (by omega)
          rw [if_pos h4]
          simp [alo]; omega
        · omega
  · rename_i h1
    split
    · rename_i h2
      exact absurd ⟨by omega, h2.2⟩ h1
    · exact hc
theorem tak_mono (l : List Cl) {a b : Int} (h : a ≤ b) : tak l a ≤ tak l b := by
  have h1 := fitN_mono l h
  have h2 := lastB_mono l h1
  have h3 := fitN_le l b
  have h4 := tak_le_fit l a
  have h5 := lastB_le l (fitN l a)
  by_cases e : fitN l b = l.length
  · have : tak l b = fitN l b := by unfold tak; rw [if_pos e]
    omega
  · by_cases e2 : lastB l (fitN l b) = 0
    · have : tak l b = fitN l b := by unfold tak; rw [if_neg e, if_pos e2]
      omega
    · have e3 : tak l b = lastB l (fitN l b) := by unfold tak; rw [if_neg e, if_neg e2]
      rw [e3]
      unfold tak
      rw [if_neg (by omega)]
      split
      · rename_i h6
        rcases Nat.lt_or_ge (fitN l a) (lastB l (fitN l b)) with h7 | h7
        · omega
        · have h8 := lastB_is l (n := fitN l b) (by omega)
          rw [lastB_none l h6 _ h7] at h8
          cases h8
      · exact h2
-- what fits
def npos (l : List Cl) : Nat := (l.filter fun c => decide (0 < c.wd)).length
theorem npos_take (l : List Cl) {i j : Nat} (h : i ≤ j) : npos (l.take i) ≤ npos (l.take j) := by
  have e : l.take j = l.take i ++ (l.take j).drop i := by
    conv => lhs; rw [← List.take_append_drop i (l.take j)]
    rw [List.take_take, Nat.min_eq_left h]
  rw [e]
  unfold npos
  rw [List.filter_append, List.length_append]
  omega
theorem npos_nz : ∀ (l : List Cl), npos (l.take (nz l)) = 0
  | [] => rfl
  | c :: l => by
    rw [nz]
    split
    · rename_i h
      rw [List.take_succ_cons]
      have := npos_nz l
      unfold npos at this ⊢
      rw [List.filter_cons_of_neg (by simp [h])]
      exact this
    · rfl
theorem fit_room {l : List Cl} {r : Int} (hw : W02 l) (h0 : 0 < l.length) {j : Nat} (hj : j ≤ fitN l r) (hn : 1 < npos (l.take j)) : wsum (l.take j) ≤ r := by
  have h1 := npos_take l hj
  unfold fitN at hj h1
  split at hj
  · rename_i h
    exfalso
    rw [if_pos h] at h1
    match l, h0 with
    | c :: l, _ =>
      unfold alo at h1
      rw [List.tail_cons, Nat.add_comm, List.take_succ_cons] at h1
      have := npos_nz l
      unfold npos at this h1 hn
      rw [List.filter_cons] at h1
      split at h1
      · simp only [List.length_cons] at h1; omega
      · omega
  · rename_i h
    have h2 : 0 < cnt l r := by
      rcases Nat.eq_zero_or_pos (cnt l r) with e | e
      · exact absurd ⟨e, h0⟩ h
      · exact e
    have := cnt_fits l r (cnt l r) h2 (Nat.le_refl _) hw
    have := hw.mono hj
    omega
theorem tak_words {l : List Cl} {r : Int} (hw : W02 l) (h0 : 0 < l.length) (h1 : ¬ tak l r = l.length) (h2 : bnd l (tak l r) = false) : (∀ i, i < tak l r → bnd l i = false) ∧ r < wsum (l.take (tak l r + 1)) := by
  have h3 : ¬ fitN l r = l.length := by
    intro e
    apply h1
    unfold tak
    rw [if_pos e, e]
  have h4 : lastB l (fitN l r) = 0 := by
    rcases Nat.eq_zero_or_pos (lastB l (fitN l r)) with e | e
    · exact e
    · have h5 := lastB_is l e
      have : tak l r = lastB l (fitN l r) := by unfold tak; rw [if_neg h3, if_neg (by omega)]
      rw [this, h5] at h2
      cases h2
  have h5 : tak l r = fitN l r := by unfold tak; rw [if_neg h3, if_pos h4]
  refine ⟨fun i hi => lastB_none l h4 i (by omega), ?_⟩
  rw [h5]
  have h6 := fitN_le l r
  unfold fitN at h3 h6 ⊢
  split
  · rename_i h
    rw [if_pos h] at h6
    have h7 := cnt_stop l r (by omega)
    rw [h.1] at h7
    have := hw.mono (show 0 + 1 ≤ alo l + 1 by omega)
    omega
  · rename_i h
    rw [if_neg h] at h6 h3
    exact cnt_stop l r (by omega)
end Go.Proofs.Ytnlhpbnonmdkdaa
