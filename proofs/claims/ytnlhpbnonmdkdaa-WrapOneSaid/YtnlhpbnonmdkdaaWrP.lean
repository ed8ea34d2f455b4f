/- A line's rows: plain facts. -/
import Derived.Test.YtnlhpbnonmdkdaaBrP
namespace Go.Proofs.Ytnlhpbnonmdkdaa
set_option linter.unusedVariables false
/-- The hanging indent. -/
def hangN (l : List Cl) (w : Int) : Int := if w < 0 ∨ 200 < w ∨ w - 2 < ind l then 0 else ind l
/-- A cell of the indent. -/
def inC (p : Int) : Cl := ⟨32, 5, 1, p⟩
def headP (l : List Cl) : Int := match l with | [] => 0 | c :: _ => c.p
/-- Rows with an indent ahead of each but the first. -/
def mkR (h : Nat) : Nat → List Cl → List Nat → List (List Cl)
  | _, _, [] => []
  | i, l, n :: ns => (List.replicate i (inC (headP l)) ++ l.take n) :: mkR h h (l.drop n) ns
/-- How many of a line's cells each row has. -/
def wszs (l : List Cl) (w : Int) : List Nat := if w = 0 then [l.length] else allN l w (w - hangN l w)
/-- A line's rows. -/
def wrapN (l : List Cl) (w : Int) : List (List Cl) := mkR (hangN l w).toNat 0 l (wszs l w)
theorem mkR_length (h : Nat) : ∀ (ns : List Nat) (i : Nat) (l : List Cl), (mkR h i l ns).length = ns.length
  | [], _, _ => rfl
  | n :: ns, i, l => by simp [mkR, mkR_length h ns]
theorem ind_bd {l : List Cl} (h : W02 l) : 0 ≤ ind l ∧ ind l ≤ 8 := by
  have := (h.take (nbl l)).sum.1
  unfold ind
  split <;> omega
theorem hangN_bd {l : List Cl} (h : W02 l) (w : Int) : 0 ≤ hangN l w ∧ hangN l w ≤ 8 ∧ (hangN l w = 0 ∨ hangN l w ≤ w - 2) := by
  have := ind_bd h
  unfold hangN
  split
  · omega
  · omega
theorem wszs_sum (l : List Cl) (w : Int) : (wszs l w).sum = l.length := by
  unfold wszs
  split
  · simp
  · exact allN_sum _ _ _
theorem wszs_len (l : List Cl) (w : Int) : (wszs l w).length ≤ l.length + 1 := by
  unfold wszs
  split
  · simp
  · exact allN_len _ _ _
/-- What a list of sizes must be for the rows that are left: each one of at least one cell. -/
theorem wszs_pos {l : List Cl} {w : Int} : ∀ x ∈ (wszs l w).tail, 0 < x := by
  unfold wszs
  split
  · simp
  · intro x hx
    simp only [allN, List.tail_cons] at hx
    exact rsts_pos _ _ x hx
-- 20.2: no row is wider
theorem fit_two {l : List Cl} {r : Int} (hw : W02 l) (h2 : 2 ≤ r) {j : Nat} (hj : j ≤ fitN l r) : wsum (l.take j) ≤ r := by
  rcases Nat.eq_zero_or_pos l.length with h0 | h0
  · rw [List.eq_nil_of_length_eq_zero h0]; simp [wsum]; omega
  · have hc : 0 < cnt l r := by
      match l, h0 with
      | c :: l, _ =>
        have := (hw c (by simp)).2
        rw [cnt, if_pos (by omega)]; omega
    have hf : fitN l r = cnt l r := by unfold fitN; rw [if_neg (by omega)]
    rw [hf] at hj
    have := cnt_fits l r (cnt l r) hc (Nat.le_refl _) hw
    have := hw.mono hj
    omega
theorem wsum_ins (n : Nat) (p : Int) : wsum (List.replicate n (inC p)) = n := by
  induction n with
  | zero => rfl
  | succ n ih => rw [List.replicate_succ, wsum_cons, ih]; simp [inC]; omega
theorem mkR_wide (h : Nat) (r W : Int) (h2 : 2 ≤ r) (hr : h + r ≤ W) : ∀ (k : Nat) (l : List Cl), l.length ≤ k → W02 l → ∀ x ∈ mkR h h l (rsts l r), wsum x ≤ W
  | 0, l, hk, hw => by
    obtain rfl : l = [] := List.eq_nil_of_length_eq_zero (by omega)
    simp [rsts_nil, mkR]
  | k + 1, l, hk, hw => by
    intro x hx
    rcases Nat.eq_zero_or_pos l.length with h0 | h0
    · obtain rfl : l = [] := List.eq_nil_of_length_eq_zero h0
      simp [rsts_nil, mkR] at hx
    · rw [rsts_step h0, mkR] at hx
      rcases List.mem_cons.1 hx with rfl | hx
      · rw [wsum_append, wsum_ins]
        have := fit_two hw h2 (tak_le_fit l r)
        omega
      · have := tak_pos (r := r) h0
        exact mkR_wide h r W h2 hr k (l.drop (tak l r)) (by simp; omega) (hw.drop _) x hx
theorem wrapN_wide {l : List Cl} {w : Int} (hw : W02 l) (h2 : 2 ≤ w) : ∀ x ∈ wrapN l w, wsum x ≤ w := by
  intro x hx
  obtain ⟨b1, b2, b3⟩ := hangN_bd hw w
  unfold wrapN wszs at hx
  rw [if_neg (by omega), allN, mkR] at hx
  rcases List.mem_cons.1 hx with rfl | hx
  · rw [List.replicate_zero, List.nil_append]
    exact fit_two hw h2 (opn_le_fit l w)
  · exact mkR_wide _ (w - hangN l w) w (by omega) (by omega) _ _ (Nat.le_refl _) (hw.drop _) x hx
-- 20.3: without the indent the rows are the line
def noI (l : List Cl) : List Cl := l.filter fun c => !(c.k == 5)
theorem noI_append (a b : List Cl) : noI (a ++ b) = noI a ++ noI b := by simp [noI]
theorem noI_ins (n : Nat) (p : Int) : noI (List.replicate n (inC p)) = [] := by
  unfold noI
  rw [List.filter_eq_nil_iff]
  intro c hc
  rw [List.eq_of_mem_replicate hc]
  simp [inC]
def noK (l : List Cl) : Prop := ∀ c ∈ l, ¬ c.k = 5
theorem noI_id {l : List Cl} (h : noK l) : noI l = l := by
  unfold noI
  rw [List.filter_eq_self]
  intro c hc
  simp [h c hc]
theorem mkR_keeps (h : Nat) : ∀ (ns : List Nat) (i : Nat) (l : List Cl), noK l → ns.sum = l.length → ((mkR h i l ns).map noI).flatten = l
  | [], i, l, _, hs => by
    obtain rfl : l = [] := List.eq_nil_of_length_eq_zero (by simpa using hs.symm)
    rfl
  | n :: ns, i, l, hk, hs => by
    rw [mkR, List.map_cons, List.flatten_cons, noI_append, noI_ins, List.nil_append, noI_id (fun c hc => hk c (List.mem_of_mem_take hc)),
      mkR_keeps h ns h (l.drop n) (fun c hc => hk c (List.mem_of_mem_drop hc)) (by rw [List.length_drop]; rw [List.sum_cons] at hs; omega), List.take_append_drop]
theorem wrapN_keeps {l : List Cl} {w : Int} (h : noK l) : ((wrapN l w).map noI).flatten = l := mkR_keeps _ _ _ _ h (wszs_sum l w)
-- 20.1: what hangs
def nI (l : List Cl) : Nat := (l.filter fun c => c.k == 5).length
theorem nI_append (a b : List Cl) : nI (a ++ b) = nI a + nI b := by simp [nI]
theorem nI_ins (n : Nat) (p : Int) : nI (List.replicate n (inC p)) = n := by
  unfold nI
  rw [List.filter_eq_self.2 (fun c hc => by rw [List.eq_of_mem_replicate hc]; rfl), List.length_replicate]
theorem nI_no {l : List Cl} (h : noK l) : nI l = 0 := by
  unfold nI
  rw [List.filter_eq_nil_iff.2 (fun c hc => by simp [h c hc]), List.length_nil]
theorem mkR_hangs (h : Nat) : ∀ (ns : List Nat) (l : List Cl), noK l → ns.sum = l.length → (∀ x ∈ ns, 0 < x) → ∀ x ∈ mkR h h l ns, nI x = h ∧ h < x.length
  | [], l, _, _, _ => by simp [mkR]
  | n :: ns, l, hk, hs, hp => by
    intro x hx
    rw [List.sum_cons] at hs
    rw [mkR] at hx
    rcases List.mem_cons.1 hx with rfl | hx
    · have := hp n (by simp)
      rw [nI_append, nI_ins, nI_no (fun c hc => hk c (List.mem_of_mem_take hc))]
      simp
      omega
    · exact mkR_hangs h ns (l.drop n) (fun c hc => hk c (List.mem_of_mem_drop hc)) (by rw [List.length_drop]; omega) (fun y hy => hp y (by simp [hy])) x hx
theorem wrapN_hangs {l : List Cl} {w : Int} (h : noK l) : ∃ r rs, wrapN l w = r :: rs ∧ nI r = 0 ∧ ∀ x ∈ rs, nI x = (hangN l w).toNat ∧ (hangN l w).toNat < x.length := by
  have hs := wszs_sum l w
  have hp := wszs_pos (l := l) (w := w)
  have : wszs l w ≠ [] := by unfold wszs; split <;> simp [allN]
  unfold wrapN
  cases e : wszs l w with
  | nil => exact absurd e this
  | cons n ns =>
    rw [e] at hs hp
    rw [List.sum_cons] at hs
    refine ⟨_, _, rfl, ?_, ?_⟩
    · simp only [List.replicate_zero, List.nil_append]
      exact nI_no (fun c hc => h c (List.mem_of_mem_take hc))
    · exact mkR_hangs _ ns _ (fun c hc => h c (List.mem_of_mem_drop hc)) (by rw [List.length_drop]; omega) hp
-- 20.1: one row
theorem wrapN_zero (l : List Cl) : wrapN l 0 = [l] := by
  unfold wrapN wszs
  rw [if_pos rfl]
  simp [mkR]
theorem nbl_len : ∀ (l : List Cl), nbl l ≤ l.length := nbl_le
theorem wrapN_one {l : List Cl} (hw : W02 l) (h1 : 1 ≤ wsum l) : wrapN l (wsum l) = [l] := by
  have hf : fitN l (wsum l) = l.length := by
    have e : cnt l (wsum l) = l.length := cnt_eq hw (Nat.le_refl _) (fun _ => by rw [List.take_length]; exact Int.le_refl _) (fun h => by omega)
    unfold fitN
    rw [e]
    split
    · omega
    · rfl
  have ht : tak l (wsum l) = l.length := by unfold tak; rw [if_pos hf, hf]
  have ho : opn l (wsum l) = l.length := by unfold opn; rw [ht, hf]; simp
  unfold wrapN wszs
  rw [if_neg (by omega), allN, ho, List.drop_length, rsts_nil]
  simp [mkR]
/-- How wide the widest row is. -/
def wmax (rs : List (List Cl)) : Int := rs.foldl (fun m r => if m < wsum r then wsum r else m) 0
theorem wmax_snoc (rs : List (List Cl)) (r : List Cl) : wmax (rs ++ [r]) = if wmax rs < wsum r then wsum r else wmax rs := by unfold wmax; rw [List.foldl_append]; rfl
theorem mkR_mem_len (h : Nat) : ∀ (ns : List Nat) (i : Nat) (l : List Cl), i ≤ h → ∀ x ∈ mkR h i l ns, x.length ≤ h + l.length
  | [], _, _, _ => by simp [mkR]
  | n :: ns, i, l, hi => by
    intro x hx
    rw [mkR] at hx
    rcases List.mem_cons.1 hx with rfl | hx
    · simp; omega
    · have := mkR_mem_len h ns h (l.drop n) (Nat.le_refl _) x hx
      rw [List.length_drop] at this
      omega
theorem mkR_mem_w (h : Nat) : ∀ (ns : List Nat) (i : Nat) (l : List Cl), W02 l → ∀ x ∈ mkR h i l ns, W02 x
  | [], _, _, _ => by simp [mkR]
  | n :: ns, i, l, hw => by
    intro x hx
    rw [mkR] at hx
    rcases List.mem_cons.1 hx with rfl | hx
    · intro c hc
      rcases List.mem_append.1 hc with g | g
      · rw [List.eq_of_mem_replicate g]; simp [inC]
      · exact hw c (List.mem_of_mem_take g)
    · exact mkR_mem_w h ns h (l.drop n) (hw.drop n) x hx
theorem wrapN_w {l : List Cl} (hw : W02 l) (w : Int) : ∀ x ∈ wrapN l w, W02 x := mkR_mem_w _ _ _ _ hw
theorem wrapN_len {l : List Cl} (hw : W02 l) (w : Int) : ∀ x ∈ wrapN l w, x.length ≤ 8 + l.length := by
  intro x hx
  have := hangN_bd hw w
  have := mkR_mem_len (hangN l w).toNat (wszs l w) 0 l (by omega) x hx
  omega
theorem wmax_bd {rs : List (List Cl)} {B : Int} (h0 : 0 ≤ B) (h : ∀ x ∈ rs, wsum x ≤ B) : 0 ≤ wmax rs ∧ wmax rs ≤ B := by
  have key : ∀ (rs : List (List Cl)) (m : Int), 0 ≤ m → m ≤ B → (∀ x ∈ rs, wsum x ≤ B) → 0 ≤ rs.foldl (fun m r => if m < wsum r then wsum r else m) m ∧ rs.foldl (fun m r => if m < wsum r then wsum r else m) m ≤ B := by
    intro rs
    induction rs with
    | nil => intro m a b _; exact ⟨a, b⟩
    | cons r rs ih =>
      intro m a b hx
      rw [List.foldl_cons]
      refine ih _ ?_ ?_ (fun x hx' => hx x (by simp [hx']))
      · split <;> omega
      · have := hx r (by simp); split <;> omega
  exact key rs 0 (Int.le_refl _) h0 h
theorem wrapN_length (l : List Cl) (w : Int) : (wrapN l w).length ≤ l.length + 1 := by unfold wrapN; rw [mkR_length]; exact wszs_len l w
end Go.Proofs.Ytnlhpbnonmdkdaa
