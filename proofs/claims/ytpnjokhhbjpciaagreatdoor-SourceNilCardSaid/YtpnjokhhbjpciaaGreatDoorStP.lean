/- How many cells a line's runes take, tabs among them: plain facts. -/
import Derived.Test.YtpnjokhhbjpciaaGreatDoorBase
namespace Go.Proofs.YtpnjokhhbjpciaaGreatDoor
set_option linter.unusedVariables false
/-- How many cells a tab takes that begins at a cell. -/
def tleft (tab at_ : Int) : Int := if at_ < 64 then tab - at_ % tab else 1
def csz (f : Int → Int) (tab at_ r : Int) : Int := if r = 9 then tleft tab at_ else f r
/-- How many cells each rune takes, from a cell on. -/
def szs (f : Int → Int) (tab : Int) : Int → List Int → List Int
  | _, [] => []
  | at_, r :: l => csz f tab at_ r :: szs f tab (at_ + csz f tab at_ r) l
theorem szs_length (f : Int → Int) (tab : Int) : ∀ (l : List Int) (a : Int), (szs f tab a l).length = l.length
  | [], _ => rfl
  | r :: l, a => by rw [szs, List.length_cons, List.length_cons, szs_length f tab l]
theorem szs_append (f : Int → Int) (tab : Int) : ∀ (l m : List Int) (a : Int), szs f tab a (l ++ m) = szs f tab a l ++ szs f tab (a + (szs f tab a l).sum) m
  | [], m, a => by simp [szs]
  | r :: l, m, a => by
    rw [List.cons_append, szs, szs, List.cons_append, szs_append f tab l m]
    congr 3
    rw [List.sum_cons]; omega
theorem tleft_bd {tab a : Int} (h1 : 1 ≤ tab) (_h2 : 0 ≤ a) : 1 ≤ tleft tab a ∧ tleft tab a ≤ tab := by
  unfold tleft
  have := Int.emod_nonneg a (show tab ≠ 0 by omega)
  have := Int.emod_lt_of_pos a (show 0 < tab by omega)
  split <;> omega
theorem csz_bd {f : Int → Int} (hf : ∀ r, 0 ≤ f r ∧ f r ≤ 2) {tab a : Int} (h1 : 1 ≤ tab) (h3 : tab ≤ 16) (h2 : 0 ≤ a) (r : Int) : 0 ≤ csz f tab a r ∧ csz f tab a r ≤ 16 := by
  unfold csz
  have := tleft_bd h1 h2
  have := hf r
  split <;> omega
theorem szs_bd {f : Int → Int} (hf : ∀ r, 0 ≤ f r ∧ f r ≤ 2) {tab : Int} (h1 : 1 ≤ tab) (h3 : tab ≤ 16) : ∀ (l : List Int) (a : Int), 0 ≤ a → (∀ x ∈ szs f tab a l, 0 ≤ x ∧ x ≤ 16) ∧ 0 ≤ (szs f tab a l).sum ∧ (szs f tab a l).sum ≤ 16 * l.length
  | [], a, _ => by simp [szs]
  | r :: l, a, h => by
    have hc := csz_bd hf h1 h3 h r
    have ih := szs_bd hf h1 h3 l (a + csz f tab a r) (by omega)
    rw [szs, List.sum_cons, List.length_cons]
    refine ⟨fun x hx => ?_, by omega, by omega⟩
    rcases List.mem_cons.1 hx with rfl | hx
    · exact hc
    · exact ih.1 x hx
theorem tab_ne {tab a n : Int} (h1 : 1 ≤ tab) (h2 : 0 ≤ a) (h3 : 1 ≤ n) (h4 : n < tab - a % tab) : (a + n) % tab ≠ 0 := by
  have h5 := Int.emod_nonneg a (show tab ≠ 0 by omega)
  have h6 : (a + n) % tab = (a % tab + n) % tab := by rw [Int.emod_add_emod]
  rw [h6, Int.emod_eq_of_lt (by omega) (by omega)]
  omega
theorem tab_eq {tab a : Int} (h1 : 1 ≤ tab) : (a + (tab - a % tab)) % tab = 0 := by
  have : a + (tab - a % tab) = tab * (a / tab) + tab := by have := Int.mul_ediv_add_emod a tab; omega
  rw [this]
  simp
/-- The cell at a place. -/
def celAt (f : Int → Int) (tab : Int) (l : List Int) (k : Nat) : Int := ((szs f tab 0 l).take k).sum
theorem szs_take (f : Int → Int) (tab : Int) (l : List Int) (a : Int) (k : Nat) : (szs f tab a l).take k = szs f tab a (l.take k) := by
  have := szs_append f tab (l.take k) (l.drop k) a
  rw [List.take_append_drop] at this
  rw [this]
  rcases Nat.lt_or_ge k l.length with h | h
  · rw [List.take_append_of_le_length (by rw [szs_length, List.length_take]; omega), List.take_of_length_le (by rw [szs_length, List.length_take]; omega)]
  · rw [List.drop_of_length_le h, szs, List.append_nil, List.take_of_length_le (by rw [szs_length, List.length_take]; omega)]
/-- The last place whose cell is not above q. -/
def PlaceIs (d : List Int) (q : Int) (p : Nat) : Prop := p ≤ d.length ∧ (d.take p).sum ≤ q ∧ ∀ i, p < i → i ≤ d.length → q < (d.take i).sum
theorem PlaceIs.unique {d : List Int} {q : Int} {p p' : Nat} (h : PlaceIs d q p) (h' : PlaceIs d q p') : p = p' := by
  obtain ⟨h1, h2, h3⟩ := h
  obtain ⟨g1, g2, g3⟩ := h'
  rcases Nat.lt_trichotomy p p' with h | h | h
  · have := h3 p' h g1; omega
  · exact h
  · have := g3 p h h1; omega
theorem sum_take_le : ∀ (d : List Int) (i j : Nat), (∀ x ∈ d, 0 ≤ x) → i ≤ j → (d.take i).sum ≤ (d.take j).sum
  | [], i, j, _, _ => by simp
  | x :: d, 0, j, h, _ => by
    have : ∀ (l : List Int), (∀ x ∈ l, 0 ≤ x) → 0 ≤ l.sum := by
      intro l hl
      induction l with
      | nil => simp
      | cons y l ih => rw [List.sum_cons]; have := hl y (by simp); have := ih (fun z hz => hl z (by simp [hz])); omega
    simpa using this ((x :: d).take j) (fun y hy => h y (List.mem_of_mem_take hy))
  | x :: d, i + 1, 0, h, hh => by omega
  | x :: d, i + 1, j + 1, h, hh => by
    have := sum_take_le d i j (fun y hy => h y (by simp [hy])) (by omega)
    simp only [List.take_succ_cons, List.sum_cons]; omega
theorem sum_nn (d : List Int) (h : ∀ x ∈ d, 0 ≤ x) : 0 ≤ d.sum := by
  have := sum_take_le d 0 d.length h (by omega)
  simpa using this
theorem sum_le16 : ∀ (d : List Int), (∀ x ∈ d, 0 ≤ x ∧ x ≤ 16) → d.sum ≤ 16 * d.length
  | [], _ => by simp
  | x :: d, h => by
    have := sum_le16 d (fun y hy => h y (by simp [hy]))
    have := h x (by simp)
    simp only [List.sum_cons, List.length_cons]; omega
/-- What Place has gathered of sizes. -/
def PlSt (d : List Int) (q : Int) (p : Nat) (cell : Int) : Prop := p ≤ d.length ∧ cell = (d.take p).sum ∧ (0 ≤ q → PlaceIs d q p) ∧ (q < 0 → p = 0)
theorem PlSt.nil (q : Int) : PlSt [] q 0 0 := ⟨by simp, by simp, fun h => ⟨by simp, by simpa using h, fun i h1 h2 => by simp at h2; omega⟩, fun _ => rfl⟩
theorem PlSt.yes {d : List Int} {q cell x : Int} {p : Nat} (h : PlSt d q p cell) (hd : ∀ y ∈ d, 0 ≤ y) (hx : 0 ≤ x) (hle : d.sum + x ≤ q) : PlSt (d ++ [x]) q (p + 1) (d.sum + x) := by
  obtain ⟨h1, h2, h3, h4⟩ := h
  have h0 := sum_nn d hd
  have hp : p = d.length := by
    obtain ⟨g1, g2, g3⟩ := h3 (by omega)
    rcases Nat.lt_or_ge p d.length with hlt | hge
    · have := g3 d.length hlt (Nat.le_refl _)
      rw [List.take_of_length_le (Nat.le_refl _)] at this; omega
    · omega
  subst hp
  have e : ((d ++ [x]).take (d.length + 1)).sum = d.sum + x := by rw [List.take_of_length_le (by simp), List.sum_append]; simp
  refine ⟨by simp, e.symm, fun _ => ⟨by simp, by rw [e]; exact hle, fun i h5 h6 => by simp at h6; omega⟩, fun hq => by omega⟩
theorem PlSt.no {d : List Int} {q cell x : Int} {p : Nat} (h : PlSt d q p cell) (_hx : 0 ≤ x) (hle : ¬ d.sum + x ≤ q) : PlSt (d ++ [x]) q p cell := by
  obtain ⟨h1, h2, h3, h4⟩ := h
  have e : (d ++ [x]).take p = d.take p := List.take_append_of_le_length h1
  refine ⟨by simp; omega, by rw [e]; exact h2, fun hq => ?_, h4⟩
  obtain ⟨g1, g2, g3⟩ := h3 hq
  refine ⟨by simp; omega, by rw [e]; exact g2, fun i h5 h6 => ?_⟩
  rcases Nat.lt_or_ge d.length i with hlt | hge
  · rw [List.take_of_length_le (by simp; omega), List.sum_append]
    simp; omega
  · rw [List.take_append_of_le_length hge]; exact g3 i h5 hge
/-- The cells of all places. -/
def cls (d : List Int) : List Int := (List.range (d.length + 1)).map fun i => (d.take i).sum
theorem cls_length (d : List Int) : (cls d).length = d.length + 1 := by simp [cls]
theorem cls_at (d : List Int) (i : Nat) (h : i ≤ d.length) : (cls d).getD i 0 = (d.take i).sum := by
  unfold cls
  rw [List.getD_eq_getElem?_getD, List.getElem?_map, List.getElem?_range (by omega)]
  rfl
theorem cls_nil : cls [] = [0] := rfl
theorem cls_snoc (d : List Int) (x : Int) : cls (d ++ [x]) = cls d ++ [d.sum + x] := by
  unfold cls
  rw [List.length_append, List.length_cons, List.length_nil, List.range_succ, List.map_append]
  congr 1
  · apply List.map_congr_left
    intro i hi
    have := List.mem_range.1 hi
    rw [List.take_append_of_le_length (by omega)]
  · simp [List.take_of_length_le, List.sum_append]
end Go.Proofs.YtpnjokhhbjpciaaGreatDoor
