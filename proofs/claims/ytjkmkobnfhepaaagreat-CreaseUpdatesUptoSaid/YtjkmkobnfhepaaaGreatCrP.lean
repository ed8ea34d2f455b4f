/- Creases: plain facts: hidden spans as items; the document's, place by place. -/
import Derived.Test.YtjkmkobnfhepaaaGreatWvB
namespace Go.Proofs.YtjkmkobnfhepaaaGreat
set_option linter.unusedVariables false
/-- Right spans, from a place on, up to another one. -/
def CrOk : Int → List (Int × Int) → Int → Prop
  | f, [], t => f ≤ t
  | f, x :: l, t => f ≤ x.1 ∧ x.1 < x.2 ∧ CrOk x.2 l t
theorem CrOk.le : ∀ {f : Int} {l : List (Int × Int)} {t : Int}, CrOk f l t → f ≤ t
  | _, [], _, h => h
  | f, x :: l, t, h => by have := CrOk.le h.2.2; have := h.1; have := h.2.1; omega
/-- A piece as an item: plain (0), or a placeholder (1). -/
def cpc (k n : Int) : I7 := ⟨k, 0, n, if k = 0 then n else 1, 0, 0, ⟨#[]⟩⟩
def cgap (k n : Int) : List I7 := if 0 < n then [cpc k n] else []
def crQ : Int → List (Int × Int) → List I7
  | _, [] => []
  | f, x :: l => cgap 0 (x.1 - f) ++ (cgap 1 (x.2 - x.1) ++ crQ x.2 l)
def clast : Int → List (Int × Int) → Int
  | f, [] => f
  | _, x :: l => clast x.2 l
def crP (f : Int) (l : List (Int × Int)) (t : Int) : List I7 := crQ f l ++ cgap 0 (t - clast f l)
theorem crP_cons (f : Int) (x : Int × Int) (l : List (Int × Int)) (t : Int) : crP f (x :: l) t = cgap 0 (x.1 - f) ++ (cgap 1 (x.2 - x.1) ++ crP x.2 l t) := by
  unfold crP
  simp only [crQ, clast, List.append_assoc]
theorem crP_nil (f t : Int) : crP f [] t = cgap 0 (t - f) := by simp [crP, crQ, clast]
theorem crQ_snoc : ∀ (l : List (Int × Int)) (f : Int) (x : Int × Int), crQ f (l ++ [x]) = crQ f l ++ (cgap 0 (x.1 - clast f l) ++ cgap 1 (x.2 - x.1)) ∧ clast f (l ++ [x]) = x.2
  | [], f, x => by simp [crQ, clast]
  | y :: l, f, x => by
    obtain ⟨h1, h2⟩ := crQ_snoc l y.2 x
    refine ⟨?_, ?_⟩
    · show cgap 0 (y.1 - f) ++ (cgap 1 (y.2 - y.1) ++ crQ y.2 (l ++ [x])) = _
      rw [h1]
      simp only [crQ, clast, List.append_assoc]
    · show clast y.2 (l ++ [x]) = x.2
      exact h2
theorem cgap_len (k n : Int) : (cgap k n).length ≤ 1 := by unfold cgap; split <;> simp
theorem crP_len : ∀ (l : List (Int × Int)) (f t : Int), (crP f l t).length ≤ 2 * l.length + 1
  | [], f, t => by rw [crP_nil]; have := cgap_len 0 (t - f); simp; omega
  | x :: l, f, t => by
    rw [crP_cons]
    have := crP_len l x.2 t
    have := cgap_len 0 (x.1 - f)
    have := cgap_len 1 (x.2 - x.1)
    simp only [List.length_append, List.length_cons]
    omega
/-- How many runes the woven text has by the items, and the creased one. -/
def crn : List (Int × Int) → Int
  | [] => 0
  | x :: l => x.2 - x.1 - 1 + crn l
theorem crP_sums : ∀ (l : List (Int × Int)) (f t : Int), CrOk f l t → wdsum 0 (crP f l t) = t - f ∧ wdsum 1 (crP f l t) = t - f - crn l
  | [], f, t, h => by
    unfold CrOk at h
    rw [crP_nil]
    unfold cgap crn
    split <;> (simp [wdsum, wdz, cpc]; try omega)
  | x :: l, f, t, h => by
    obtain ⟨h1, h2, h3⟩ := h
    obtain ⟨e0, e1⟩ := crP_sums l x.2 t h3
    rw [crP_cons]
    simp only [wdsum_append, e0, e1, crn]
    unfold cgap
    rw [if_pos (show 0 < x.2 - x.1 from by omega)]
    split <;> (simp [wdsum, wdz, cpc]; omega)
/-- So many numbers from one on. -/
def rng (f : Int) : Nat → List Int
  | 0 => []
  | k + 1 => f :: rng (f + 1) k
theorem rng_add : ∀ (a b : Nat) (f : Int), rng f (a + b) = rng f a ++ rng (f + a) b
  | 0, b, f => by simp [rng]
  | a + 1, b, f => by
    rw [show a + 1 + b = (a + b) + 1 from by omega, rng, rng_add a b (f + 1), rng, List.cons_append, show f + 1 + (a : Int) = f + ((a + 1 : Nat) : Int) from by omega]
theorem rng_mem : ∀ (k : Nat) (f x : Int), x ∈ rng f k ↔ f ≤ x ∧ x < f + k
  | 0, f, x => by
    rw [rng]
    constructor
    · intro h; cases h
    · intro h; omega
  | k + 1, f, x => by
    rw [rng, List.mem_cons, rng_mem k (f + 1) x]
    omega
theorem rng_len : ∀ (k : Nat) (f : Int), (rng f k).length = k
  | 0, _ => rfl
  | k + 1, f => by simp [rng, rng_len k]
theorem rng_snoc (k : Nat) (f : Int) : rng f (k + 1) = rng f k ++ [f + k] := by
  rw [rng_add k 1 f]
  simp [rng]
/-- The span that hides the rune behind a place, by the document: the first one. -/
def chid (l : List (Int × Int)) (p : Int) : Option (Int × Int) := l.find? fun x => decide (x.1 ≤ p ∧ p < x.2)
theorem chid_cons (x : Int × Int) (l : List (Int × Int)) (p : Int) : chid (x :: l) p = if x.1 ≤ p ∧ p < x.2 then some x else chid l p := by
  unfold chid
  rw [List.find?_cons]
  by_cases h : x.1 ≤ p ∧ p < x.2
  · rw [if_pos h, decide_eq_true h]
  · rw [if_neg h, decide_eq_false h]
theorem chid_ahead : ∀ (l : List (Int × Int)) (f t p : Int), CrOk f l t → p < f → chid l p = none
  | [], _, _, _, _, _ => rfl
  | x :: l, f, t, p, h, hp => by
    obtain ⟨h1, h2, h3⟩ := h
    rw [chid_cons, if_neg (by omega)]
    exact chid_ahead l x.2 t p h3 (by omega)
/-- Does a rune of the creased text begin at a place? -/
def cbeg (l : List (Int × Int)) (p : Int) : Bool := match chid l p with | none => true | some x => decide (x.1 = p)
def cst : Int → List (Int × Int) → Int → List Int
  | f, [], t => rng f (t - f).toNat
  | f, x :: l, t => rng f (x.1 - f).toNat ++ x.1 :: cst x.2 l t
theorem filter_all {α : Type} {p : α → Bool} {l : List α} (h : ∀ x ∈ l, p x = true) : l.filter p = l := List.filter_eq_self.2 h
theorem filter_none {α : Type} {p : α → Bool} {l : List α} (h : ∀ x ∈ l, p x = false) : l.filter p = [] := List.filter_eq_nil_iff.2 (fun x hx => by rw [h x hx]; simp)
theorem cst_is : ∀ (l : List (Int × Int)) (f t : Int) (g : List (Int × Int)), CrOk f l t → (∀ p, f ≤ p → chid (g ++ l) p = chid l p) → (rng f (t - f).toNat).filter (cbeg (g ++ l)) = cst f l t
  | [], f, t, g, h, hg => by
    unfold cst
    refine filter_all fun p hp => ?_
    have := (rng_mem _ _ _).1 hp
    unfold cbeg
    rw [hg p this.1]
    rfl
  | x :: l, f, t, g, h, hg => by
    obtain ⟨h1, h2, h3⟩ := h
    have hle := h3.le
    have e : rng f (t - f).toNat = rng f (x.1 - f).toNat ++ (x.1 :: (rng (x.1 + 1) (x.2 - x.1 - 1).toNat ++ rng x.2 (t - x.2).toNat)) := by
      rw [show (t - f).toNat = (x.1 - f).toNat + ((x.2 - x.1 - 1).toNat + (t - x.2).toNat + 1) from by omega, rng_add, show f + ((x.1 - f).toNat : Int) = x.1 from by omega, rng, rng_add, show x.1 + 1 + ((x.2 - x.1 - 1).toNat : Int) = x.2 from by omega]
    have hx : ∀ p, f ≤ p → cbeg (g ++ x :: l) p = match (if x.1 ≤ p ∧ p < x.2 then some x else chid l p) with | none => true | some y => decide (y.1 = p) := fun p hp => by
      unfold cbeg
      rw [hg p hp, chid_cons]
    rw [e, List.filter_append, cst]
    congr 1
    · refine filter_all fun p hp => ?_
      have := (rng_mem _ _ _).1 hp
      rw [hx p this.1, if_neg (by omega), chid_ahead l x.2 t p h3 (by omega)]
    · have e1 : cbeg (g ++ x :: l) x.1 = true := by rw [hx _ h1, if_pos (by omega)]; simp
      rw [List.filter_cons_of_pos e1, List.filter_append]
      congr 1
      rw [filter_none (fun p hp => by
        have := (rng_mem _ _ _).1 hp
        rw [hx p (by omega), if_pos (by omega)]
        simp only
        exact decide_eq_false (by omega)), List.nil_append]
      have ih := cst_is l x.2 t (g ++ [x]) h3 (fun p hp => by
        rw [List.append_assoc, List.singleton_append, hg p (by omega), chid_cons, if_neg (by omega)])
      rw [List.append_assoc, List.singleton_append] at ih
      exact ih
theorem cst_doc {n : Nat} {l : List (Int × Int)} (h : CrOk 0 l n) : (rng 0 n).filter (cbeg l) = cst 0 l n := by
  have := cst_is l 0 n [] h (fun p _ => rfl)
  rw [show ((n : Int) - 0).toNat = n from by omega, List.nil_append] at this
  exact this
theorem cst_len : ∀ (l : List (Int × Int)) (f t : Int), CrOk f l t → ((cst f l t).length : Int) = t - f - crn l
  | [], f, t, h => by unfold CrOk at h; unfold cst crn; rw [rng_len]; omega
  | x :: l, f, t, h => by
    obtain ⟨h1, h2, h3⟩ := h
    have ih := cst_len l x.2 t h3
    unfold cst crn
    simp only [List.length_append, List.length_cons, rng_len]
    omega
/-- The document's pieces: (hidden, n), rune by rune. -/
def cput (acc : List (Int × Int)) (h : Option (Int × Int)) : List (Int × Int) :=
  match h with
  | some x => acc ++ [(x.2 - x.1, 1)]
  | none => match acc.getLast? with
    | some y => if y.1 = 0 then acc.dropLast ++ [(y.1, y.2 + 1)] else acc ++ [(0, 1)]
    | none => acc ++ [(0, 1)]
def cgrp (l : List (Int × Int)) (acc : List (Int × Int)) (S : List Int) : List (Int × Int) := S.foldl (fun acc p => cput acc (chid l p)) acc
def cpcs (l : List I7) : List (Int × Int) := l.map fun i => (if i.tag = 1 then i.d0 else 0, i.d1)
def cEnd (acc : List (Int × Int)) : Prop := ∀ y, acc.getLast? = some y → y.1 ≠ 0
theorem cput_same (acc : List (Int × Int)) (m : Int) : cput (acc ++ [(0, m)]) none = acc ++ [(0, m + 1)] := by
  unfold cput
  simp
theorem cput_new {acc : List (Int × Int)} (h : cEnd acc) : cput acc none = acc ++ [(0, 1)] := by
  unfold cput
  simp only
  split
  · rename_i y hy
    rw [if_neg (h y hy)]
  · rfl
theorem cgrp_go (g : List (Int × Int)) : ∀ (k : Nat) (acc : List (Int × Int)) (m f : Int) (S : List Int), (∀ p ∈ rng f k, chid g p = none) → cgrp g (acc ++ [(0, m)]) (rng f k ++ S) = cgrp g (acc ++ [(0, m + k)]) S
  | 0, acc, m, f, S, _ => by simp [rng]
  | k + 1, acc, m, f, S, h => by
    have e : cgrp g (acc ++ [(0, m)]) (rng f (k + 1) ++ S) = cgrp g (cput (acc ++ [(0, m)]) (chid g f)) (rng (f + 1) k ++ S) := rfl
    rw [e, h f (by simp [rng]), cput_same, cgrp_go g k acc (m + 1) (f + 1) S (fun p hp => h p (by simp [rng, hp]))]
    congr 4
    omega
theorem cgrp_row (g : List (Int × Int)) {acc : List (Int × Int)} (ha : cEnd acc) (k : Nat) (f : Int) (S : List Int) (h : ∀ p ∈ rng f k, chid g p = none) : cgrp g acc (rng f k ++ S) = cgrp g (acc ++ cpcs (cgap 0 (k : Int))) S := by
  cases k with
  | zero => simp [rng, cgap, cpcs]
  | succ k =>
    have e : cgrp g acc (rng f (k + 1) ++ S) = cgrp g (cput acc (chid g f)) (rng (f + 1) k ++ S) := rfl
    rw [e, h f (by simp [rng]), cput_new ha, cgrp_go g k acc 1 (f + 1) S (fun p hp => h p (by simp [rng, hp]))]
    unfold cgap
    rw [if_pos (by omega)]
    simp only [cpcs, cpc, List.map_cons, List.map_nil]
    congr 4
    simp
    omega
theorem cgrp_is : ∀ (l : List (Int × Int)) (f t : Int) (g acc : List (Int × Int)), CrOk f l t → (∀ p, f ≤ p → chid (g ++ l) p = chid l p) → cEnd acc → cgrp (g ++ l) acc (cst f l t) = acc ++ cpcs (crP f l t)
  | [], f, t, g, acc, h, hg, ha => by
    have h9 := cgrp_row (g ++ []) ha (t - f).toNat f [] (fun p hp => by rw [hg p ((rng_mem _ _ _).1 hp).1]; rfl)
    unfold cst
    rw [List.append_nil (rng f _)] at h9
    rw [h9, crP_nil]
    unfold CrOk at h
    rw [show ((t - f).toNat : Int) = t - f from by omega]
    rfl
  | x :: l, f, t, g, acc, h, hg, ha => by
    obtain ⟨h1, h2, h3⟩ := h
    have r1 := cgrp_row (g ++ x :: l) ha (x.1 - f).toNat f (x.1 :: cst x.2 l t) (fun p hp => by
      have := (rng_mem _ _ _).1 hp
      rw [hg p this.1, chid_cons, if_neg (by omega)]
      exact chid_ahead l x.2 t p h3 (by omega))
    unfold cst
    rw [r1, show ((x.1 - f).toNat : Int) = x.1 - f from by omega]
    have r2 : ∀ acc', cgrp (g ++ x :: l) acc' (x.1 :: cst x.2 l t) = cgrp (g ++ x :: l) (acc' ++ [(x.2 - x.1, 1)]) (cst x.2 l t) := fun acc' => by
      show cgrp (g ++ x :: l) (cput acc' (chid (g ++ x :: l) x.1)) (cst x.2 l t) = _
      rw [hg _ h1, chid_cons, if_pos (by omega)]
      rfl
    rw [r2]
    have ih := cgrp_is l x.2 t (g ++ [x]) (acc ++ cpcs (cgap 0 (x.1 - f)) ++ [(x.2 - x.1, 1)]) h3 (fun p hp => by
      rw [List.append_assoc, List.singleton_append, hg p (by omega), chid_cons, if_neg (by omega)]) (fun y hy => by
      rw [List.getLast?_append, List.getLast?_singleton] at hy
      simp at hy
      rw [← hy]
      simp only
      omega)
    rw [List.append_assoc g, List.singleton_append] at ih
    rw [ih, crP_cons]
    have e : cgap 1 (x.2 - x.1) = [cpc 1 (x.2 - x.1)] := by unfold cgap; rw [if_pos (by omega)]
    rw [e]
    simp [cpcs, cpc]
theorem cgrp_doc {n : Nat} {l : List (Int × Int)} (h : CrOk 0 l n) : cgrp l [] ((rng 0 n).filter (cbeg l)) = cpcs (crP 0 l n) := by
  rw [cst_doc h]
  have := cgrp_is l 0 n [] [] h (fun p _ => rfl) (fun y hy => by simp at hy)
  simpa using this
/-- Where a hidden span of the buffer is in the woven text. -/
def cpl (o : List In) (x : Int × Int) : Int × Int := (x.1 + wosum x.1 1 o, x.2 + wosum x.2 0 o)
theorem wosum_mono (o : List In) (p q b c : Int) (h : p < q ∨ (p = q ∧ (b = 1 → c = 1))) : wosum p b o ≤ wosum q c o := by
  induction o with
  | nil => exact Int.le_refl _
  | cons a l ih =>
    show (if a.pl < p ∨ (a.pl = p ∧ b = 1) then (wcnt a : Int) else 0) + wosum p b l ≤ (if a.pl < q ∨ (a.pl = q ∧ c = 1) then (wcnt a : Int) else 0) + wosum q c l
    have : (if a.pl < p ∨ (a.pl = p ∧ b = 1) then (wcnt a : Int) else 0) ≤ (if a.pl < q ∨ (a.pl = q ∧ c = 1) then (wcnt a : Int) else 0) := by
      split
      · rename_i g
        rw [if_pos (by rcases h with h | ⟨rfl, h⟩ <;> rcases g with g | ⟨g, g'⟩ <;> first | exact Or.inl (by omega) | exact Or.inr ⟨g, h g'⟩)]
        exact Int.le_refl _
      · split <;> omega
    omega
theorem wosum_pos (o : List In) (p b : Int) : 0 ≤ wosum p b o := by
  induction o with
  | nil => exact Int.le_refl _
  | cons a l ih =>
    show 0 ≤ (if a.pl < p ∨ (a.pl = p ∧ b = 1) then (wcnt a : Int) else 0) + wosum p b l
    split <;> omega
/-- Right hidden spans of a buffer of n, from a place on. -/
def RtOk : Int → List (Int × Int) → Int → Prop
  | _, [], _ => True
  | f, x :: l, n => f ≤ x.1 ∧ x.1 < x.2 ∧ x.2 ≤ n ∧ RtOk x.2 l n
instance : ∀ (f : Int) (l : List (Int × Int)) (n : Int), Decidable (RtOk f l n)
  | _, [], _ => isTrue trivial
  | f, x :: l, n => by
    have := instDecidableRtOk x.2 l n
    unfold RtOk
    infer_instance
theorem RtOk.cr (o : List In) : ∀ {l : List (Int × Int)} {f n F : Int}, RtOk f l n → f ≤ n → F ≤ f + wosum f 0 o → CrOk F (l.map (cpl o)) (n + wosum n 1 o)
  | [], f, n, F, _, hn, hF => by
    have h := wosum_mono o f n 0 1 (by omega)
    show F ≤ n + wosum n 1 o
    omega
  | x :: l, f, n, F, h, hn, hF => by
    obtain ⟨h1, h2, h3, h4⟩ := h
    have e1 := wosum_mono o f x.1 0 1 (by omega)
    have e2 := wosum_mono o x.1 x.2 1 0 (by omega)
    refine ⟨?_, ?_, RtOk.cr o h4 h3 (Int.le_refl _)⟩
    · show F ≤ x.1 + wosum x.1 1 o
      omega
    · show x.1 + wosum x.1 1 o < x.2 + wosum x.2 0 o
      omega
theorem RtOk.snoc : ∀ {l : List (Int × Int)} {f n : Int} {x : Int × Int}, RtOk f (l ++ [x]) n ↔ RtOk f l n ∧ (clast f l ≤ x.1 ∧ x.1 < x.2 ∧ x.2 ≤ n)
  | [], f, n, x => by
    show (f ≤ x.1 ∧ x.1 < x.2 ∧ x.2 ≤ n ∧ True) ↔ True ∧ (f ≤ x.1 ∧ x.1 < x.2 ∧ x.2 ≤ n)
    simp
  | y :: l, f, n, x => by
    show (f ≤ y.1 ∧ y.1 < y.2 ∧ y.2 ≤ n ∧ RtOk y.2 (l ++ [x]) n) ↔ (f ≤ y.1 ∧ y.1 < y.2 ∧ y.2 ≤ n ∧ RtOk y.2 l n) ∧ (clast y.2 l ≤ x.1 ∧ x.1 < x.2 ∧ x.2 ≤ n)
    rw [RtOk.snoc]
    constructor
    · rintro ⟨a, b, c, d, e⟩; exact ⟨⟨a, b, c, d⟩, e⟩
    · rintro ⟨⟨a, b, c, d⟩, e⟩; exact ⟨a, b, c, d, e⟩
theorem RtOk.pre : ∀ {l m : List (Int × Int)} {f n : Int}, RtOk f (l ++ m) n → RtOk f l n
  | [], _, _, _, _ => trivial
  | y :: l, m, f, n, h => by
    obtain ⟨h1, h2, h3, h4⟩ := h
    exact ⟨h1, h2, h3, RtOk.pre h4⟩
theorem RtOk.each : ∀ {l : List (Int × Int)} {f n : Int}, RtOk f l n → ∀ x ∈ l, f ≤ x.1 ∧ x.1 < x.2 ∧ x.2 ≤ n
  | y :: l, f, n, h, x, hx => by
    obtain ⟨h1, h2, h3, h4⟩ := h
    rcases List.mem_cons.1 hx with rfl | hx
    · exact ⟨h1, h2, h3⟩
    · have := RtOk.each h4 x hx; omega
end Go.Proofs.YtjkmkobnfhepaaaGreat
