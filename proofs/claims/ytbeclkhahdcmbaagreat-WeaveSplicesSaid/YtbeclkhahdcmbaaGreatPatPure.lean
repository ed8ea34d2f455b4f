/- Patches: plain facts on normal patches, on the pieces that they keep, and on what two of them do: nothing of the program. -/
import Derived.Test.YtbeclkhahdcmbaaGreatBase
namespace Go.Proofs.YtbeclkhahdcmbaaGreat
open Go.RowKit
/-- A change: what stood in the places from oa to ob stands in those from na to nb. -/
structure Ch where
  oa : Int
  ob : Int
  na : Int
  nb : Int
/-- A piece that is kept. -/
structure Pc where
  o : Int
  w : Int
  n : Int
/-- Where a place goes that is kept, behind a change that ends at p, and at q now. -/
def kp (p q : Int) : List Ch → Int → Int
  | [], at_ => at_ + (q - p)
  | c :: l, at_ => if at_ < c.oa then at_ + (q - p) else if at_ < c.ob then -1 else kp c.ob c.nb l at_
/-- Is a change right behind another one? -/
def cOk (M p q : Int) (fi : Bool) (c : Ch) : Prop := 0 ≤ c.oa ∧ c.oa ≤ c.ob ∧ c.ob ≤ M ∧ 0 ≤ c.na ∧ c.na ≤ c.nb ∧ c.nb ≤ M ∧ ¬ (c.oa = c.ob ∧ c.na = c.nb) ∧ c.oa - p = c.na - q ∧ 0 ≤ c.oa - p ∧ (fi = false → 1 ≤ c.oa - p)
/-- Is a patch normal? -/
def nrm (M : Int) : Int → Int → Bool → List Ch → Prop
  | _, _, _, [] => True
  | p, q, fi, c :: l => cOk M p q fi c ∧ nrm M c.ob c.nb false l
/-- The pieces that are kept. -/
def pcs (L p q : Int) : List Ch → List Pc
  | [] => [⟨p, q, L⟩]
  | c :: l => (if 0 < c.oa - p then [⟨p, q, c.oa - p⟩] else []) ++ pcs L c.ob c.nb l
/-- What both keep. -/
def inter : List Pc → List Pc → List Pc
  | [], _ => []
  | _ :: _, [] => []
  | p :: ps, q :: qs =>
    (if max p.w q.o < min (p.w + p.n) (q.o + q.n) then [⟨p.o + max p.w q.o - p.w, q.w + max p.w q.o - q.o, min (p.w + p.n) (q.o + q.n) - max p.w q.o⟩] else []) ++
      (if p.w + p.n < q.o + q.n then inter ps (q :: qs) else inter (p :: ps) qs)
  termination_by a b => a.length + b.length
/-- The changes between pieces. -/
def chg (p q : Int) : List Pc → List Ch
  | [] => []
  | x :: xs => (if x.o - p = 0 ∧ x.w - q = 0 then [] else [⟨p, x.o, q, x.w⟩]) ++ chg (x.o + x.n) (x.w + x.n) xs
/-- Where a place of a piece goes. -/
def pk : List Pc → Int → Int
  | [], _ => -1
  | x :: xs, at_ => if at_ < x.o then -1 else if at_ < x.o + x.n then at_ - x.o + x.w else pk xs at_
/-- Pieces rise, in both. -/
def srt (A B : Int) : List Pc → Prop
  | [] => True
  | x :: xs => A ≤ x.o ∧ B ≤ x.w ∧ 1 ≤ x.n ∧ srt (x.o + x.n) (x.w + x.n) xs
theorem srt_weak : ∀ {A B A' B' : Int} {xs : List Pc}, srt A B xs → A' ≤ A → B' ≤ B → srt A' B' xs
  | _, _, _, _, [], _, _, _ => trivial
  | _, _, _, _, _ :: _, h, h1, h2 => ⟨Int.le_trans h1 h.1, Int.le_trans h2 h.2.1, h.2.2⟩
theorem pk_lt {A B at_ : Int} {xs : List Pc} (h : srt A B xs) (ha : at_ < A) : pk xs at_ = -1 := by
  cases xs with
  | nil => rfl
  | cons x xs => unfold pk; rw [if_pos (by have := h.1; omega)]
theorem pk_ge : ∀ {A B : Int} {xs : List Pc} (_ : srt A B xs) (at_ : Int) (_ : 0 ≤ B), pk xs at_ = -1 ∨ B ≤ pk xs at_
  | _, _, [], _, _, _ => .inl rfl
  | A, B, x :: xs, h, at_, hB => by
    obtain ⟨h1, h2, h3, h4⟩ := h
    unfold pk
    split
    · exact .inl rfl
    · split
      · right; omega
      · rcases pk_ge h4 at_ (by omega) with h5 | h5
        · exact .inl h5
        · right; omega
/-- The pieces of a normal patch rise; they say where each place goes. -/
theorem pcs_srt {M L : Int} (hL : 1 ≤ L) : ∀ {p q : Int} {fi : Bool} {l : List Ch}, nrm M p q fi l → srt p q (pcs L p q l)
  | p, q, fi, [], _ => ⟨Int.le_refl _, Int.le_refl _, hL, trivial⟩
  | p, q, fi, c :: l, h => by
    obtain ⟨⟨h1, h2, h3, h4, h5, h6, h7, h8, h9, h10⟩, h11⟩ := h
    have ih := pcs_srt hL h11
    unfold pcs
    split
    · refine ⟨Int.le_refl _, Int.le_refl _, by simp; omega, srt_weak ih (by simp; omega) (by simp; omega)⟩
    · exact srt_weak ih (by omega) (by omega)
theorem pcs_pk {M L : Int} : ∀ {p q : Int} {fi : Bool} {l : List Ch}, nrm M p q fi l → p ≤ M → ∀ {at_ : Int}, p ≤ at_ → at_ < L → 0 ≤ p → pk (pcs L p q l) at_ = kp p q l at_
  | p, q, fi, [], _, _, at_, h1, h2, h3 => by
    unfold pcs pk kp
    simp only
    rw [if_neg (by omega), if_pos (by omega)]
    omega
  | p, q, fi, c :: l, h, hp, at_, ha, hl, h0 => by
    have hh := h.2
    obtain ⟨⟨h1, h2, h3, h4, h5, h6, h7, h8, h9, h10⟩, h11⟩ := h
    unfold pcs kp
    by_cases hc : 0 < c.oa - p
    · rw [if_pos hc]
      show pk (⟨p, q, c.oa - p⟩ :: pcs L c.ob c.nb l) at_ = _
      unfold pk
      simp only
      rw [if_neg (by omega)]
      by_cases g : at_ < c.oa
      · rw [if_pos (by omega), if_pos g]; omega
      · rw [if_neg (by omega), if_neg g]
        by_cases g2 : at_ < c.ob
        · rw [if_pos g2]
          exact pk_lt (pcs_srt (by omega) hh) g2
        · rw [if_neg g2]
          exact pcs_pk hh h3 (by omega) hl (by omega)
    · rw [if_neg hc]
      show pk (pcs L c.ob c.nb l) at_ = _
      rw [if_neg (by omega)]
      by_cases g2 : at_ < c.ob
      · rw [if_pos g2]
        exact pk_lt (pcs_srt (by omega) hh) g2
      · rw [if_neg g2]
        exact pcs_pk hh h3 (by omega) hl (by omega)
/-- What both keep rises. -/
theorem inter_srt : ∀ {ps qs : List Pc} {A B m a b c d : Int}, srt a b ps → srt c d qs →
    (∀ p ps', ps = p :: ps' → (p.w ≤ m → A ≤ p.o + (m - p.w)) ∧ (m ≤ p.w → A ≤ p.o) ∧ m ≤ p.w + p.n) → (∀ q qs', qs = q :: qs' → (q.o ≤ m → B ≤ q.w + (m - q.o)) ∧ (m ≤ q.o → B ≤ q.w) ∧ m ≤ q.o + q.n) → (∀ p ps' q qs', ps = p :: ps' → qs = q :: qs' → m ≤ p.w ∨ m ≤ q.o) → srt A B (inter ps qs)
  | [], _, _, _, _, _, _, _, _, _, _, _, _, _ => by unfold inter; trivial
  | _ :: _, [], _, _, _, _, _, _, _, _, _, _, _, _ => by unfold inter; trivial
  | p :: ps, q :: qs, A, B, m, a, b, c, d, hp, hq, hA, hB, hm => by
    have hm := hm p ps q qs rfl rfl
    obtain ⟨a1, a2, a3⟩ := hA p ps rfl
    obtain ⟨b1, b2, b3⟩ := hB q qs rfl
    have hp' := hp
    have hq' := hq
    obtain ⟨_, _, p3, p4⟩ := hp
    obtain ⟨_, _, q3, q4⟩ := hq
    unfold inter
    generalize hf : max p.w q.o = f
    generalize ht : min (p.w + p.n) (q.o + q.n) = t
    have hf' : p.w ≤ f ∧ q.o ≤ f ∧ (f = p.w ∨ f = q.o) := by omega
    have ht' : t ≤ p.w + p.n ∧ t ≤ q.o + q.n ∧ (t = p.w + p.n ∨ t = q.o + q.n) := by omega
    clear hf ht
    -- the rest, with bounds that its heads keep
    have rest : ∀ A' B' m', (p.w ≤ m' → A' ≤ p.o + (m' - p.w)) → (m' ≤ p.w → A' ≤ p.o) → m' ≤ p.w + p.n → (q.o ≤ m' → B' ≤ q.w + (m' - q.o)) → (m' ≤ q.o → B' ≤ q.w) → m' ≤ q.o + q.n → (p.w + p.n < q.o + q.n → m' ≤ p.w + p.n ∨ m' ≤ q.o) → (¬ p.w + p.n < q.o + q.n → m' ≤ p.w ∨ m' ≤ q.o + q.n) →
        srt A' B' (if p.w + p.n < q.o + q.n then inter ps (q :: qs) else inter (p :: ps) qs) := by
      intro A' B' m' g1 g2 g3 g4 g5 g6 g7 g8
      split
      · refine inter_srt (m := m') p4 hq' ?_ ?_ ?_
        · rintro p2 ps2 rfl
          obtain ⟨r1, r2, r3, _⟩ := p4
          refine ⟨fun h => ?_, fun h => ?_, by omega⟩
          · rcases Int.le_total p.w m' with h9 | h9
            · have := g1 h9; omega
            · have := g2 h9; omega
          · rcases Int.le_total p.w m' with h9 | h9
            · have := g1 h9; omega
            · have := g2 h9; omega
        · rintro q2 qs2 he
          obtain ⟨rfl, rfl⟩ := List.cons.inj he
          exact ⟨g4, g5, g6⟩
        · rintro p2 ps2 q2 qs2 rfl he
          obtain ⟨rfl, rfl⟩ := List.cons.inj he
          have := p4.2.1
          have := g7 (by assumption)
          omega
      · refine inter_srt (m := m') hp' q4 ?_ ?_ ?_
        · rintro p2 ps2 he
          obtain ⟨rfl, rfl⟩ := List.cons.inj he
          exact ⟨g1, g2, g3⟩
        · rintro q2 qs2 rfl
          obtain ⟨r1, r2, r3, _⟩ := q4
          refine ⟨fun h => ?_, fun h => ?_, by omega⟩
          · rcases Int.le_total q.o m' with h9 | h9
            · have := g4 h9; omega
            · have := g5 h9; omega
          · rcases Int.le_total q.o m' with h9 | h9
            · have := g4 h9; omega
            · have := g5 h9; omega
        · rintro p2 ps2 q2 qs2 he rfl
          obtain ⟨rfl, rfl⟩ := List.cons.inj he
          have := q4.1
          have := g8 (by assumption)
          omega
    by_cases hlt : f < t
    · rw [if_pos hlt]
      refine ⟨?_, ?_, by simp only; omega, ?_⟩
      · show A ≤ p.o + f - p.w
        rcases Int.le_total p.w m with h9 | h9
        · have := a1 h9
          rcases Int.le_total q.o m with h8 | h8
          · omega
          · omega
        · have := a2 h9; omega
      · show B ≤ q.w + f - q.o
        rcases Int.le_total q.o m with h9 | h9
        · have := b1 h9
          omega
        · have := b2 h9; omega
      · refine rest _ _ t ?_ ?_ ?_ ?_ ?_ ?_ ?_ ?_ <;> (try simp only) <;> omega
    · rw [if_neg hlt]
      exact rest A B m a1 a2 a3 b1 b2 b3 (by omega) (by omega)
  termination_by ps qs => ps.length + qs.length
theorem em_pk (po pw qo qw f t at_ : Int) (R : List Pc) : pk ((if f < t then [⟨po + f - pw, qw + f - qo, t - f⟩] else []) ++ R) at_ =
    if f < t ∧ at_ < po + f - pw then -1 else if f < t ∧ at_ < po + t - pw then at_ - po + pw - qo + qw else pk R at_ := by
  by_cases h : f < t
  · rw [if_pos h]
    show pk (_ :: R) at_ = _
    unfold pk
    simp only
    by_cases g : at_ < po + f - pw
    · rw [if_pos g, if_pos ⟨h, g⟩]
    · rw [if_neg g, if_neg (show ¬ (f < t ∧ at_ < po + f - pw) from fun x => g x.2)]
      by_cases g2 : at_ < po + t - pw
      · rw [if_pos (show at_ < po + f - pw + (t - f) by omega), if_pos ⟨h, g2⟩]; omega
      · rw [if_neg (show ¬ at_ < po + f - pw + (t - f) by omega), if_neg (show ¬ (f < t ∧ at_ < po + t - pw) from fun x => g2 x.2)]
        cases R <;> rfl
  · rw [if_neg h, if_neg (fun x => h x.1), if_neg (fun x => h x.1)]
    rfl
/-- What both keep says where a place goes by both. -/
theorem inter_pk : ∀ {ps qs : List Pc} {a b c d : Int}, 0 ≤ b → 0 ≤ d → srt a b ps → srt c d qs → ∀ at_ : Int, pk (inter ps qs) at_ = if pk ps at_ < 0 then -1 else pk qs (pk ps at_)
  | [], qs, _, _, _, _, _, _, _, _, at_ => by unfold inter pk; rw [if_pos (by decide)]
  | p :: ps, [], _, _, _, _, _, _, _, _, at_ => by
    unfold inter
    rw [show pk ([] : List Pc) at_ = -1 from rfl, show pk ([] : List Pc) (pk (p :: ps) at_) = -1 from rfl]
    split <;> rfl
  | p :: ps, q :: qs, a, b, c, d, hb, hd, hp, hq, at_ => by
    have hp' := hp
    have hq' := hq
    obtain ⟨p1, p2, p3, p4⟩ := hp
    obtain ⟨q1, q2, q3, q4⟩ := hq
    unfold inter
    rw [em_pk]
    generalize hf : max p.w q.o = f
    have hf' : p.w ≤ f ∧ q.o ≤ f ∧ (f = p.w ∨ f = q.o) := by omega
    clear hf
    generalize ht : min (p.w + p.n) (q.o + q.n) = t
    have ht' : t ≤ p.w + p.n ∧ t ≤ q.o + q.n ∧ (t = p.w + p.n ∨ t = q.o + q.n) := by omega
    clear ht
    have e0 : at_ < p.o → pk (p :: ps) at_ = -1 := fun h => by unfold pk; rw [if_pos h]
    have e1 : p.o ≤ at_ → at_ < p.o + p.n → pk (p :: ps) at_ = at_ - p.o + p.w := fun h h' => by unfold pk; rw [if_neg (by omega), if_pos h']
    have e2 : p.o + p.n ≤ at_ → pk (p :: ps) at_ = pk ps at_ := fun h => by
      conv => lhs; unfold pk
      rw [if_neg (by omega), if_neg (by omega)]
    have f0 : ∀ m, m < q.o → pk (q :: qs) m = -1 := fun m h => by unfold pk; rw [if_pos h]
    have f1 : ∀ m, q.o ≤ m → m < q.o + q.n → pk (q :: qs) m = m - q.o + q.w := fun m h h' => by unfold pk; rw [if_neg (by omega), if_pos h']
    have f2 : ∀ m, q.o + q.n ≤ m → pk (q :: qs) m = pk qs m := fun m h => by
      conv => lhs; unfold pk
      rw [if_neg (by omega), if_neg (by omega)]
    have z0 : ∀ (x : Int), (if (-1 : Int) < 0 then (-1 : Int) else x) = -1 := fun _ => rfl
    by_cases hdr : p.w + p.n < q.o + q.n
    · rw [if_pos hdr]
      have ih := inter_pk (ps := ps) (qs := q :: qs) (by omega) hd p4 hq' at_
      have hrest : at_ < p.o + p.n → pk (inter ps (q :: qs)) at_ = -1 := fun h => by
        rw [ih, pk_lt p4 h]; rfl
      by_cases g0 : at_ < p.o
      · rw [e0 g0, z0]
        by_cases hft : f < t
        · rw [if_pos ⟨hft, by omega⟩]
        · rw [if_neg (fun x => hft x.1), if_neg (fun x => hft x.1)]; exact hrest (by omega)
      · by_cases g1 : at_ < p.o + p.n
        · rw [e1 (by omega) g1, if_neg (show ¬ at_ - p.o + p.w < 0 by omega)]
          by_cases g2 : at_ - p.o + p.w < q.o
          · rw [f0 _ g2]
            by_cases hft : f < t
            · rw [if_pos ⟨hft, by omega⟩]
            · rw [if_neg (fun x => hft x.1), if_neg (fun x => hft x.1)]; exact hrest g1
          · rw [f1 _ (by omega) (by omega), if_neg (by omega), if_pos ⟨by omega, by omega⟩]
        · rw [e2 (by omega), ← ih, if_neg (by omega), if_neg (by omega)]
    · rw [if_neg hdr]
      have ih := inter_pk (ps := p :: ps) (qs := qs) hb (by omega) hp' q4 at_
      by_cases g0 : at_ < p.o
      · rw [e0 g0, z0] at ih
        rw [e0 g0, z0]
        by_cases hft : f < t
        · rw [if_pos ⟨hft, by omega⟩]
        · rw [if_neg (fun x => hft x.1), if_neg (fun x => hft x.1)]; exact ih
      · by_cases g1 : at_ < p.o + p.n
        · rw [e1 (by omega) g1, if_neg (show ¬ at_ - p.o + p.w < 0 by omega)] at ih
          rw [e1 (by omega) g1, if_neg (show ¬ at_ - p.o + p.w < 0 by omega)]
          by_cases g2 : at_ - p.o + p.w < q.o
          · rw [f0 _ g2]
            by_cases hft : f < t
            · rw [if_pos ⟨hft, by omega⟩]
            · rw [if_neg (fun x => hft x.1), if_neg (fun x => hft x.1), ih]; exact pk_lt q4 (by omega)
          · by_cases g3 : at_ - p.o + p.w < q.o + q.n
            · rw [f1 _ (by omega) g3, if_neg (by omega), if_pos ⟨by omega, by omega⟩]
            · rw [f2 _ (by omega), ← ih, if_neg (by omega), if_neg (by omega)]
        · have hge := pk_ge p4 at_ (by omega)
          rw [e2 (by omega)] at ih
          rw [e2 (by omega)]
          have hq2 : (if pk ps at_ < 0 then (-1 : Int) else pk (q :: qs) (pk ps at_)) = if pk ps at_ < 0 then -1 else pk qs (pk ps at_) := by
            rcases hge with h | h
            · rw [h]; rfl
            · rw [f2 _ (by omega)]
          rw [hq2, ← ih, if_neg (by omega), if_neg (by omega)]
  termination_by ps qs => ps.length + qs.length
/-- The last piece's end. -/
def lend (d : Int) : List Pc → Int
  | [] => d
  | x :: xs => lend (x.o + x.n) xs
theorem kp_shift : ∀ (l : List Ch) (p q n at_ : Int), kp (p + n) (q + n) l at_ = kp p q l at_
  | [], p, q, n, at_ => by unfold kp; omega
  | c :: l, p, q, n, at_ => by unfold kp; rw [show q + n - (p + n) = q - p from by omega]
theorem lend_ge : ∀ {p q : Int} {xs : List Pc}, srt p q xs → p ≤ lend p xs
  | _, _, [], _ => Int.le_refl _
  | p, q, x :: xs, h => by
    have := lend_ge h.2.2.2
    have h1 := h.1
    have h2 := h.2.2.1
    unfold lend
    omega
theorem lend_pk : ∀ {p q : Int} {xs : List Pc}, srt p q xs → ∀ at_, 0 ≤ pk xs at_ → at_ < lend p xs
  | _, _, [], _, at_, h => absurd h (by unfold pk; omega)
  | p, q, x :: xs, h, at_, hk => by
    have hl := lend_ge h.2.2.2
    unfold lend
    by_cases g : at_ < x.o + x.n
    · omega
    · unfold pk at hk
      rw [if_neg (by have := h.2.2.1; omega), if_neg g] at hk
      exact lend_pk h.2.2.2 at_ hk
theorem chg_kp : ∀ {p q : Int} {xs : List Pc}, srt p q xs → ∀ at_, at_ < lend p xs → kp p q (chg p q xs) at_ = if at_ < p then at_ + (q - p) else pk xs at_
  | p, q, [], _, at_, h => by
    have h' : at_ < p := h
    unfold chg kp
    rw [if_pos h']
  | p, q, x :: xs, h, at_, ha => by
    obtain ⟨h1, h2, h3, h4⟩ := h
    have ih := chg_kp h4 at_ ha
    rw [show x.w + x.n - (x.o + x.n) = x.w - x.o from by omega, kp_shift] at ih
    have e0 : pk (x :: xs) at_ = if at_ < x.o then -1 else if at_ < x.o + x.n then at_ - x.o + x.w else pk xs at_ := rfl
    unfold chg
    rw [e0]
    by_cases hz : x.o - p = 0 ∧ x.w - q = 0
    · rw [if_pos hz]
      show kp p q (chg (x.o + x.n) (x.w + x.n) xs) at_ = _
      have e1 : x.o = p := by omega
      have e2 : x.w = q := by omega
      rw [← e1, ← e2, ih]
      by_cases g : at_ < x.o
      · rw [if_pos (by omega), if_pos g]
      · rw [if_neg g, if_neg g]
        by_cases g2 : at_ < x.o + x.n
        · rw [if_pos g2, if_pos g2]; omega
        · rw [if_neg g2, if_neg g2]
    · rw [if_neg hz]
      show kp p q (⟨p, x.o, q, x.w⟩ :: chg (x.o + x.n) (x.w + x.n) xs) at_ = _
      unfold kp
      simp only
      rw [ih]
      by_cases g : at_ < p
      · rw [if_pos g, if_pos g]
      · rw [if_neg g, if_neg g]
        by_cases g1 : at_ < x.o
        · rw [if_pos g1, if_pos g1]
        · rw [if_neg g1, if_neg g1]
          by_cases g2 : at_ < x.o + x.n
          · rw [if_pos g2, if_pos g2]; omega
          · rw [if_neg g2, if_neg g2]
theorem chg_nrm {H : Int} : ∀ {p q P Q : Int} {fi : Bool} {xs : List Pc}, srt p q xs → (∀ x ∈ xs, x.o ≤ H ∧ x.w ≤ H) → P ≤ p → p - P = q - Q → (fi = false → 1 ≤ p - P) → 0 ≤ p → 0 ≤ q → nrm H P Q fi (chg p q xs)
  | _, _, _, _, _, [], _, _, _, _, _, _, _ => trivial
  | p, q, P, Q, fi, x :: xs, h, hH, k1, k2, k3, k4, k5 => by
    obtain ⟨h1, h2, h3, h4⟩ := h
    obtain ⟨g1, g2⟩ := hH x (List.mem_cons_self ..)
    have hH' : ∀ y ∈ xs, y.o ≤ H ∧ y.w ≤ H := fun y hy => hH y (List.mem_cons_of_mem _ hy)
    unfold chg
    by_cases hz : x.o - p = 0 ∧ x.w - q = 0
    · rw [if_pos hz]
      exact chg_nrm h4 hH' (by omega) (by omega) (fun _ => by omega) (by omega) (by omega)
    · rw [if_neg hz]
      exact ⟨⟨k4, h1, g1, k5, h2, g2, fun hn => hz (by simp only at hn; omega), k2, (by simp only; omega), k3⟩, chg_nrm h4 hH' (by simp only; omega) (by simp only; omega) (fun _ => by simp only; omega) (by omega) (by omega)⟩
/-- A patch whose last numbers are small is of small ones. -/
theorem nrm_last {H M : Int} : ∀ {p q : Int} {fi : Bool} {l : List Ch}, nrm H p q fi l → (∀ c, l.getLast? = some c → c.ob ≤ M ∧ c.nb ≤ M) → nrm M p q fi l
  | _, _, _, [], _, _ => trivial
  | p, q, fi, [c], h, hl => by
    obtain ⟨⟨h1, h2, h3, h4, h5, h6, h7⟩, _⟩ := h
    obtain ⟨g1, g2⟩ := hl c rfl
    exact ⟨⟨h1, h2, g1, h4, h5, g2, h7⟩, trivial⟩
  | p, q, fi, c :: d :: l, h, hl => by
    obtain ⟨⟨h1, h2, h3, h4, h5, h6, h7⟩, hd⟩ := h
    have ih := nrm_last hd (fun x hx => hl x (by rw [List.getLast?_cons_cons]; exact hx))
    obtain ⟨⟨i1, i2, i3, i4, i5, i6, i7, i8, i9, i10⟩, _⟩ := ih
    have i10 := i10 rfl
    exact ⟨⟨h1, h2, by omega, h4, h5, by omega, h7⟩, nrm_last hd (fun x hx => hl x (by rw [List.getLast?_cons_cons]; exact hx))⟩
theorem nrm_mono {H M : Int} (hm : H ≤ M) : ∀ {p q : Int} {fi : Bool} {l : List Ch}, nrm H p q fi l → nrm M p q fi l
  | _, _, _, [], _ => trivial
  | _, _, _, c :: l, h => by
    obtain ⟨⟨h1, h2, h3, h4, h5, h6, h7⟩, h8⟩ := h
    exact ⟨⟨h1, h2, by omega, h4, h5, by omega, h7⟩, nrm_mono hm h8⟩
/-- The place at a change's end is kept. -/
theorem kp_at {M p q : Int} {l : List Ch} (h : nrm M p q false l) : kp p q l p = q := by
  cases l with
  | nil => unfold kp; omega
  | cons c l =>
    have := h.1.2.2.2.2.2.2.2.2.2 rfl
    unfold kp
    rw [if_pos (by omega)]; omega
/-- A normal patch is told by where its places go. -/
theorem nrm_unique {M M' : Int} : ∀ {p q : Int} {fi fi' : Bool} {l l' : List Ch}, nrm M p q fi l → nrm M' p q fi' l' → (∀ at_, p ≤ at_ → at_ ≤ M ∨ at_ ≤ M' → kp p q l at_ = kp p q l' at_) → l = l'
  | _, _, _, _, [], [], _, _, _ => rfl
  | p, q, _, _, [], c :: l, _, h, hk => by
    exfalso
    obtain ⟨⟨h1, h2, h3, h4, h5, h6, h7, h8, h9, h10⟩, h11⟩ := h
    have := hk c.oa (by omega) (.inr (by omega))
    unfold kp at this
    rw [if_neg (by omega)] at this
    split at this
    · omega
    · have e : c.oa = c.ob := by omega
      rw [e, kp_at h11] at this
      exact h7 ⟨e, by omega⟩
  | p, q, _, _, c :: l, [], h, _, hk => by
    exfalso
    obtain ⟨⟨h1, h2, h3, h4, h5, h6, h7, h8, h9, h10⟩, h11⟩ := h
    have := hk c.oa (by omega) (.inl (by omega))
    unfold kp at this
    rw [if_neg (by omega)] at this
    split at this
    · omega
    · have e : c.oa = c.ob := by omega
      rw [e, kp_at h11] at this
      exact h7 ⟨e, by omega⟩
  | p, q, _, _, c :: l, d :: m, h, g, hk => by
    obtain ⟨⟨h1, h2, h3, h4, h5, h6, h7, h8, h9, h10⟩, h11⟩ := h
    obtain ⟨⟨g1, g2, g3, g4, g5, g6, g7, g8, g9, g10⟩, g11⟩ := g
    have kc : ∀ x, c.ob ≤ x → kp p q (c :: l) x = kp c.ob c.nb l x := fun x hx => by
      conv => lhs; unfold kp
      rw [if_neg (by omega), if_neg (by omega)]
    have kd : ∀ x, d.ob ≤ x → kp p q (d :: m) x = kp d.ob d.nb m x := fun x hx => by
      conv => lhs; unfold kp
      rw [if_neg (by omega), if_neg (by omega)]
    have lc : ∀ x, x < c.oa → kp p q (c :: l) x = x + (q - p) := fun x hx => by unfold kp; rw [if_pos hx]
    have ld : ∀ x, x < d.oa → kp p q (d :: m) x = x + (q - p) := fun x hx => by unfold kp; rw [if_pos hx]
    have mc : ∀ x, c.oa ≤ x → x < c.ob → kp p q (c :: l) x = -1 := fun x hx hy => by unfold kp; rw [if_neg (by omega), if_pos hy]
    have md : ∀ x, d.oa ≤ x → x < d.ob → kp p q (d :: m) x = -1 := fun x hx hy => by unfold kp; rw [if_neg (by omega), if_pos hy]
    have hc := kp_at h11
    have hd := kp_at g11
    have e1 : c.oa = d.oa := by
      rcases Int.lt_trichotomy c.oa d.oa with k | k | k
      · exfalso
        have := hk c.oa (by omega) (.inl (by omega))
        rw [ld _ k] at this
        rcases Int.lt_or_le c.oa c.ob with k2 | k2
        · rw [mc _ (Int.le_refl _) k2] at this; omega
        · have e : c.oa = c.ob := by omega
          rw [kc _ k2, e, hc] at this; exact h7 ⟨e, by omega⟩
      · exact k
      · exfalso
        have := hk d.oa (by omega) (.inr (by omega))
        rw [lc _ k] at this
        rcases Int.lt_or_le d.oa d.ob with k2 | k2
        · rw [md _ (Int.le_refl _) k2] at this; omega
        · have e : d.oa = d.ob := by omega
          rw [kd _ k2, e, hd] at this; exact g7 ⟨e, by omega⟩
    have e2 : c.ob = d.ob := by
      rcases Int.lt_trichotomy c.ob d.ob with k | k | k
      · exfalso
        have := hk c.ob (by omega) (.inl (by omega))
        rw [kc _ (Int.le_refl _), hc, md _ (by omega) k] at this; omega
      · exact k
      · exfalso
        have := hk d.ob (by omega) (.inr (by omega))
        rw [kd _ (Int.le_refl _), hd, mc _ (by omega) k] at this; omega
    have e3 : c.nb = d.nb := by
      have := hk c.ob (by omega) (.inl (by omega))
      rw [kc _ (Int.le_refl _), hc, e2, kd _ (Int.le_refl _), hd] at this
      exact this
    have e4 : c.na = d.na := by omega
    have e5 : l = m := by
      refine nrm_unique (p := c.ob) (q := c.nb) h11 (by rw [e2, e3]; exact g11) fun x hx hy => ?_
      have := hk x (by omega) hy
      rw [kc _ hx, kd _ (by omega), ← e2, ← e3] at this
      exact this
    cases c; cases d
    simp only at e1 e2 e3 e4
    subst e1 e2 e3 e4 e5
    rfl
/-- Where a place can go. -/
theorem kp_form {B : Int} : ∀ {p q : Int} {fi : Bool} {l : List Ch}, nrm B p q fi l → 0 ≤ p → p ≤ B → 0 ≤ q → q ≤ B → ∀ at_, kp p q l at_ = -1 ∨ ∃ a b, 0 ≤ a ∧ a ≤ B ∧ 0 ≤ b ∧ b ≤ B ∧ kp p q l at_ = at_ + (b - a) ∧ (p ≤ at_ → a ≤ at_)
  | p, q, _, [], _, h1, h2, h3, h4, at_ => .inr ⟨p, q, h1, h2, h3, h4, rfl, id⟩
  | p, q, _, c :: l, h, h1, h2, h3, h4, at_ => by
    obtain ⟨⟨g1, g2, g3, g4, g5, g6, g7⟩, hh⟩ := h
    unfold kp
    by_cases k1 : at_ < c.oa
    · rw [if_pos k1]; exact .inr ⟨p, q, h1, h2, h3, h4, rfl, id⟩
    · rw [if_neg k1]
      by_cases k2 : at_ < c.ob
      · rw [if_pos k2]; exact .inl rfl
      · rw [if_neg k2]
        rcases kp_form hh (by omega) g3 (by omega) g6 at_ with h | ⟨a, b, e1, e2, e3, e4, e5, e6⟩
        · exact .inl h
        · exact .inr ⟨a, b, e1, e2, e3, e4, e5, fun _ => e6 (by omega)⟩
theorem kp_big {B : Int} : ∀ {p q : Int} {fi : Bool} {l : List Ch}, nrm B p q fi l → 0 ≤ p → p ≤ B → 0 ≤ q → q ≤ B → ∀ at_, B ≤ at_ → ∃ a b, 0 ≤ a ∧ a ≤ B ∧ 0 ≤ b ∧ b ≤ B ∧ kp p q l at_ = at_ + (b - a)
  | p, q, _, [], _, h1, h2, h3, h4, at_, _ => ⟨p, q, h1, h2, h3, h4, rfl⟩
  | p, q, _, c :: l, h, h1, h2, h3, h4, at_, hb => by
    obtain ⟨⟨g1, g2, g3, g4, g5, g6, g7⟩, hh⟩ := h
    unfold kp
    rw [if_neg (by omega), if_neg (by omega)]
    exact kp_big hh (by omega) g3 (by omega) g6 at_ hb
/-- Pieces begin at small places. -/
theorem pcs_bd {B C L : Int} : ∀ {p q : Int} {fi : Bool} {l : List Ch}, nrm C p q fi l → (∀ c ∈ l, c.ob ≤ B ∧ c.nb ≤ C) → p ≤ B → q ≤ C → 0 ≤ p → 0 ≤ q → ∀ x ∈ pcs L p q l, 0 ≤ x.o ∧ 0 ≤ x.w ∧ x.o ≤ B ∧ x.w ≤ C
  | p, q, _, [], _, _, h1, h2, h3, h4, x, hx => by
    unfold pcs at hx
    obtain rfl := List.mem_singleton.1 hx
    exact ⟨h3, h4, h1, h2⟩
  | p, q, _, c :: l, h, hb, h1, h2, h3, h4, x, hx => by
    obtain ⟨⟨g1, g2, g3, g4, g5, g6, g7⟩, hh⟩ := h
    obtain ⟨b1, b2⟩ := hb c (List.mem_cons_self ..)
    unfold pcs at hx
    rcases List.mem_append.1 hx with hx | hx
    · split at hx
      · obtain rfl := List.mem_singleton.1 hx
        exact ⟨h3, h4, h1, h2⟩
      · exact absurd hx List.not_mem_nil
    · exact pcs_bd hh (fun y hy => hb y (List.mem_cons_of_mem _ hy)) b1 b2 (by omega) (by omega) x hx
/-- What both keep begins at small places. -/
theorem inter_bd {Bp Cp Bq Cq : Int} : ∀ {ps qs : List Pc}, (∀ x ∈ ps, 0 ≤ x.o ∧ 0 ≤ x.w ∧ x.o ≤ Bp ∧ x.w ≤ Cp) → (∀ x ∈ qs, 0 ≤ x.o ∧ 0 ≤ x.w ∧ x.o ≤ Bq ∧ x.w ≤ Cq) → ∀ x ∈ inter ps qs, x.o ≤ Bp + Bq ∧ x.w ≤ Cq + Cp
  | [], _, _, _, x, hx => by unfold inter at hx; exact absurd hx List.not_mem_nil
  | _ :: _, [], _, _, x, hx => by unfold inter at hx; exact absurd hx List.not_mem_nil
  | p :: ps, q :: qs, hp, hq, x, hx => by
    unfold inter at hx
    obtain ⟨p1, p2, p3, p4⟩ := hp p (List.mem_cons_self ..)
    obtain ⟨q1, q2, q3, q4⟩ := hq q (List.mem_cons_self ..)
    rcases List.mem_append.1 hx with hx | hx
    · split at hx
      · obtain rfl := List.mem_singleton.1 hx
        simp only
        omega
      · exact absurd hx List.not_mem_nil
    · split at hx
      · exact inter_bd (fun y hy => hp y (List.mem_cons_of_mem _ hy)) hq x hx
      · exact inter_bd hp (fun y hy => hq y (List.mem_cons_of_mem _ hy)) x hx
  termination_by ps qs => ps.length + qs.length
/-- A patch and, behind it, another one. -/
def cmp (L : Int) (a b : List Ch) : List Ch := chg 0 0 (inter (pcs L 0 0 a) (pcs L 0 0 b))
theorem nrm_bd {M : Int} : ∀ {p q : Int} {fi : Bool} {l : List Ch}, nrm M p q fi l → ∀ c ∈ l, c.ob ≤ M ∧ c.nb ≤ M
  | _, _, _, [], _, _, hc => absurd hc List.not_mem_nil
  | _, _, _, c :: l, h, x, hx => by
    rcases List.mem_cons.1 hx with rfl | hx
    · exact ⟨h.1.2.2.1, h.1.2.2.2.2.2.1⟩
    · exact nrm_bd h.2 x hx
theorem cmp_srt {M L : Int} (hL : 1 ≤ L) {a b : List Ch} (ha : nrm M 0 0 true a) (hb : nrm M 0 0 true b) : srt 0 0 (inter (pcs L 0 0 a) (pcs L 0 0 b)) := by
  have sa := pcs_srt (L := L) hL ha
  have sb := pcs_srt (L := L) hL hb
  refine inter_srt (m := 0) sa sb ?_ ?_ ?_
  · rintro p ps' he
    rw [he] at sa
    obtain ⟨h1, h2, h3, _⟩ := sa
    exact ⟨fun _ => by omega, fun _ => h1, by omega⟩
  · rintro q qs' he
    rw [he] at sb
    obtain ⟨h1, h2, h3, _⟩ := sb
    exact ⟨fun _ => by omega, fun _ => h2, by omega⟩
  · rintro p ps' q qs' he _
    rw [he] at sa
    exact .inl sa.2.1
/-- What two patches do is normal (of numbers twice as large), -/
theorem cmp_nrm {M L : Int} (hM : 0 ≤ M) (hL : 1 ≤ L) {a b : List Ch} (ha : nrm M 0 0 true a) (hb : nrm M 0 0 true b) : nrm (2 * M) 0 0 true (cmp L a b) := by
  have h1 := pcs_bd (L := L) ha (nrm_bd ha) hM hM (Int.le_refl _) (Int.le_refl _)
  have h2 := pcs_bd (L := L) hb (nrm_bd hb) hM hM (Int.le_refl _) (Int.le_refl _)
  have h3 := inter_bd h1 h2
  refine chg_nrm (cmp_srt hL ha hb) (fun x hx => ?_) (Int.le_refl _) rfl (fun h => absurd h (by decide)) (Int.le_refl _) (Int.le_refl _)
  have := h3 x hx
  omega
/-- and keeps what both keep. -/
theorem cmp_kp {B L : Int} (hB : 0 ≤ B) (hL : 100 * B + 100 ≤ L) {a b : List Ch} (ha : nrm B 0 0 true a) (hb : nrm B 0 0 true b) {at_ : Int} (h0 : 0 ≤ at_) (h1 : at_ ≤ 50 * B) :
    kp 0 0 (cmp L a b) at_ = if kp 0 0 a at_ < 0 then -1 else kp 0 0 b (kp 0 0 a at_) := by
  have sa := pcs_srt (L := L) (by omega) ha
  have sb := pcs_srt (L := L) (by omega) hb
  have hs := cmp_srt (L := L) (by omega) ha hb
  have hk : ∀ x, 0 ≤ x → x ≤ 50 * B → pk (inter (pcs L 0 0 a) (pcs L 0 0 b)) x = if kp 0 0 a x < 0 then -1 else kp 0 0 b (kp 0 0 a x) := by
    intro x hx0 hx1
    rw [inter_pk (Int.le_refl _) (Int.le_refl _) sa sb, pcs_pk ha hB hx0 (by omega) (Int.le_refl _)]
    by_cases g : kp 0 0 a x < 0
    · rw [if_pos g, if_pos g]
    · rw [if_neg g, if_neg g]
      rcases kp_form ha (Int.le_refl _) hB (Int.le_refl _) hB x with h | ⟨y, z, e1, e2, e3, e4, e5, _⟩
      · omega
      · rw [pcs_pk hb hB (by omega) (by omega) (Int.le_refl _)]
  have hlast : 50 * B < lend 0 (inter (pcs L 0 0 a) (pcs L 0 0 b)) := by
    refine lend_pk hs (50 * B) ?_
    rw [hk _ (by omega) (Int.le_refl _)]
    obtain ⟨y, z, e1, e2, e3, e4, e5⟩ := kp_big ha (Int.le_refl _) hB (Int.le_refl _) hB (50 * B) (by omega)
    rw [e5, if_neg (by omega)]
    obtain ⟨y2, z2, f1, f2, f3, f4, f5⟩ := kp_big hb (Int.le_refl _) hB (Int.le_refl _) hB (50 * B + (z - y)) (by omega)
    rw [f5]
    omega
  unfold cmp
  rw [chg_kp hs at_ (by omega), if_neg (by omega)]
  exact hk _ h0 h1
/-- How far the document's loop has come. -/
def DSt (C : List Ch) (at_ was now : Int) (rem : List Ch) : Prop :=
  (∃ M p q, nrm M p q (decide (at_ = p)) rem ∧ p ≤ at_ ∧ was = at_ ∧ now - was = q - p ∧ (∀ c l, rem = c :: l → at_ ≤ c.oa) ∧ ∀ x, at_ ≤ x → kp 0 0 C x = kp p q rem x) ∨
  (∃ M c l, rem = c :: l ∧ was = c.oa ∧ now = c.na ∧ c.oa < at_ ∧ at_ ≤ c.ob ∧ c.na ≤ c.nb ∧ 0 ≤ c.na ∧ nrm M c.ob c.nb false l ∧ (∀ x, c.ob ≤ x → kp 0 0 C x = kp c.ob c.nb l x) ∧ ∀ x, at_ ≤ x → x < c.ob → kp 0 0 C x = -1)
theorem dst_run {C : List Ch} {M p q at_ : Int} {l : List Ch} (h : nrm M p q false l) (_hp : p ≤ at_) (hk : ∀ x, p ≤ x → kp 0 0 C x = kp p q l x) (ha : p = at_) : DSt C (at_ + 1) (at_ + 1) (q + (at_ - p) + 1) l := by
  refine .inl ⟨M, p, q, by rw [decide_eq_false (by omega)]; exact h, by omega, rfl, by omega, fun c m e => ?_, fun x hx => hk x (by omega)⟩
  subst e
  have := h.1.2.2.2.2.2.2.2.2.2 rfl
  omega
theorem ch_ext {c : Ch} {x y z u : Int} (h1 : c.oa = x) (h2 : c.ob = y) (h3 : c.na = z) (h4 : c.nb = u) : c = ⟨x, y, z, u⟩ := by
  cases c; simp only at h1 h2 h3 h4; subst h1 h2 h3 h4; rfl
/-- One step of the document's loop. -/
theorem dst_step {C : List Ch} {at_ was now : Int} {rem : List Ch} (h : DSt C at_ was now rem) (h0 : 0 ≤ now) (_h1 : 0 ≤ at_) :
    (kp 0 0 C at_ < 0 ∧ DSt C (at_ + 1) was now rem) ∨ (0 ≤ kp 0 0 C at_ ∧ was = at_ ∧ now = kp 0 0 C at_ ∧ DSt C (at_ + 1) (at_ + 1) (kp 0 0 C at_ + 1) rem) ∨
      (0 ≤ kp 0 0 C at_ ∧ (was < at_ ∨ now < kp 0 0 C at_) ∧ ∃ rem', rem = ⟨was, at_, now, kp 0 0 C at_⟩ :: rem' ∧ DSt C (at_ + 1) (at_ + 1) (kp 0 0 C at_ + 1) rem') := by
  rcases h with ⟨M, p, q, hn, hp, hw, hd, hh, hk⟩ | ⟨M, c, l, rfl, hw, hno, g1, g2, g3, g4, hn, hk, hd⟩
  · have hka := hk at_ (Int.le_refl _)
    cases rem with
    | nil =>
      have e : kp 0 0 C at_ = now := by rw [hka]; unfold kp; omega
      right; left
      refine ⟨by omega, hw, e.symm, .inl ⟨M, p, q, trivial, by omega, rfl, by omega, (fun c l e => by cases e), fun x hx => hk x (by omega)⟩⟩
    | cons c l =>
      have hc := hh c l rfl
      obtain ⟨⟨g1, g2, g3, g4, g5, g6, g7, g8, g9, g10⟩, g11⟩ := hn
      have kc : ∀ x, c.ob ≤ x → kp p q (c :: l) x = kp c.ob c.nb l x := fun x hx => by
        conv => lhs; unfold kp
        rw [if_neg (by omega), if_neg (by omega)]
      rcases Int.lt_or_le at_ c.oa with k | k
      · have e : kp 0 0 C at_ = now := by rw [hka]; unfold kp; rw [if_pos k]; omega
        right; left
        refine ⟨by omega, hw, e.symm, .inl ⟨M, p, q, ?_, by omega, rfl, by omega, fun d m e => ?_, fun x hx => hk x (by omega)⟩⟩
        · rw [decide_eq_false (by omega)]
          exact ⟨⟨g1, g2, g3, g4, g5, g6, g7, g8, g9, fun _ => by omega⟩, g11⟩
        · obtain ⟨rfl, rfl⟩ := List.cons.inj e; omega
      · have ea : at_ = c.oa := by omega
        have en : now = c.na := by omega
        rcases Int.lt_or_le c.oa c.ob with k2 | k2
        · left
          have e : ∀ x, at_ ≤ x → x < c.ob → kp 0 0 C x = -1 := fun x hx hy => by rw [hk x hx]; unfold kp; rw [if_neg (by omega), if_pos hy]
          refine ⟨by rw [e _ (Int.le_refl _) (by omega)]; decide, .inr ⟨M, c, l, rfl, by omega, en, by omega, by omega, g5, g4, g11, fun x hx => by rw [hk x (by omega), kc x hx], fun x hx => e x (by omega)⟩⟩
        · have eb : c.ob = at_ := by omega
          have e : kp 0 0 C at_ = c.nb := by rw [hka, kc _ (by omega), ← eb]; exact kp_at g11
          right; right
          refine ⟨by omega, .inr (by omega), l, ?_, ?_⟩
          · rw [e]; congr 1; exact ch_ext (by omega) (by omega) (by omega) rfl
          · have := dst_run (at_ := at_) (C := C) g11 (by omega) (fun x hx => by rw [hk x (by omega), kc x hx]) eb
            rw [e]
            rwa [eb, show c.nb + (at_ - at_) + 1 = c.nb + 1 from by omega] at this
  · rcases Int.lt_or_le at_ c.ob with k | k
    · left
      exact ⟨by rw [hd _ (Int.le_refl _) k]; decide, .inr ⟨M, c, l, rfl, hw, hno, by omega, by omega, g3, g4, hn, hk, fun x hx => hd x (by omega)⟩⟩
    · have eb : c.ob = at_ := by omega
      have e : kp 0 0 C at_ = c.nb := by rw [hk _ (by omega), ← eb]; exact kp_at hn
      right; right
      refine ⟨by omega, .inl (by omega), l, ?_, ?_⟩
      · rw [e]; congr 1; exact ch_ext (by omega) (by omega) (by omega) rfl
      · have := dst_run (at_ := at_) (C := C) hn (by omega) hk eb
        rw [e]
        rwa [eb, show c.nb + (at_ - at_) + 1 = c.nb + 1 from by omega] at this
theorem dst_end {C : List Ch} {at_ was now : Int} {rem : List Ch} (h : DSt C at_ was now rem) (hb : ∀ c ∈ rem, c.ob < at_) : rem = [] := by
  rcases h with ⟨M, p, q, hn, hp, hw, hd, hh, hk⟩ | ⟨M, c, l, rfl, hw, hno, g1, g2, g3, g4, hn, hk, hd⟩
  · cases rem with
    | nil => rfl
    | cons c l =>
      have := hh c l rfl
      have := hb c (List.mem_cons_self ..)
      have := hn.1.2.1
      omega
  · have := hb c (List.mem_cons_self ..)
    omega
theorem dst_start {M : Int} {C : List Ch} (h : nrm M 0 0 true C) : DSt C 0 0 0 C :=
  .inl ⟨M, 0, 0, h, Int.le_refl _, rfl, rfl, fun c l e => by subst e; exact h.1.1, fun _ _ => rfl⟩
/-- The changes of what two patches do end at small places. -/
theorem chg_mem : ∀ {p q : Int} {xs : List Pc} (c : Ch), c ∈ chg p q xs → ∃ x ∈ xs, c.ob = x.o ∧ c.nb = x.w
  | _, _, [], c, h => absurd h List.not_mem_nil
  | p, q, x :: xs, c, h => by
    unfold chg at h
    rcases List.mem_append.1 h with h | h
    · split at h
      · exact absurd h List.not_mem_nil
      · obtain rfl := List.mem_singleton.1 h
        exact ⟨x, List.mem_cons_self .., rfl, rfl⟩
    · obtain ⟨y, hy, e⟩ := chg_mem c h
      exact ⟨y, List.mem_cons_of_mem _ hy, e⟩
def pend (l : List Ch) : Int := match l.getLast? with | none => 0 | some c => c.ob
theorem pend_bd {M : Int} : ∀ {p q : Int} {fi : Bool} {l : List Ch}, nrm M p q fi l → 0 ≤ pend l ∧ ∀ c ∈ l, c.ob ≤ pend l
  | _, _, _, [], _ => ⟨Int.le_refl _, fun c h => absurd h List.not_mem_nil⟩
  | p, q, fi, [c], h => ⟨by have := h.1; unfold pend cOk at *; simp only [List.getLast?_singleton]; omega, fun d hd => by obtain rfl := List.mem_singleton.1 hd; exact Int.le_refl _⟩
  | p, q, fi, c :: d :: l, h => by
    have ih := pend_bd h.2
    have e : pend (c :: d :: l) = pend (d :: l) := by unfold pend; rw [List.getLast?_cons_cons]
    rw [e]
    refine ⟨ih.1, fun x hx => ?_⟩
    rcases List.mem_cons.1 hx with rfl | hx
    · have h1 := ih.2 d (List.mem_cons_self ..)
      have h2 := h.2.1.2.1
      have h3 := h.2.1.2.2.2.2.2.2.2.2.1
      omega
    · exact ih.2 x hx
theorem cmp_end {M L : Int} (hM : 0 ≤ M) {a b : List Ch} (ha : nrm M 0 0 true a) (hb : nrm M 0 0 true b) : ∀ c ∈ cmp L a b, c.ob ≤ pend a + pend b := by
  obtain ⟨a0, a1⟩ := pend_bd ha
  obtain ⟨b0, b1⟩ := pend_bd hb
  have h1 := pcs_bd (B := pend a) (C := M) (L := L) ha (fun c hc => ⟨a1 c hc, (nrm_bd ha c hc).2⟩) a0 hM (Int.le_refl _) (Int.le_refl _)
  have h2 := pcs_bd (B := pend b) (C := M) (L := L) hb (fun c hc => ⟨b1 c hc, (nrm_bd hb c hc).2⟩) b0 hM (Int.le_refl _) (Int.le_refl _)
  intro c hc
  obtain ⟨x, hx, e, _⟩ := chg_mem c hc
  have := inter_bd h1 h2 x hx
  omega
end Go.Proofs.YtbeclkhahdcmbaaGreat
