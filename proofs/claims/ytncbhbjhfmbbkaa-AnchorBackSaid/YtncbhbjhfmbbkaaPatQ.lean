/- Patches: plain facts on patches turned about, on what two of them do, and on the changes that edits make: nothing of the program. -/
import Derived.Test.YtncbhbjhfmbbkaaChg
namespace Go.Proofs.Ytncbhbjhfmbbkaa
open Go.RowKit
/-- A patch turned about. -/
def cinv (l : List Ch) : List Ch := l.map fun c => ⟨c.na, c.nb, c.oa, c.ob⟩
theorem cinv_cinv (l : List Ch) : cinv (cinv l) = l := by
  unfold cinv; rw [List.map_map]; conv => rhs; rw [← List.map_id l]
  exact List.map_congr_left fun c _ => rfl
theorem cinv_nrm {M : Int} : ∀ {p q : Int} {fi : Bool} {l : List Ch}, nrm M p q fi l → nrm M q p fi (cinv l)
  | _, _, _, [], _ => trivial
  | p, q, fi, c :: l, h => by
    obtain ⟨⟨h1, h2, h3, h4, h5, h6, h7, h8, h9, h10⟩, h11⟩ := h
    exact ⟨⟨h4, h5, h6, h1, h2, h3, fun h => h7 ⟨h.2, h.1⟩, by simp only; omega, by simp only; omega, fun hf => by have := h10 hf; simp only; omega⟩, cinv_nrm h11⟩
theorem cinv_iff {M : Int} {p q : Int} {fi : Bool} {l : List Ch} : nrm M q p fi (cinv l) ↔ nrm M p q fi l := ⟨fun h => by have := cinv_nrm h; rwa [cinv_cinv] at this, cinv_nrm⟩
theorem kp_ge {M : Int} : ∀ {p q : Int} {fi : Bool} {l : List Ch}, nrm M p q fi l → ∀ at_, p ≤ at_ → kp p q l at_ = -1 ∨ q ≤ kp p q l at_
  | p, q, _, [], _, at_, h => .inr (by unfold kp; omega)
  | p, q, _, c :: l, hn, at_, h => by
    obtain ⟨⟨h1, h2, h3, h4, h5, h6, h7, h8, h9, h10⟩, h11⟩ := hn
    unfold kp
    split
    · right; omega
    · split
      · exact .inl rfl
      · rcases kp_ge h11 at_ (by omega) with g | g
        · exact .inl g
        · right; omega
theorem cinv_kp {M : Int} : ∀ {p q : Int} {fi : Bool} {l : List Ch}, nrm M p q fi l → 0 ≤ q → ∀ at_, p ≤ at_ → 0 ≤ kp p q l at_ → kp q p (cinv l) (kp p q l at_) = at_
  | p, q, _, [], _, _, at_, h, _ => by show (kp p q [] at_) + (p - q) = at_; show at_ + (q - p) + (p - q) = at_; omega
  | p, q, _, c :: l, hn, hq, at_, h, hk => by
    obtain ⟨⟨h1, h2, h3, h4, h5, h6, h7, h8, h9, h10⟩, h11⟩ := hn
    show kp q p (⟨c.na, c.nb, c.oa, c.ob⟩ :: cinv l) (kp p q (c :: l) at_) = at_
    have e : kp p q (c :: l) at_ = if at_ < c.oa then at_ + (q - p) else if at_ < c.ob then -1 else kp c.ob c.nb l at_ := rfl
    rw [e] at hk ⊢
    by_cases g1 : at_ < c.oa
    · rw [if_pos g1]; unfold kp; rw [if_pos (by simp only; omega)]; omega
    · rw [if_neg g1] at hk ⊢
      by_cases g2 : at_ < c.ob
      · rw [if_pos g2] at hk; omega
      · rw [if_neg g2] at hk ⊢
        have hg := kp_ge h11 at_ (by omega)
        have ih := cinv_kp h11 (by omega) at_ (by omega) hk
        generalize kp c.ob c.nb l at_ = k at *
        unfold kp
        rw [if_neg (by simp only; omega), if_neg (by simp only; omega)]
        exact ih
theorem kp_dlt {M : Int} : ∀ {p q : Int} {fi : Bool} {l : List Ch}, nrm M p q fi l → ∀ at_, (∀ c ∈ l, c.ob ≤ at_) → kp p q l at_ = at_ + (q - p) + dlt l
  | p, q, _, [], _, at_, _ => by unfold kp dlt; simp
  | p, q, _, c :: l, hn, at_, h => by
    obtain ⟨⟨h1, h2, h3, h4, h5, h6, h7, h8, h9, h10⟩, h11⟩ := hn
    have hc := h c (List.mem_cons_self ..)
    have ih := kp_dlt h11 at_ (fun d hd => h d (List.mem_cons_of_mem _ hd))
    have e : dlt (c :: l) = ((c.nb - c.na) - (c.ob - c.oa)) + dlt l := by simp [dlt]
    unfold kp
    rw [if_neg (by omega), if_neg (by omega), ih, e]
    omega
theorem nrm_le {H M : Int} : ∀ {p q : Int} {fi : Bool} {l : List Ch}, nrm H p q fi l → (∀ c ∈ l, c.ob ≤ M ∧ c.nb ≤ M) → nrm M p q fi l
  | _, _, _, [], _, _ => trivial
  | p, q, fi, c :: l, h, hl => by
    obtain ⟨⟨h1, h2, h3, h4, h5, h6, h7⟩, h8⟩ := h
    obtain ⟨g1, g2⟩ := hl c (List.mem_cons_self ..)
    exact ⟨⟨h1, h2, g1, h4, h5, g2, h7⟩, nrm_le h8 fun d hd => hl d (List.mem_cons_of_mem _ hd)⟩
theorem dlt_cmp {B L : Int} (hB : 0 ≤ B) (hL : 100 * B + 100 ≤ L) {a b : List Ch} (ha : nrm B 0 0 true a) (hb : nrm B 0 0 true b) : dlt (cmp L a b) = dlt a + dlt b := by
  have hn := cmp_nrm (M := B) (L := L) hB (by omega) ha hb
  have k := cmp_kp hB hL ha hb (at_ := 50 * B) (by omega) (Int.le_refl _)
  have ka := kp_dlt ha (50 * B) (fun c hc => by have := (nrm_bd ha c hc).1; omega)
  obtain ⟨y, z, e1, e2, e3, e4, e5⟩ := kp_big ha (Int.le_refl _) hB (Int.le_refl _) hB (50 * B) (by omega)
  have kb := kp_dlt hb (kp 0 0 a (50 * B)) (fun c hc => by have := (nrm_bd hb c hc).1; omega)
  have kc := kp_dlt hn (50 * B) (fun c hc => by have := (nrm_bd hn c hc).1; omega)
  rw [if_neg (by omega)] at k
  omega
theorem cmp_assoc {B L : Int} (hB : 0 ≤ B) (hL : 200 * B + 100 ≤ L) {a b c : List Ch} (ha : nrm B 0 0 true a) (hb : nrm B 0 0 true b) (hc : nrm B 0 0 true c) : cmp L (cmp L a b) c = cmp L a (cmp L b c) := by
  have hx := cmp_nrm (L := L) hB (by omega) ha hb
  have hy := cmp_nrm (L := L) hB (by omega) hb hc
  have ha2 := nrm_mono (show B ≤ 2 * B by omega) ha
  have hc2 := nrm_mono (show B ≤ 2 * B by omega) hc
  have hz := cmp_nrm (L := L) (show 0 ≤ 2 * B by omega) (by omega) hx hc2
  have hw := cmp_nrm (L := L) (show 0 ≤ 2 * B by omega) (by omega) ha2 hy
  refine nrm_unique hz hw fun at_ h0 h1 => ?_
  have h1 : at_ ≤ 4 * B := by omega
  rw [cmp_kp (show 0 ≤ 2 * B by omega) (by omega) hx hc2 h0 (by omega), cmp_kp hB (by omega) ha hb h0 (by omega), cmp_kp (show 0 ≤ 2 * B by omega) (by omega) ha2 hy h0 (by omega)]
  by_cases g : kp 0 0 a at_ < 0
  · rw [if_pos g, if_pos (by decide), if_pos g]
  · rw [if_neg g, if_neg g]
    rcases kp_form ha (Int.le_refl _) hB (Int.le_refl _) hB at_ with h | ⟨y, z, e1, e2, e3, e4, e5, _⟩
    · omega
    · rw [cmp_kp hB (by omega) hb hc (by omega) (by omega)]
/-- Where a place stands behind a patch and that patch turned about. -/
theorem turn_kp {B L : Int} (hB : 0 ≤ B) (hL : 100 * B + 100 ≤ L) {l : List Ch} (h : nrm B 0 0 true l) {at_ : Int} (h0 : 0 ≤ at_) (h1 : at_ ≤ 50 * B) : kp 0 0 (cmp L l (cinv l)) at_ = if kp 0 0 l at_ < 0 then -1 else at_ := by
  rw [cmp_kp hB hL h (cinv_nrm h) h0 h1]
  split
  · rfl
  · exact cinv_kp h (Int.le_refl _) at_ h0 (by omega)
theorem dlt_inv (l : List Ch) : dlt (cinv l) = 0 - dlt l := by
  induction l with
  | nil => rfl
  | cons c l ih =>
    have e : ∀ (c : Ch) l, dlt (c :: l) = ((c.nb - c.na) - (c.ob - c.oa)) + dlt l := fun c l => by simp [dlt]
    rw [show cinv (c :: l) = ⟨c.na, c.nb, c.oa, c.ob⟩ :: cinv l from rfl, e, e, ih]
    simp only
    omega
/-- The changes that edits make, told one by one: first and last place, and how many runes come; p, q: the end of what is ahead. -/
def rawc (p q : Int) : List (Int × Int × Int) → List Ch
  | [] => []
  | (a, b, m) :: l => ⟨a, b, q + (a - p), q + (a - p) + m⟩ :: rawc b (q + (a - p) + m) l
/-- Edits rise. -/
def ris (p : Int) : List (Int × Int × Int) → Prop
  | [] => True
  | (a, b, m) :: l => p ≤ a ∧ a ≤ b ∧ 0 ≤ m ∧ ris b l
/-- The document's way: changes that touch are made one. -/
def ofR (out : List Ch) : List Ch → List Ch
  | [] => out
  | c :: l => ofR (if c.oa = c.ob ∧ c.nb = c.na then out else match out.getLast? with
      | some d => if d.ob = c.oa then out.dropLast ++ [⟨d.oa, c.ob, d.na, c.nb⟩] else out ++ [c]
      | none => out ++ [c]) l
theorem ofR_chg {L : Int} : ∀ (l : List (Int × Int × Int)) (p q P Q : Int) (closed : List Ch), ris p l → P ≤ p → Q ≤ q → (∀ d, closed.getLast? = some d → d.ob < P) →
    ofR (closed ++ if P = p ∧ Q = q then [] else [⟨P, p, Q, q⟩]) (rawc p q l) = closed ++ chg P Q (pcs L p q (rawc p q l))
  | [], p, q, P, Q, closed, _, _, _, _ => by
    unfold rawc ofR pcs chg chg
    simp only [List.append_nil]
    by_cases g : P = p ∧ Q = q
    · rw [if_pos g, if_pos (by omega)]
    · rw [if_neg g, if_neg (by omega)]
  | (a, b, m) :: l, p, q, P, Q, closed, h, hP, hQ, hd => by
    obtain ⟨h1, h2, h3, h4⟩ := h
    unfold rawc ofR pcs
    simp only
    by_cases g0 : 0 < a - p
    · rw [if_pos g0]
      have ih := ofR_chg (L := L) l b (q + (a - p) + m) a (q + (a - p)) (closed ++ if P = p ∧ Q = q then [] else [⟨P, p, Q, q⟩]) h4 h2 (by omega) (by
        intro d hd'
        by_cases g : P = p ∧ Q = q
        · rw [if_pos g, List.append_nil] at hd'; have := hd d hd'; omega
        · rw [if_neg g, List.getLast?_append] at hd'; simp at hd'; subst hd'; simp only; omega)
      have e : chg P Q ([⟨p, q, a - p⟩] ++ pcs L b (q + (a - p) + m) (rawc b (q + (a - p) + m) l)) = (if P = p ∧ Q = q then [] else [⟨P, p, Q, q⟩]) ++ chg a (q + (a - p)) (pcs L b (q + (a - p) + m) (rawc b (q + (a - p) + m) l)) := by
        show chg P Q (⟨p, q, a - p⟩ :: pcs L b (q + (a - p) + m) (rawc b (q + (a - p) + m) l)) = _
        conv => lhs; unfold chg
        simp only
        rw [show p + (a - p) = a from by omega]
        by_cases g : P = p ∧ Q = q
        · rw [if_pos (by omega), if_pos g]
        · rw [if_neg (by omega), if_neg g]
      rw [e, ← List.append_assoc, ← ih]
      congr 1
      by_cases gn : a = b ∧ q + (a - p) + m = q + (a - p)
      · rw [if_pos gn, if_pos (show a = b ∧ q + (a - p) = q + (a - p) + m by omega), List.append_nil]
      · rw [if_neg gn, if_neg (show ¬ (a = b ∧ q + (a - p) = q + (a - p) + m) by omega)]
        have hl : ∀ d, (closed ++ if P = p ∧ Q = q then [] else [(⟨P, p, Q, q⟩ : Ch)]).getLast? = some d → d.ob < a := by
          intro d hd'
          by_cases g : P = p ∧ Q = q
          · rw [if_pos g, List.append_nil] at hd'; have := hd d hd'; omega
          · rw [if_neg g, List.getLast?_append] at hd'; simp at hd'; subst hd'; simp only; omega
        generalize (closed ++ if P = p ∧ Q = q then [] else [(⟨P, p, Q, q⟩ : Ch)]) = out at *
        cases hlast : out.getLast? with
        | none => rfl
        | some d =>
          have := hl d hlast
          simp only
          rw [if_neg (by omega)]
    · have ha : a = p := by omega
      subst ha
      rw [if_neg g0]
      show _ = closed ++ chg P Q (pcs L b (q + (a - a) + m) (rawc b (q + (a - a) + m) l))
      rw [show q + (a - a) = q from by omega]
      have ih := ofR_chg (L := L) l b (q + m) P Q closed h4 (by omega) (by omega) hd
      rw [← ih]
      congr 1
      by_cases gn : a = b ∧ q + m = q
      · rw [if_pos gn]
        obtain ⟨rfl, hm⟩ := gn
        rw [hm]
      · rw [if_neg gn]
        rw [if_neg (show ¬ (P = b ∧ Q = q + m) by omega)]
        by_cases g : P = a ∧ Q = q
        · rw [if_pos g, List.append_nil]
          obtain ⟨rfl, rfl⟩ := g
          cases hlast : closed.getLast? with
          | none => rfl
          | some d =>
            have := hd d hlast
            simp only
            rw [if_neg (by omega)]
        · rw [if_neg g, List.getLast?_append]
          simp
theorem rawc_srt {L : Int} (hL : 1 ≤ L) : ∀ (l : List (Int × Int × Int)) (p q : Int), ris p l → srt p q (pcs L p q (rawc p q l))
  | [], _, _, _ => ⟨Int.le_refl _, Int.le_refl _, hL, trivial⟩
  | (a, b, m) :: l, p, q, h => by
    obtain ⟨h1, h2, h3, h4⟩ := h
    have ih := rawc_srt hL l b (q + (a - p) + m) h4
    unfold rawc pcs
    simp only
    split
    · exact ⟨Int.le_refl _, Int.le_refl _, by simp only; omega, srt_weak ih (by simp only; omega) (by simp only; omega)⟩
    · exact srt_weak ih (by omega) (by omega)
/-- By how much edits make longer. -/
def rgro (l : List (Int × Int × Int)) : Int := (l.map fun x => x.2.2 - (x.2.1 - x.1)).sum
theorem rawc_dlt {L : Int} : ∀ (l : List (Int × Int × Int)) (p q P Q : Int), dlt (chg P Q (pcs L p q (rawc p q l))) = (q - Q) - (p - P) + rgro l
  | [], p, q, P, Q => by
    unfold rawc pcs chg chg
    simp only [List.append_nil]
    split
    · simp [dlt, rgro]; omega
    · simp [dlt, rgro]
  | (a, b, m) :: l, p, q, P, Q => by
    have e : ∀ (c : Ch) l, dlt (c :: l) = ((c.nb - c.na) - (c.ob - c.oa)) + dlt l := fun c l => by simp [dlt]
    have e2 : rgro ((a, b, m) :: l) = m - (b - a) + rgro l := by simp [rgro]
    unfold rawc pcs
    simp only
    rw [e2]
    split
    · have ih := rawc_dlt (L := L) l b (q + (a - p) + m) a (q + (a - p))
      show dlt (chg P Q (⟨p, q, a - p⟩ :: pcs L b (q + (a - p) + m) (rawc b (q + (a - p) + m) l))) = _
      conv => lhs; unfold chg
      simp only
      rw [show p + (a - p) = a from by omega]
      split
      · show dlt (chg _ _ _) = _
        rw [ih]; omega
      · show dlt (_ :: chg _ _ _) = _
        rw [e, ih]; simp only; omega
    · have ih := rawc_dlt (L := L) l b (q + (a - p) + m) P Q
      show dlt (chg P Q (pcs L b (q + (a - p) + m) (rawc b (q + (a - p) + m) l))) = _
      rw [ih]
      omega
end Go.Proofs.Ytncbhbjhfmbbkaa
