/- Patches: what a row of changes is in memory. -/
import Derived.Test.YtbeclkhahdcmbaaGreatPatPure
import Derived.Test.YtbeclkhahdcmbaaGreatBase
namespace Go.Proofs.YtbeclkhahdcmbaaGreat
open Go.RowKit
/-- Where a place goes, behind a change that ends at p, and at q now. -/
def mp (p q : Int) : List Ch → Int → Int → Int
  | [], at_, _ => at_ + (q - p)
  | c :: l, at_, bi => if at_ < c.oa then at_ + (q - p) else if at_ ≤ c.ob then (if bi = 0 then c.na else c.nb) else mp c.ob c.nb l at_ bi
/-- The document's way: through all changes. -/
def mpR (s : Int) : List Ch → Int → Int → Int
  | [], at_, _ => at_ + s
  | c :: l, at_, bi => if c.oa ≤ at_ ∧ at_ ≤ c.ob then (if bi = 0 then c.na else c.nb) else mpR (if c.ob < at_ then c.nb - c.ob else s) l at_ bi
theorem mpR_far {M : Int} : ∀ {p q : Int} {fi : Bool} {l : List Ch}, nrm M p q fi l → ∀ {at_ : Int} (bi s : Int), (∀ c m, l = c :: m → at_ < c.oa) → mpR s l at_ bi = at_ + s
  | _, _, _, [], _, _, _, _, _ => rfl
  | p, q, fi, c :: l, h, at_, bi, s, hh => by
    have h1 := hh c l rfl
    have h2 := h.1.2.1
    unfold mpR
    rw [if_neg (by omega), if_neg (by omega)]
    refine mpR_far h.2 bi s fun d m e => ?_
    subst e
    have h3 := h.2.1.2.2.2.2.2.2.2.2.2 rfl
    omega
theorem mpR_mp {M : Int} : ∀ {p q : Int} {fi : Bool} {l : List Ch}, nrm M p q fi l → ∀ (at_ bi : Int), mpR (q - p) l at_ bi = mp p q l at_ bi
  | _, _, _, [], _, _, _ => rfl
  | p, q, fi, c :: l, h, at_, bi => by
    have h2 := h.1.2.1
    unfold mpR mp
    by_cases g1 : at_ < c.oa
    · rw [if_neg (by omega), if_pos g1, if_neg (by omega)]
      refine mpR_far h.2 bi _ fun d m e => ?_
      subst e
      have h3 := h.2.1.2.2.2.2.2.2.2.2.2 rfl
      omega
    · rw [if_neg g1]
      by_cases g2 : at_ ≤ c.ob
      · rw [if_pos ⟨by omega, g2⟩, if_pos g2]
      · rw [if_neg (by omega), if_neg g2, if_pos (by omega)]
        exact mpR_mp h.2 at_ bi
def cth (l : List Ch) (k : Nat) : Ch := l.getD k ⟨0, 0, 0, 0⟩
theorem cth_drop {l : List Ch} {j : Nat} (h : j < l.length) : l.drop j = cth l j :: l.drop (j + 1) := by
  rw [List.drop_eq_getElem_cons h]; simp [cth, List.getD, h]
theorem cth_take {l : List Ch} {j : Nat} (h : j < l.length) : l.take (j + 1) = l.take j ++ [cth l j] := by
  rw [List.take_succ_eq_append_getElem h]; simp [cth, List.getD, h]
/-- By how much changes make longer. -/
def dlt (l : List Ch) : Int := (l.map fun c => (c.nb - c.na) - (c.ob - c.oa)).sum
theorem dlt_take {l : List Ch} {j : Nat} (h : j < l.length) : dlt (l.take (j + 1)) = dlt (l.take j) + (((cth l j).nb - (cth l j).na) - ((cth l j).ob - (cth l j).oa)) := by
  rw [cth_take h]; simp [dlt]
instance : Inhabited Ch := ⟨⟨0, 0, 0, 0⟩⟩
theorem cth_mem {l : List Ch} {k : Nat} (h : k < l.length) : cth l k ∈ l := by
  have : cth l k = l[k] := by simp [cth, List.getD, h]
  rw [this]; exact List.getElem_mem h
/-- A change's cells. -/
def chcs (c : Ch) : Array Value := #[.int .i64 c.oa, .int .i64 c.ob, .int .i64 c.na, .int .i64 c.nb]
/-- Changes lie from an address on. -/
def ChsAt (w : World) (A : Option Addr) (l : List Ch) : Prop :=
  0 < l.length → ∃ b off, A = some ⟨b, off, none⟩ ∧ b < w.heap.size ∧ ∀ k, k < l.length → w.cell? ⟨b, off + k * 4, none⟩ = some (.int .i64 (cth l k).oa) ∧ w.cell? ⟨b, off + k * 4 + 1, none⟩ = some (.int .i64 (cth l k).ob) ∧ w.cell? ⟨b, off + k * 4 + 2, none⟩ = some (.int .i64 (cth l k).na) ∧ w.cell? ⟨b, off + k * 4 + 3, none⟩ = some (.int .i64 (cth l k).nb)
theorem ChsAt.below {w w' : World} {A : Option Addr} {l : List Ch} (h : ChsAt w A l) (hb : Below w.heap.size w w') : ChsAt w' A l := by
  intro hl
  obtain ⟨b, off, rfl, h1, h2⟩ := h hl
  refine ⟨b, off, rfl, Nat.lt_of_lt_of_le h1 hb.size, fun k hk => ?_⟩
  obtain ⟨c0, c1, c2, c3⟩ := h2 k hk
  have H := (old_cells hb).1
  exact ⟨(H _ _ h1).trans c0, (H _ _ h1).trans c1, (H _ _ h1).trans c2, (H _ _ h1).trans c3⟩
theorem ChsAt.at1 {w : World} {A : Option Addr} {l : List Ch} (h : ChsAt w A l) {k : Nat} (hk : k < l.length) : ∃ b off, A = some ⟨b, off, none⟩ ∧ b < w.heap.size ∧ w.cell? ⟨b, off + k * 4, none⟩ = some (.int .i64 (cth l k).oa) ∧ w.cell? ⟨b, off + k * 4 + 1, none⟩ = some (.int .i64 (cth l k).ob) ∧ w.cell? ⟨b, off + k * 4 + 2, none⟩ = some (.int .i64 (cth l k).na) ∧ w.cell? ⟨b, off + k * 4 + 3, none⟩ = some (.int .i64 (cth l k).nb) := by
  obtain ⟨b, off, e, h1, h2⟩ := h (by omega)
  exact ⟨b, off, e, h1, h2 k hk⟩
/-- Changes as values. -/
def cflat (o : List Ch) : List Value := o.flatMap fun c => [.int .i64 c.oa, .int .i64 c.ob, .int .i64 c.na, .int .i64 c.nb]
theorem cflat_append (a b : List Ch) : cflat (a ++ b) = cflat a ++ cflat b := by simp [cflat]
theorem cflat_length (o : List Ch) : (cflat o).length = o.length * 4 := by
  induction o with
  | nil => rfl
  | cons x o ih => rw [show cflat (x :: o) = [.int .i64 x.oa, .int .i64 x.ob, .int .i64 x.na, .int .i64 x.nb] ++ cflat o from rfl, List.length_append, ih, List.length_cons]; simp; omega
theorem cflat_at : ∀ (o : List Ch) (k : Nat), k < o.length → (cflat o)[k * 4]? = some (.int .i64 (cth o k).oa) ∧ (cflat o)[k * 4 + 1]? = some (.int .i64 (cth o k).ob) ∧ (cflat o)[k * 4 + 2]? = some (.int .i64 (cth o k).na) ∧ (cflat o)[k * 4 + 3]? = some (.int .i64 (cth o k).nb)
  | x :: o, 0, _ => ⟨rfl, rfl, rfl, rfl⟩
  | x :: o, k + 1, h => by
    have := cflat_at o k (by simpa using h)
    rw [show (k + 1) * 4 = k * 4 + 4 from by omega, show k * 4 + 4 + 1 = k * 4 + 1 + 4 from by omega, show k * 4 + 4 + 2 = k * 4 + 2 + 4 from by omega, show k * 4 + 4 + 3 = k * 4 + 3 + 4 from by omega]
    simpa [cflat, cth, List.getD] using this
theorem chs_of_own {w : World} {base n : Nat} {e : TypeId} {v : Value} {o : List Ch} (h : w.ownsRow base e 4 v n (cflat o)) : ∃ A c, v = .slice A n c ∧ ChsAt w A o ∧ o.length = n ∧ Caps A n c := by
  have hl : o.length = n := by have := h.1; rw [cflat_length] at this; omega
  rcases h.2 with ⟨rfl, rfl⟩ | ⟨g, cap, cur, rfl, hbg, hh, hnc, _, hsz, htake⟩
  · exact ⟨none, 0, rfl, fun hp => by omega, hl, Nat.le_refl _, fun _ => rfl⟩
  · refine ⟨_, cap, rfl, fun _ => ⟨g, 0, rfl, block_lt hh, fun k hk => ?_⟩, hl, hnc, fun h => by cases h⟩
    obtain ⟨c0, c1, c2, c3⟩ := cflat_at o k hk
    have key : ∀ j u, (cflat o)[j]? = some u → w.cell? ⟨g, 0 + j, none⟩ = some u := fun j u hu => by
      rw [cell_of_row w g _ cur e (0, 0) hh, ← Array.getElem?_toList, Nat.zero_add]
      have hj : j < n * 4 := by
        rcases Nat.lt_or_ge j (n * 4) with h9 | h9
        · exact h9
        · rw [List.getElem?_eq_none (by rw [cflat_length]; omega)] at hu; cases hu
      rw [← htake, List.getElem?_take, if_pos hj] at hu
      exact hu
    exact ⟨key _ _ c0, by rw [Nat.add_assoc]; exact key _ _ c1, by rw [Nat.add_assoc]; exact key _ _ c2, by rw [Nat.add_assoc]; exact key _ _ c3⟩
theorem chs_of_block {w : World} {b : Nat} {l : List Ch} {cs : Array Value} {t : TypeId} (h : RawAt t w b cs) (hc : cs.toList = cflat l) : ChsAt w (some ⟨b, 0, none⟩) l := by
  intro _
  refine ⟨b, 0, rfl, RawAt.lt h, fun k hk => ?_⟩
  obtain ⟨c0, c1, c2, c3⟩ := cflat_at l k hk
  have key : ∀ j u, (cflat l)[j]? = some u → w.cell? ⟨b, 0 + j, none⟩ = some u := fun j u hu => by
    rw [RawAt.cell h, ← Array.getElem?_toList, hc, Nat.zero_add]; exact hu
  exact ⟨key _ _ c0, by rw [Nat.add_assoc]; exact key _ _ c1, by rw [Nat.add_assoc]; exact key _ _ c2, by rw [Nat.add_assoc]; exact key _ _ c3⟩
end Go.Proofs.YtbeclkhahdcmbaaGreat
