/- Edits: what a row of them is in memory, and plain facts on what a batch does, and undoes. -/
import Derived.Test.YtglalmhpgdgeeaaRopePure
import Derived.Test.YtglalmhpgdgeeaaBase
namespace Go.Proofs.Ytglalmhpgdgeeaa
open Go.RowKit
/-- An edit. -/
structure E3 where
  f : Int
  t : Int
  x : ByteArray
instance : Inhabited E3 := ⟨⟨0, 0, ⟨#[]⟩⟩⟩
def eth (l : List E3) (k : Nat) : E3 := l.getD k ⟨0, 0, ⟨#[]⟩⟩
theorem eth_drop {l : List E3} {j : Nat} (h : j < l.length) : l.drop j = eth l j :: l.drop (j + 1) := by
  rw [List.drop_eq_getElem_cons h]; simp [eth, List.getD, h]
theorem eth_take {l : List E3} {j : Nat} (h : j < l.length) : l.take (j + 1) = l.take j ++ [eth l j] := by
  rw [List.take_succ_eq_append_getElem h]; simp [eth, List.getD, h]
/-- What is wrong with edits behind a place, for a text of n runes. -/
def echk (n : Int) : Int → List E3 → Int
  | _, [] => 0
  | p, e :: l => if ¬ (0 ≤ e.f ∧ e.f ≤ e.t ∧ e.t ≤ n) then 1 else if e.f < p then 90 else echk n e.t l
/-- What is wrong with a batch. -/
def bchk (n : Int) (l : List E3) : Int := if 64 < l.length then 2 else echk n 0 l
/-- By how much a text grows. -/
def egro (e : E3) : Int := ((dec e.x).length : Int) - (e.t - e.f)
def egrow (l : List E3) : Int := (l.map egro).sum
/-- Edits that may be, behind a place of a text of n runes. -/
def ERis (n : Nat) : Nat → List E3 → Prop
  | _, [] => True
  | p, e :: l => ∃ a b : Nat, e.f = a ∧ e.t = b ∧ p ≤ a ∧ a ≤ b ∧ b ≤ n ∧ ERis n b l
theorem echk_ris {n : Nat} : ∀ {p : Nat} {l : List E3}, echk n p l = 0 ↔ ERis n p l
  | p, [] => by simp [echk, ERis]
  | p, e :: l => by
    unfold echk ERis
    by_cases h : 0 ≤ e.f ∧ e.f ≤ e.t ∧ e.t ≤ n
    · rw [if_neg (fun hn => hn h)]
      obtain ⟨h1, h2, h3⟩ := h
      obtain ⟨a, ha⟩ : ∃ a : Nat, e.f = a := ⟨e.f.toNat, by omega⟩
      obtain ⟨b, hb⟩ : ∃ b : Nat, e.t = b := ⟨e.t.toNat, by omega⟩
      by_cases hp : e.f < p
      · rw [if_pos hp]
        constructor
        · intro h; exact absurd h (by decide)
        · rintro ⟨a', b', e1, e2, e3, e4, e5, _⟩; omega
      · rw [if_neg hp, hb, echk_ris]
        constructor
        · intro h; exact ⟨a, b, ha, rfl, by omega, by omega, by omega, h⟩
        · rintro ⟨a', b', e1, e2, e3, e4, e5, h⟩
          obtain rfl : b = b' := by omega
          exact h
    · rw [if_pos h]
      constructor
      · intro h; exact absurd h (by decide)
      · rintro ⟨a', b', e1, e2, e3, e4, e5, _⟩; exact absurd ⟨by omega, by omega, by omega⟩ h
/-- A batch done from its last edit on. -/
def eput (r : List Int) : List E3 → List Int
  | [] => r
  | e :: l => (eput r l).take e.f.toNat ++ dec e.x ++ (eput r l).drop e.t.toNat
/-- What is between a place and the last edit's end. -/
def emid (r : List Int) : Nat → List E3 → List Int
  | _, [] => []
  | p, e :: l => (r.take e.f.toNat).drop p ++ dec e.x ++ emid r e.t.toNat l
/-- The last edit's end. -/
def elast : Nat → List E3 → Nat
  | p, [] => p
  | _, e :: l => elast e.t.toNat l
theorem take_drop_j (l : List Int) {a b : Nat} (h : a ≤ b) : l.take a ++ (l.take b).drop a = l.take b := by
  conv => rhs; rw [← List.take_append_drop a (l.take b)]
  rw [List.take_take, Nat.min_eq_left h]
theorem take_drop_c (l : List Int) {a b : Nat} (h : a ≤ b) : (l.take b).drop a ++ l.drop b = l.drop a := by
  rcases Nat.le_total b l.length with hb | hb
  · have := take_drop_j l h
    have h2 : l.take b ++ l.drop b = l := List.take_append_drop b l
    rw [← this, List.append_assoc] at h2
    have h3 := congrArg (List.drop a) h2
    rw [List.drop_append_of_le_length (by rw [List.length_take]; omega), List.drop_eq_nil_of_le (by rw [List.length_take]; omega), List.nil_append] at h3
    exact h3
  · rw [List.take_of_length_le hb, List.drop_eq_nil_of_le hb, List.append_nil]
theorem ERis.last {n : Nat} : ∀ {p : Nat} {l : List E3}, p ≤ n → ERis n p l → p ≤ elast p l ∧ elast p l ≤ n
  | p, [], hp, _ => ⟨Nat.le_refl _, hp⟩
  | p, e :: l, hp, h => by
    obtain ⟨a, b, h1, h2, h3, h4, h5, h6⟩ := h
    have := ERis.last h5 h6
    unfold elast
    rw [h2, Int.toNat_natCast]
    omega
theorem eput_mid {r : List Int} : ∀ {p : Nat} {l : List E3}, p ≤ r.length → ERis r.length p l → eput r l = r.take p ++ emid r p l ++ r.drop (elast p l)
  | p, [], hp, _ => by simp [eput, emid, elast, List.take_append_drop]
  | p, e :: l, hp, h => by
    obtain ⟨a, b, h1, h2, h3, h4, h5, h6⟩ := h
    have ih := eput_mid h5 h6
    unfold eput emid elast
    rw [h1, h2, Int.toNat_natCast, Int.toNat_natCast, ih]
    have hl : (r.take b).length = b := by rw [List.length_take]; omega
    rw [List.append_assoc (r.take b)]
    rw [List.take_append_of_le_length (by omega), List.take_take, Nat.min_eq_left h4]
    rw [show (r.take b ++ (emid r b l ++ r.drop (elast b l))).drop b = emid r b l ++ r.drop (elast b l) from by
      conv => lhs; arg 1; rw [← hl]
      rw [List.drop_left]]
    have hj := take_drop_j r h3
    simp only [List.append_assoc]
    rw [← List.append_assoc (r.take p), hj]
theorem egrow_cons (e : E3) (l : List E3) : egrow (e :: l) = egro e + egrow l := by simp [egrow]
theorem emid_len {r : List Int} : ∀ {p : Nat} {l : List E3}, p ≤ r.length → ERis r.length p l → ((emid r p l).length : Int) = egrow l + ((elast p l : Int) - p)
  | p, [], hp, _ => by simp [emid, egrow, elast]
  | p, e :: l, hp, h => by
    obtain ⟨a, b, h1, h2, h3, h4, h5, h6⟩ := h
    have ih := emid_len h5 h6
    unfold emid elast
    rw [egrow_cons]
    unfold egro
    rw [h1, h2, Int.toNat_natCast, Int.toNat_natCast]
    simp only [List.length_append, List.length_drop, List.length_take]
    omega
theorem eput_len {r : List Int} {p : Nat} {l : List E3} (hp : p ≤ r.length) (h : ERis r.length p l) : ((eput r l).length : Int) = r.length + egrow l := by
  rw [eput_mid hp h]
  have h1 := emid_len hp h
  have h2 := h.last hp
  simp only [List.length_append, List.length_take, List.length_drop]
  omega
/-- What undoes a batch, by what all ahead have made the text grow. -/
def einv (r : List Int) : Int → List E3 → List E3
  | _, [] => []
  | s, e :: l => ⟨e.f + s, e.f + s + (dec e.x).length, txt ((r.take e.t.toNat).drop e.f.toNat)⟩ :: einv r (s + egro e) l
theorem einv_cons (r : List Int) (s : Int) (e : E3) (l : List E3) : einv r s (e :: l) = ⟨e.f + s, e.f + s + (dec e.x).length, txt ((r.take e.t.toNat).drop e.f.toNat)⟩ :: einv r (s + egro e) l := rfl
theorem einv_len (r : List Int) : ∀ (s : Int) (l : List E3), (einv r s l).length = l.length
  | _, [] => rfl
  | s, e :: l => by unfold einv; simp [einv_len]
/-- One text is another one's edits' (behind places). -/
theorem undo_all {r o : List Int} (hr : Cln r) : ∀ {p q : Nat} {s : Int} {l : List E3}, (q : Int) = p + s → p ≤ r.length → q ≤ o.length → ERis r.length p l → o.drop q = emid r p l ++ r.drop (elast p l) →
    ERis o.length q (einv r s l) ∧ eput o (einv r s l) = o.take q ++ r.drop p ∧ einv o (0 - s) (einv r s l) = l.map (fun e => ⟨e.f, e.t, txt (dec e.x)⟩)
  | p, q, s, [], hq, hp, hqo, _, hd => by
    simp only [emid, elast, List.nil_append] at hd
    refine ⟨trivial, ?_, rfl⟩
    simp only [einv, eput]
    rw [← hd, List.take_append_drop]
  | p, q, s, e :: l, hq, hp, hqo, h, hd => by
    obtain ⟨a, b, h1, h2, h3, h4, h5, h6⟩ := h
    unfold emid elast at hd
    rw [h1, h2, Int.toNat_natCast, Int.toNat_natCast] at hd
    -- places in o
    obtain ⟨c, hc⟩ : ∃ c : Nat, c = q + (a - p) := ⟨_, rfl⟩
    have hA : ((r.take a).drop p).length = a - p := by rw [List.length_drop, List.length_take]; omega
    have hlen := congrArg List.length hd
    simp only [List.length_append, List.length_drop, List.length_take] at hlen
    have hX : o.drop c = dec e.x ++ (emid r b l ++ r.drop (elast b l)) := by
      rw [hc, ← List.drop_drop, hd]
      simp only [List.append_assoc]
      conv => lhs; arg 1; rw [← hA]
      rw [List.drop_left]
    have hY : o.drop (c + (dec e.x).length) = emid r b l ++ r.drop (elast b l) := by
      rw [← List.drop_drop, hX, List.drop_left]
    have hT : o.take c = o.take q ++ (r.take a).drop p := by
      rw [← take_drop_j o (show q ≤ c by omega)]
      congr 1
      rw [List.drop_take, hd, show c - q = ((r.take a).drop p).length from by rw [hA]; omega]
      simp only [List.append_assoc]
      rw [List.take_left]
    have hg : egro e = ((dec e.x).length : Int) - ((b : Int) - a) := by unfold egro; rw [h1, h2]
    have ih := undo_all (s := s + egro e) (q := c + (dec e.x).length) hr (by rw [hg]; omega) h5 (by omega) h6 hY
    obtain ⟨i1, i2, i3⟩ := ih
    have ef : e.f + s = (c : Int) := by rw [h1]; omega
    have hcl : Cln ((r.take b).drop a) := (hr.take_ _).drop_ _
    have hrl : ((r.take b).drop a).length = b - a := by rw [List.length_drop, List.length_take]; omega
    rw [einv_cons]
    refine ⟨⟨c, c + (dec e.x).length, ef, ?_, by omega, by omega, by omega, i1⟩, ?_, ?_⟩
    · show e.f + s + _ = _
      rw [ef]; omega
    · unfold eput
      simp only
      rw [i2, ef, show ((c : Int) + ((dec e.x).length : Int)).toNat = c + (dec e.x).length from by omega, Int.toNat_natCast, h1, h2, Int.toNat_natCast, Int.toNat_natCast, dec_txt hcl]
      have hl : (o.take (c + (dec e.x).length)).length = c + (dec e.x).length := by rw [List.length_take]; omega
      rw [show (o.take (c + (dec e.x).length) ++ r.drop b).drop (c + (dec e.x).length) = r.drop b from by
        conv => lhs; arg 1; rw [← hl]
        rw [List.drop_left]]
      rw [List.take_append_of_le_length (by omega), List.take_take, Nat.min_eq_left (by omega), hT, List.append_assoc, List.append_assoc, take_drop_c r h4, take_drop_c r h3]
    · rw [einv_cons, List.map_cons]
      have hw : (o.take (c + (dec e.x).length)).drop c = dec e.x := by
        rw [List.drop_take, hX, Nat.add_sub_cancel_left, List.take_left]
      have e1 : egro ⟨e.f + s, e.f + s + (dec e.x).length, txt ((r.take e.t.toNat).drop e.f.toNat)⟩ = 0 - egro e := by
        unfold egro
        simp only
        rw [h1, h2, Int.toNat_natCast, Int.toNat_natCast, dec_txt hcl, hrl]
        omega
      rw [e1, show 0 - s + (0 - egro e) = 0 - (s + egro e) from by omega, i3]
      congr 1
      simp only
      rw [ef, show ((c : Int) + ((dec e.x).length : Int)).toNat = c + (dec e.x).length from by omega, Int.toNat_natCast, h1, h2, Int.toNat_natCast, Int.toNat_natCast, dec_txt hcl, hrl, hw]
      congr 1
      all_goals omega
theorem undo_batch {r : List Int} {l : List E3} (hr : Cln r) (h : ERis r.length 0 l) : ERis (eput r l).length 0 (einv r 0 l) ∧ eput (eput r l) (einv r 0 l) = r ∧ einv (eput r l) 0 (einv r 0 l) = l.map (fun e => ⟨e.f, e.t, txt (dec e.x)⟩) := by
  have h1 := eput_mid (Nat.zero_le _) h
  have := undo_all (o := eput r l) (q := 0) (s := 0) hr (by omega) (Nat.zero_le _) (Nat.zero_le _) h (by rw [h1]; simp)
  simpa using this

/-- An edit's cells. -/
def ecs (e : E3) : Array Value := #[.int .i64 e.f, .int .i64 e.t, .string e.x]
/-- Edits lie from an address on. -/
def EdsAt (w : World) (A : Option Addr) (l : List E3) : Prop :=
  0 < l.length → ∃ b off, A = some ⟨b, off, none⟩ ∧ b < w.heap.size ∧ ∀ k, k < l.length → w.cell? ⟨b, off + k * 3, none⟩ = some (.int .i64 (eth l k).f) ∧ w.cell? ⟨b, off + k * 3 + 1, none⟩ = some (.int .i64 (eth l k).t) ∧ w.cell? ⟨b, off + k * 3 + 2, none⟩ = some (.string (eth l k).x)
theorem EdsAt.below {w w' : World} {A : Option Addr} {l : List E3} (h : EdsAt w A l) (hb : Below w.heap.size w w') : EdsAt w' A l := by
  intro hl
  obtain ⟨b, off, rfl, h1, h2⟩ := h hl
  refine ⟨b, off, rfl, Nat.lt_of_lt_of_le h1 hb.size, fun k hk => ?_⟩
  obtain ⟨c0, c1, c2⟩ := h2 k hk
  have H := (old_cells hb).1
  exact ⟨(H _ _ h1).trans c0, (H _ _ h1).trans c1, (H _ _ h1).trans c2⟩
/-- Edits as values. -/
def eflat (o : List E3) : List Value := o.flatMap fun e => [.int .i64 e.f, .int .i64 e.t, .string e.x]
theorem eflat_append (a b : List E3) : eflat (a ++ b) = eflat a ++ eflat b := by simp [eflat]
theorem eflat_length (o : List E3) : (eflat o).length = o.length * 3 := by
  induction o with
  | nil => rfl
  | cons x o ih => rw [show eflat (x :: o) = [.int .i64 x.f, .int .i64 x.t, .string x.x] ++ eflat o from rfl, List.length_append, ih, List.length_cons]; simp; omega
theorem eflat_at : ∀ (o : List E3) (k : Nat), k < o.length → (eflat o)[k * 3]? = some (.int .i64 (eth o k).f) ∧ (eflat o)[k * 3 + 1]? = some (.int .i64 (eth o k).t) ∧ (eflat o)[k * 3 + 2]? = some (.string (eth o k).x)
  | x :: o, 0, _ => ⟨rfl, rfl, rfl⟩
  | x :: o, k + 1, h => by
    have := eflat_at o k (by simpa using h)
    rw [show (k + 1) * 3 = k * 3 + 3 from by omega, show k * 3 + 3 + 1 = k * 3 + 1 + 3 from by omega, show k * 3 + 3 + 2 = k * 3 + 2 + 3 from by omega]
    simpa [eflat, eth, List.getD] using this
theorem eds_of_own {w : World} {base n : Nat} {e : TypeId} {v : Value} {o : List E3} (h : w.ownsRow base e 3 v n (eflat o)) : ∃ A c, v = .slice A n c ∧ EdsAt w A o ∧ o.length = n ∧ Caps A n c := by
  have hl : o.length = n := by have := h.1; rw [eflat_length] at this; omega
  rcases h.2 with ⟨rfl, rfl⟩ | ⟨g, cap, cur, rfl, hbg, hh, hnc, _, hsz, htake⟩
  · exact ⟨none, 0, rfl, fun hp => by omega, hl, Nat.le_refl _, fun _ => rfl⟩
  · refine ⟨_, cap, rfl, fun _ => ⟨g, 0, rfl, block_lt hh, fun k hk => ?_⟩, hl, hnc, fun h => by cases h⟩
    obtain ⟨c0, c1, c2⟩ := eflat_at o k hk
    have key : ∀ j u, (eflat o)[j]? = some u → w.cell? ⟨g, 0 + j, none⟩ = some u := fun j u hu => by
      rw [cell_of_row w g _ cur e (0, 0) hh, ← Array.getElem?_toList, Nat.zero_add]
      have hj : j < n * 3 := by
        rcases Nat.lt_or_ge j (n * 3) with h9 | h9
        · exact h9
        · rw [List.getElem?_eq_none (by rw [eflat_length]; omega)] at hu; cases hu
      rw [← htake, List.getElem?_take, if_pos hj] at hu
      exact hu
    exact ⟨key _ _ c0, by rw [Nat.add_assoc]; exact key _ _ c1, by rw [Nat.add_assoc]; exact key _ _ c2⟩
theorem EdsAt.drop1 {w : World} {A : Option Addr} {l : List E3} (h : EdsAt w A l) {k : Nat} (hk : k < l.length) : ∃ b off, A = some ⟨b, off, none⟩ ∧ b < w.heap.size ∧ w.cell? ⟨b, off + k * 3, none⟩ = some (.int .i64 (eth l k).f) ∧ w.cell? ⟨b, off + k * 3 + 1, none⟩ = some (.int .i64 (eth l k).t) ∧ w.cell? ⟨b, off + k * 3 + 2, none⟩ = some (.string (eth l k).x) := by
  obtain ⟨b, off, e, h1, h2⟩ := h (by omega)
  exact ⟨b, off, e, h1, h2 k hk⟩
end Go.Proofs.Ytglalmhpgdgeeaa
