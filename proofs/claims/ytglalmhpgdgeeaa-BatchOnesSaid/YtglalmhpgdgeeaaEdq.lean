/- Edits: more plain facts: ends, middles, what undoes, how long their texts are. -/
import Derived.Test.YtglalmhpgdgeeaaEd
namespace Go.Proofs.Ytglalmhpgdgeeaa
open Go.RowKit
theorem elast_append : ∀ (p : Nat) (a b : List E3), elast p (a ++ b) = elast (elast p a) b
  | _, [], _ => rfl
  | p, x :: a, b => by show elast x.t.toNat (a ++ b) = _; rw [elast_append]; rfl
theorem emid_append (r : List Int) : ∀ (p : Nat) (a b : List E3), emid r p (a ++ b) = emid r p a ++ emid r (elast p a) b
  | _, [], _ => rfl
  | p, x :: a, b => by
    show (r.take x.f.toNat).drop p ++ dec x.x ++ emid r x.t.toNat (a ++ b) = _
    rw [emid_append]
    simp only [emid, elast, List.append_assoc]
theorem emid_take (r : List Int) (p : Nat) {l : List E3} {j : Nat} (h : j < l.length) : emid r p (l.take (j + 1)) = emid r p (l.take j) ++ ((r.take (eth l j).f.toNat).drop (elast p (l.take j)) ++ dec (eth l j).x) := by
  rw [eth_take h, emid_append]
  simp [emid]
theorem elast_take (p : Nat) {l : List E3} {j : Nat} (h : j < l.length) : elast p (l.take (j + 1)) = (eth l j).t.toNat := by
  rw [eth_take h, elast_append]; rfl
theorem emid_pre (r : List Int) (p : Nat) (l : List E3) (j : Nat) : (emid r p (l.take j)).length ≤ (emid r p l).length := by
  have h := emid_append r p (l.take j) (l.drop j)
  rw [List.take_append_drop] at h
  rw [h, List.length_append]; omega
theorem emid_cln {r : List Int} (hr : Cln r) : ∀ (p : Nat) (l : List E3), Cln (emid r p l)
  | _, [] => fun _ h => absurd h List.not_mem_nil
  | _, _ :: l => (((hr.take_ _).drop_ _).append_ (cln_dec _)).append_ (emid_cln hr _ l)
theorem eput_cln {r : List Int} (hr : Cln r) : ∀ (l : List E3), Cln (eput r l)
  | [] => hr
  | _ :: l => (((eput_cln hr l).take_ _).append_ (cln_dec _)).append_ ((eput_cln hr l).drop_ _)
theorem ris_at {n : Nat} : ∀ {p : Nat} {l : List E3}, ERis n p l → ∀ {j : Nat}, j < l.length → ∃ a b : Nat, (eth l j).f = a ∧ (eth l j).t = b ∧ elast p (l.take j) ≤ a ∧ a ≤ b ∧ b ≤ n
  | _, [], _, j, h => absurd h (Nat.not_lt_zero _)
  | _, _ :: _, h, 0, _ => by
    obtain ⟨a, b, h1, h2, h3, h4, h5, _⟩ := h
    exact ⟨a, b, h1, h2, h3, h4, h5⟩
  | p, x :: l, h, j + 1, hj => by
    obtain ⟨a, b, h1, h2, h3, h4, h5, h6⟩ := h
    obtain ⟨c, d, k1, k2, k3, k4, k5⟩ := ris_at h6 (j := j) (by simpa using hj)
    refine ⟨c, d, k1, k2, ?_, k4, k5⟩
    show elast x.t.toNat (l.take j) ≤ c
    rw [h2, Int.toNat_natCast]
    exact k3
theorem ris_first {n : Nat} {l : List E3} (h : ERis n 0 l) : ∃ p0 : Nat, p0 ≤ n ∧ ERis n p0 l ∧ (l = [] → p0 = 0) ∧ (0 < l.length → (eth l 0).f = p0) := by
  cases l with
  | nil => exact ⟨0, Nat.zero_le _, trivial, fun _ => rfl, fun h => absurd h (Nat.lt_irrefl _)⟩
  | cons x l =>
    obtain ⟨a, b, h1, h2, h3, h4, h5, h6⟩ := h
    exact ⟨a, by omega, ⟨a, b, h1, h2, Nat.le_refl _, h4, h5, h6⟩, (fun h => by cases h), fun _ => h1⟩
theorem elast_end (p : Nat) {l : List E3} (h : 0 < l.length) : elast p l = (eth l (l.length - 1)).t.toNat := by
  have := elast_take p (l := l) (j := l.length - 1) (by omega)
  rwa [List.take_of_length_le (by omega)] at this
theorem einv_eth (r : List Int) : ∀ (s : Int) (l : List E3) {j : Nat}, j < l.length → eth (einv r s l) j = ⟨(eth l j).f + (s + egrow (l.take j)), (eth l j).f + (s + egrow (l.take j)) + (dec (eth l j).x).length, txt ((r.take (eth l j).t.toNat).drop (eth l j).f.toNat)⟩
  | _, [], j, h => absurd h (Nat.not_lt_zero _)
  | s, x :: l, 0, _ => by
    have e : egrow ((x :: l).take 0) = 0 := rfl
    rw [e, Int.add_zero]
    rfl
  | s, x :: l, j + 1, hj => by
    have := einv_eth r (s + egro x) l (j := j) (by simpa using hj)
    show eth (einv r (s + egro x) l) j = _
    rw [this]
    have e : egrow ((x :: l).take (j + 1)) = egro x + egrow (l.take j) := by rw [List.take_succ_cons, egrow_cons]
    rw [e, show s + egro x + egrow (l.take j) = s + (egro x + egrow (l.take j)) from by omega]
    rfl
/-- How long all texts are. -/
def tsum (l : List E3) : Nat := (l.map (fun e => e.x.size)).sum
theorem tsum_take {l : List E3} {j : Nat} (h : j < l.length) : tsum (l.take (j + 1)) = tsum (l.take j) + (eth l j).x.size := by
  rw [eth_take h]; simp [tsum]
theorem tsum_cons (e : E3) (l : List E3) : tsum (e :: l) = e.x.size + tsum l := by simp [tsum]
theorem tsum_mem {l : List E3} {e : E3} (h : e ∈ l) : e.x.size ≤ tsum l := by
  induction l with
  | nil => exact absurd h List.not_mem_nil
  | cons x l ih =>
    rw [tsum_cons]
    rcases List.mem_cons.1 h with rfl | h
    · omega
    · have := ih h; omega
theorem tsum_drop (l : List E3) (j : Nat) : tsum (l.drop j) ≤ tsum l := by
  have : tsum l = tsum (l.take j) + tsum (l.drop j) := by
    have h := congrArg tsum (List.take_append_drop j l)
    rw [← h]
    unfold tsum
    rw [List.map_append, List.sum_append]
  omega
theorem tsum_take_le (l : List E3) (j : Nat) : tsum (l.take j) ≤ tsum l := by
  have : tsum l = tsum (l.take j) + tsum (l.drop j) := by
    have h := congrArg tsum (List.take_append_drop j l)
    rw [← h]
    unfold tsum
    rw [List.map_append, List.sum_append]
  omega
theorem egrow_tsum (hd : ∀ s : ByteArray, (dec s).length ≤ s.size) {n : Nat} : ∀ {p : Nat} {l : List E3}, ERis n p l → egrow l ≤ tsum l
  | _, [], _ => by simp [egrow, tsum]
  | p, x :: l, h => by
    obtain ⟨a, b, h1, h2, h3, h4, h5, h6⟩ := h
    have ih := egrow_tsum hd h6
    have h7 := hd x.x
    rw [egrow_cons, tsum_cons]
    unfold egro
    omega
end Go.Proofs.Ytglalmhpgdgeeaa
