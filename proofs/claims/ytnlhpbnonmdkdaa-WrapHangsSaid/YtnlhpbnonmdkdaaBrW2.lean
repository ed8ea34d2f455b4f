/- The walks of the laws BreaksWhole, BreaksFit, BreaksWords. -/
import Derived.Test.YtnlhpbnonmdkdaaBrU
import Derived.Deep.RegionHeld3
namespace Go.Proofs.Ytnlhpbnonmdkdaa
open Go.RowKit
set_option linter.unusedVariables false
theorem ints_cell {w : World} {A : Option Addr} {L : List Nat} (h : IntsAt .i64 w A (ofN L)) {j : Nat} (hj : j < L.length) : ∃ b off, A = some ⟨b, off, none⟩ ∧ b < w.heap.size ∧ w.cell? ⟨b, off + j, none⟩ = some (.int .i64 ((L[j] : Nat) : Int)) := by
  have hl : (ofN L).length = L.length := by simp [ofN]
  obtain ⟨b, off, e, hb, hc⟩ := h (by omega)
  have := hc j (by omega)
  rw [nth_flat (by omega : j < (ofN L).length)] at this
  exact ⟨b, off, e, hb, by rw [this]; simp [ofN]⟩
theorem nsum_take {L : List Nat} {j : Nat} (h : j < L.length) : (L.take (j + 1)).sum = (L.take j).sum + L[j] := by
  rw [List.take_succ_eq_append_getElem h, List.sum_append]; simp
theorem nsum_take_le (L : List Nat) (j : Nat) : (L.take j).sum ≤ L.sum := by
  conv => rhs; rw [← List.take_append_drop j L, List.sum_append]
  omega
theorem allN_pos {l : List Cl} {a b : Int} (h : 0 < l.length) : ∀ (j : Nat) (hj : j < (allN l a b).length), 0 < (allN l a b)[j]
  | 0, hj => by simp only [allN, List.getElem_cons_zero]; exact opn_pos h
  | j + 1, hj => by
    simp only [allN, List.getElem_cons_succ]
    exact rsts_pos _ _ _ (List.getElem_mem _)
/-- What each row of all is, by what is left: its cells, where more than one has a width, fit. -/
theorem row_next {l : List Cl} {a b here : Int} {j at_ : Nat} {R : List Nat} (hw : W02 l) (h0 : j = 0 → R = allN l a b ∧ at_ = 0 ∧ here = a) (h1 : 0 < j → R = rsts (l.drop at_) b ∧ here = b) (hR : 0 < R.length) :
    ∃ k, R = k :: rsts (l.drop (at_ + k)) b ∧ k ≤ (l.drop at_).length ∧ (1 < npos ((l.drop at_).take k) → wsum ((l.drop at_).take k) ≤ here) := by
  rcases Nat.eq_zero_or_pos j with h | h
  · obtain ⟨rfl, rfl, rfl⟩ := h0 h
    refine ⟨opn l here, by simp [allN], by simpa using opn_le l here, fun hn => ?_⟩
    simp only [List.drop_zero] at hn ⊢
    refine fit_room hw ?_ (opn_le_fit l here) hn
    rcases Nat.eq_zero_or_pos l.length with e | e
    · obtain rfl : l = [] := List.eq_nil_of_length_eq_zero e
      simp [npos] at hn
    · exact e
  · obtain ⟨rfl, rfl⟩ := h1 h
    have hp : 0 < (l.drop at_).length := by
      rcases Nat.eq_zero_or_pos (l.drop at_).length with e | e
      · rw [List.eq_nil_of_length_eq_zero e, rsts_nil] at hR; simp at hR
      · exact e
    refine ⟨tak (l.drop at_) here, by rw [rsts_step hp, List.drop_drop], tak_le _ _, fun hn => ?_⟩
    exact fit_room (hw.drop _) hp (tak_le_fit _ _) hn
set_option maxHeartbeats 4000000 in
set_option maxRecDepth 100000 in
theorem breaksWhole_walk (A : Option Addr) (n c : Nat) (l : List Cl) (a b : Int) (w : World) (hA : RowsAt encC 4 w A l) (hl : l.length = n) (hn : n ≤ maxLen) (hc : Caps A n c) (hO : ∀ s ∈ l, ClOk s) :
    Calls Try.prog 5 #[.slice A n c, .agg #[.int .i64 a, .int .i64 b]] w fun e w' => e = .returned (.bool true) ∧ Below w.heap.size w w' := by
  obtain ⟨w0, hw0⟩ : ∃ w0, w.alloc (.cells #[.int .i64 a, .int .i64 b] 28) = w0 := ⟨_, rfl⟩
  have x0 : Below w.heap.size w w0 := by rw [← hw0]; exact (Below.refl _ _).alloc (Nat.le_refl _) _
  have R0 : RawAt 28 w0 w.heap.size #[.int .i64 a, .int .i64 b] := by rw [← hw0]; exact heap_alloc_new w _
  have HR0 := Lib.hid R0
  have HX0 := Lib.hid x0
  have hA0 := hA.below x0
  by_cases hr : n ≤ 200 ∧ W02 l
  · have CR := Lib.hid (right19_any A n c l w0 hA0 hl true (by simp [hr]))
    have CA := Lib.hid fun (W : World) (hW : Below w0.heap.size w0 W) => bAll A n c a b l W (hA0.below hW) hl hc (by omega) hr.2
    have hlen := allN_len l a b
    have hsum := allN_sum l a b
    have hpos : Hid (0 < n → ∀ (j : Nat) (hj : j < (allN l a b).length), 0 < (allN l a b)[j]) := Lib.hid fun h => allN_pos (by omega)
    have hnil : Hid (n = 0 → (allN l a b).length = 1) := Lib.hid fun h => by
      obtain rfl : l = [] := List.eq_nil_of_length_eq_zero (by omega)
      rw [allN_nil]; rfl
    rw [hl] at hlen hsum
    have hn2 : n ≤ 200 := hr.1
    clear hA hl hn hc hO hr x0 R0 hA0
    generalize allN l a b = L at *
    obtain ⟨m, hm⟩ : ∃ m, L.length = m := ⟨_, rfl⟩
    rw [hm] at hlen CA hnil
    have HM := Lib.hid hm
    have HSM := Lib.hid hsum
    clear hm hsum
    go_enter Try.func5, Try.ntmps5
    go_wp2_with (first | (go_at_call 15; refine (CR.out).mono ?_; rintro e w1 ⟨rfl, hb1⟩; have HB1 := Lib.hid hb1; clear hb1; have R1 := RawAt.below HR0.out HB1.out HR0.out.lt; have c2 := RawAt.cell R1 0; have c3 := RawAt.cell R1 1; clear R1; simp at c2 c3) | (go_at_call 22; refine (CA.out _ HB1.out).mono ?_; rintro e w3 ⟨v3, rfl, ho3, hb3⟩; obtain ⟨A5, c5, rfl, hI5, _, _⟩ := IntsAt.of_own (kd := .i64) ho3; have HI5 := Lib.hid hI5; have HB3 := Lib.hid (HB1.out.trans (hb3.mono HB1.out.size)); clear hI5 ho3 hb3))
    go_loopg [5, 21] m (fun g s i wr => ∃ (j t : Nat), i = .int .i64 (j : Int) ∧ s = .int .i64 (t : Int) ∧ j ≤ m ∧ m - j ≤ g ∧ t ≤ n ∧ Hid (t = (L.take j).sum) ∧ Hid (Below w3.heap.size w3 wr))
    case atStart => exact ⟨0, 0, rfl, rfl, by omega, by omega, by omega, Lib.hid (by simp), Lib.hid (Below.refl _ _)⟩
    case round =>
      obtain ⟨j, t, rfl, rfl, h1, h2, h3, ht, hb⟩ := hrel
      by_cases hlt : j < m
      · have hjL : j < L.length := by rw [HM.out]; exact hlt
        obtain ⟨bA, off, rfl, hbA, d0⟩ := ints_cell (HI5.out.below hb.out) hjL
        have hst := nsum_take hjL
        have hsl := nsum_take_le L (j + 1)
        rw [HSM.out, hst] at hsl
        rw [← ht.out] at hst hsl
        have HST := Lib.hid hst
        have hp : 0 < n → 0 < L[j] := fun h => hpos.out h j hjL
        clear hst
        generalize L[j] = k at *
        have i1 : (0 : Int) ≤ j := by omega
        have i2 : (j : Int) < m := by omega
        by_cases hn0 : 0 < n
        · have hp2 := hp hn0
          have k1 : decide ((k : Int) < 1) = false := decide_eq_false (by omega)
          clear hp
          go_wp2_with fail
          go_roundg (gk - 1)
          case measure => omega
          case rel => exact ⟨j + 1, t + k, by go_num, by go_num, by omega, by omega, by omega, Lib.hid HST.out.symm, hb⟩
        · have hn1 : decide ((0 : Int) < n) = false := decide_eq_false (by omega)
          have hk0 : k = 0 := by omega
          have k1 : decide ((k : Int) < 1) = true := decide_eq_true (by omega)
          have k2 : ((k : Nat) : Int) = 0 := by omega
          clear hp
          go_wp2_with fail
          go_roundg (gk - 1)
          case measure => omega
          case rel => exact ⟨j + 1, t + k, by go_num, by go_num, by omega, by omega, by omega, Lib.hid HST.out.symm, hb⟩
      · obtain rfl : j = m := by omega
        have htn : t = n := by
          have := ht.out
          rw [List.take_of_length_le (by rw [HM.out]; omega), HSM.out] at this
          exact this
        have k1 : ((t : Int) == (n : Int)) = true := by simp [htn]
        have HB4 := Lib.hid (HB3.out.trans (hb.out.mono HB3.out.size))
        by_cases hn0 : 0 < n
        · clear htn
          go_wp2_with (refine (two19_any _).mono ?_; rintro e w6 ⟨rfl, hb6⟩; have HB6 := Lib.hid (HB4.out.trans (hb6.mono HB4.out.size)); clear hb6)
          go_ret
          exact ⟨rfl, HX0.out.trans (HB6.out.mono HX0.out.size)⟩
        · have hj1 := hnil.out (by omega)
          have k3 : ((j : Int) == 1) = true := by simp [hj1]
          have k4 : decide ((j : Int) = 1) = true := decide_eq_true (by omega)
          have hn1 : decide ((0 : Int) < n) = false := decide_eq_false (by omega)
          clear htn hj1
          go_wp2_with (refine (two19_any _).mono ?_; rintro e w6 ⟨rfl, hb6⟩; have HB6 := Lib.hid (HB4.out.trans (hb6.mono HB4.out.size)); clear hb6)
          go_ret
          exact ⟨rfl, HX0.out.trans (HB6.out.mono HX0.out.size)⟩
  · have CR := Lib.hid (right19_any A n c l w0 hA0 hl false (by simp; intro h; exact fun g => hr ⟨h, g⟩))
    clear hA hl hn hc hO hr hA0
    go_enter Try.func5, Try.ntmps5
    go_wp2_with (first | (go_at_call 15; refine (CR.out).mono ?_; rintro e w1 ⟨rfl, hb1⟩; have HB1 := Lib.hid hb1; clear hb1) | (go_at_call 16; refine (two19_any _).mono ?_; rintro e w6 ⟨rfl, hb6⟩; have HB6 := Lib.hid (HB1.out.trans (hb6.mono HB1.out.size)); clear hb6))
    go_ret
    exact ⟨rfl, HX0.out.trans (HB6.out.mono HX0.out.size)⟩
end Go.Proofs.Ytnlhpbnonmdkdaa
