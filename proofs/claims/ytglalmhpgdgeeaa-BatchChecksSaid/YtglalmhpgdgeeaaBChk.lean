/- Batches: what is wrong with one: the contracts of batch.Check and bodkinref09.Check. -/
import Derived.Test.YtglalmhpgdgeeaaEd
import Derived.Test.YtglalmhpgdgeeaaRPut
namespace Go.Proofs.Ytglalmhpgdgeeaa
open Go.RowKit
set_option maxHeartbeats 4000000 in
set_option maxRecDepth 100000 in
theorem btCheck_any (n : Int) (A : Option Addr) (m c : Nat) (l : List E3) (w : World) (hA : EdsAt w A l) (hl : l.length = m) :
    Calls Try.prog 13 #[.int .i64 n, .slice A m c] w fun e w' => e = .returned (.int .i64 (bchk n l)) ∧ Below w.heap.size w w' := by
  have HA := Lib.hid hA; clear hA
  have HL := Lib.hid hl; clear hl
  obtain ⟨R, hR⟩ : ∃ R, R = bchk n l := ⟨_, rfl⟩
  rw [← hR]
  have HR := Lib.hid hR; clear hR
  by_cases hg : 64 < m
  · have hst : bchk n l = 2 := by unfold bchk; rw [HL.out, if_pos hg]
    go_enter Try.func13, Try.ntmps13
    go_wp2
    go_ret
    exact ⟨by rw [HR.out, hst]; rfl, Below.refl _ _⟩
  have h0 : bchk n l = echk n 0 l := by unfold bchk; rw [HL.out, if_neg hg]
  have H0 := Lib.hid h0; clear h0
  have dz : decide (64 < m) = false := decide_eq_false hg
  have hm : m ≤ 64 := by omega
  clear hg
  go_enter Try.func13, Try.ntmps13
  go_wp2_with fail
  go_loopg [5, 13] m (fun g ah i wr => ∃ (j : Nat) (p : Int), i = .int .i64 j ∧ j ≤ m ∧ m - j ≤ g ∧ Below w.heap.size w wr ∧ ah = .int .i64 p ∧ Hid (bchk n l = echk n p (l.drop j)))
  case atStart => exact ⟨0, 0, rfl, by omega, by omega, Below.refl _ _, rfl, H0⟩
  case round =>
    obtain ⟨j, p, rfl, h1, h2, hb, rfl, hck⟩ := hrel
    by_cases hlt : j < m
    · have hjl : j < l.length := by rw [HL.out]; exact hlt
      obtain ⟨bA, off, rfl, hbA, d0, d1, d2⟩ := (HA.out.below hb).drop1 hjl
      have hst := hck.out
      rw [eth_drop hjl, echk] at hst
      have HST := Lib.hid hst; clear hst hck
      generalize eth l j = x at *
      have i1 : (0 : Int) ≤ j := by omega
      have i2 : (j : Int) < m := by omega
      have x3 : Below wr.heap.size wr (wr.alloc (.cells #[.int .i64 x.f, .int .i64 x.t, .string x.x] 43)) := (Below.refl _ _).alloc (Nat.le_refl _) _
      have a3 := hb.trans (x3.mono hb.size)
      by_cases g1 : x.f < 0
      · have hst := HST.out
        rw [if_pos (fun h => by omega)] at hst
        go_wp2
        go_ret
        exact ⟨by rw [HR.out, hst]; rfl, a3⟩
      by_cases g2 : x.t < x.f
      · have hst := HST.out
        rw [if_pos (fun h => by omega)] at hst
        have k1 : decide (x.f < 0) = false := decide_eq_false g1
        go_wp2
        go_ret
        exact ⟨by rw [HR.out, hst]; rfl, a3⟩
      by_cases g3 : n < x.t
      · have hst := HST.out
        rw [if_pos (fun h => by omega)] at hst
        have k1 : decide (x.f < 0) = false := decide_eq_false g1
        have k2 : decide (x.t < x.f) = false := decide_eq_false g2
        go_wp2
        go_ret
        exact ⟨by rw [HR.out, hst]; rfl, a3⟩
      have hst := HST.out
      rw [if_neg (fun h => h ⟨by omega, by omega, by omega⟩)] at hst
      have k1 : decide (x.f < 0) = false := decide_eq_false g1
      have k2 : decide (x.t < x.f) = false := decide_eq_false g2
      have k3 : decide (n < x.t) = false := decide_eq_false g3
      by_cases g4 : x.f < p
      · rw [if_pos g4] at hst
        go_wp2
        go_ret
        exact ⟨by rw [HR.out, hst]; rfl, a3⟩
      · rw [if_neg g4] at hst
        have HS2 := Lib.hid hst
        clear hst HST
        go_wp2
        go_roundg (gk - 1)
        case measure => omega
        case rel => exact ⟨j + 1, x.t, by go_num, by omega, by omega, a3, rfl, HS2⟩
    · have hj : j = m := by omega
      have hst := hck.out
      rw [List.drop_of_length_le (by rw [HL.out]; omega), echk] at hst
      go_wp2
      go_ret
      exact ⟨by rw [HR.out, hst]; rfl, hb⟩
set_option maxHeartbeats 4000000 in
set_option maxRecDepth 100000 in
theorem rfCheck_any (n : Int) (A : Option Addr) (m c : Nat) (l : List E3) (w : World) (hA : EdsAt w A l) (hl : l.length = m) :
    Calls Try.prog 14 #[.int .i64 n, .slice A m c] w fun e w' => e = .returned (.int .i64 (bchk n l)) ∧ Below w.heap.size w w' := by
  have HA := Lib.hid hA; clear hA
  have HL := Lib.hid hl; clear hl
  obtain ⟨R, hR⟩ : ∃ R, R = bchk n l := ⟨_, rfl⟩
  rw [← hR]
  have HR := Lib.hid hR; clear hR
  by_cases hg : 64 < m
  · have hst : bchk n l = 2 := by unfold bchk; rw [HL.out, if_pos hg]
    go_enter Try.func14, Try.ntmps14
    go_wp2
    go_ret
    exact ⟨by rw [HR.out, hst]; rfl, Below.refl _ _⟩
  have h0 : bchk n l = echk n 0 l := by unfold bchk; rw [HL.out, if_neg hg]
  have H0 := Lib.hid h0; clear h0
  have dz : decide (64 < m) = false := decide_eq_false hg
  have hm : m ≤ 64 := by omega
  clear hg
  go_enter Try.func14, Try.ntmps14
  go_wp2_with fail
  go_loopg [5, 13] m (fun g ah i wr => ∃ (j : Nat) (p : Int), i = .int .i64 j ∧ j ≤ m ∧ m - j ≤ g ∧ Below w.heap.size w wr ∧ ah = .int .i64 p ∧ Hid (bchk n l = echk n p (l.drop j)))
  case atStart => exact ⟨0, 0, rfl, by omega, by omega, Below.refl _ _, rfl, H0⟩
  case round =>
    obtain ⟨j, p, rfl, h1, h2, hb, rfl, hck⟩ := hrel
    by_cases hlt : j < m
    · have hjl : j < l.length := by rw [HL.out]; exact hlt
      obtain ⟨bA, off, rfl, hbA, d0, d1, d2⟩ := (HA.out.below hb).drop1 hjl
      have hst := hck.out
      rw [eth_drop hjl, echk] at hst
      have HST := Lib.hid hst; clear hst hck
      generalize eth l j = x at *
      have i1 : (0 : Int) ≤ j := by omega
      have i2 : (j : Int) < m := by omega
      have x3 : Below wr.heap.size wr (wr.alloc (.cells #[.int .i64 x.f, .int .i64 x.t, .string x.x] 43)) := (Below.refl _ _).alloc (Nat.le_refl _) _
      have a3 := hb.trans (x3.mono hb.size)
      by_cases g0 : 0 ≤ x.f ∧ x.f ≤ x.t ∧ x.t ≤ n
      · have CI := Lib.hid fun (W : World) => inside_any n x.f x.t W true ⟨fun _ => g0, fun _ => rfl⟩
        have hst := HST.out
        rw [if_neg (fun h => h g0)] at hst
        have hst0 := Lib.hid hst
        clear hst HST g0
        obtain ⟨sb, hsb⟩ : ∃ sb, sb = wr.heap.size := ⟨_, rfl⟩
        have HSB := Lib.hid hsb
        have R3 : RawAt 43 (wr.alloc (.cells #[.int .i64 x.f, .int .i64 x.t, .string x.x] 43)) wr.heap.size #[.int .i64 x.f, .int .i64 x.t, .string x.x] := heap_alloc_new wr _
        have t0 := RawAt.cell R3 0
        have t1 := RawAt.cell R3 1
        simp at t0 t1
        clear hsb R3
        by_cases g4 : x.f < p
        · have hst := hst0.out
          rw [if_pos g4] at hst
          go_wp2_with fail
          refine (CI.out _).mono ?_
          rintro e w4 ⟨rfl, hw4⟩
          have hw4 := hw4.symm
          subst hw4
          go_wp2
          go_ret
          exact ⟨by rw [HR.out, hst]; rfl, a3⟩
        · have hst := hst0.out
          rw [if_neg g4] at hst
          have HS2 := Lib.hid hst
          clear hst hst0
          go_wp2_with fail
          refine (CI.out _).mono ?_
          rintro e w4 ⟨rfl, hw4⟩
          have hw4 := hw4.symm
          subst hw4
          go_wp2
          go_roundg (gk - 1)
          case measure => omega
          case rel => exact ⟨j + 1, x.t, by go_num, by omega, by omega, a3, rfl, HS2⟩
      · have CI := Lib.hid fun (W : World) => inside_any n x.f x.t W false ⟨fun h => absurd h (by decide), fun h => absurd h g0⟩
        have hst := HST.out
        rw [if_pos g0] at hst
        clear g0
        go_wp2_with fail
        refine (CI.out _).mono ?_
        rintro e w4 ⟨rfl, hw4⟩
        have hw4 := hw4.symm
        subst hw4
        go_wp2
        go_ret
        exact ⟨by rw [HR.out, hst]; rfl, a3⟩
    · have hj : j = m := by omega
      have hst := hck.out
      rw [List.drop_of_length_le (by rw [HL.out]; omega), echk] at hst
      go_wp2
      go_ret
      exact ⟨by rw [HR.out, hst]; rfl, hb⟩
end Go.Proofs.Ytglalmhpgdgeeaa
