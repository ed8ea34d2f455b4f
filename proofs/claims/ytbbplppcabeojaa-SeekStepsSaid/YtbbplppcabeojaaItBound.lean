/- The contracts of item.bound and item.bounded. -/
import Derived.Test.YtbbplppcabeojaaIdx3
namespace Go.Proofs.Ytbbplppcabeojaa
open Go.RowKit
/-- The number that may be and is nearest. -/
def clamp (v : Int) : Int := if v < 0 then 0 else if 1099511627776 < v then 1099511627776 else v
theorem clamp_ok {v : Int} (h : Okn v) : clamp v = v := by
  obtain ⟨h1, h2⟩ := h
  unfold clamp
  rw [if_neg (by omega), if_neg (by omega)]
theorem clamp_no {v : Int} (h : ¬ Okn v) : clamp v ≠ v := by
  unfold clamp Okn at *
  repeat' split
  all_goals omega
theorem bound_any (v : Int) (w : World) : Calls Try.prog 89 #[.int .i64 v] w fun e w' => e = .returned (.int .i64 (clamp v)) ∧ w' = w := by
  by_cases h1 : v < 0
  · have HC := Lib.hid (show clamp v = 0 from if_pos h1)
    go_enter Try.func89, Try.ntmps89
    go_wp2
    go_ret
    exact ⟨ret_int (by rw [HC.out]), rfl⟩
  · by_cases h2 : 1099511627776 < v
    · have HC := Lib.hid (show clamp v = 1099511627776 by unfold clamp; rw [if_neg h1, if_pos h2])
      go_enter Try.func89, Try.ntmps89
      go_wp2
      go_ret
      exact ⟨ret_int (by rw [HC.out]), rfl⟩
    · have HC := Lib.hid (show clamp v = v by unfold clamp; rw [if_neg h1, if_neg h2])
      go_enter Try.func89, Try.ntmps89
      go_wp2
      go_ret
      exact ⟨ret_int (by rw [HC.out]), rfl⟩
/-- The cells of three sizes. -/
def dcs (a b c : Int) : Array Value := #[.int .i64 a, .int .i64 b, .int .i64 c]
set_option maxHeartbeats 2000000 in
theorem bounded_any (a b c : Int) (w : World) : Calls Try.prog 88 #[.agg (dcs a b c)] w fun e w' => e = .returned (.agg (dcs (clamp a) (clamp b) (clamp c))) ∧ Below w.heap.size w w' := by
  unfold dcs
  have CA := Lib.hid fun W => bound_any a W
  have CB := Lib.hid fun W => bound_any b W
  have CC := Lib.hid fun W => bound_any c W
  generalize clamp a = a' at *
  generalize clamp b = b' at *
  generalize clamp c = c' at *
  go_enter Try.func88, Try.ntmps88
  go_wp2
  obtain ⟨hr0, hz0, hb0, hs0⟩ := new2 w 50 50 (dcs a b c) (dcs 0 0 0)
  change Code.wp _ _ _ _ ((w.alloc (.cells (dcs a b c) 50)).alloc (.cells (dcs 0 0 0) 50))
  generalize ((w.alloc (.cells (dcs a b c) 50)).alloc (.cells (dcs 0 0 0) 50)) = W1 at *
  have HZ := Lib.hid hz0; clear hz0
  have HR := Lib.hid hr0; clear hr0 hs0
  go_loopg [6] 3 (fun k v wr => ∃ j : Nat, v = .int .i64 j ∧ j ≤ 3 ∧ 3 - j ≤ k ∧ Below w.heap.size w wr ∧ Hid (RawAt 50 wr w.heap.size (dcs (if 1 ≤ j then a' else a) (if 2 ≤ j then b' else b) (if 3 ≤ j then c' else c))) ∧ Hid (RawAt 50 wr (w.heap.size + 1) (dcs 0 0 0)))
  case atStart => exact ⟨0, rfl, by omega, by omega, hb0, HR, HZ⟩
  case round =>
    obtain ⟨j, rfl, h1, h2, hb, hr, hz⟩ := hrel
    obtain rfl | rfl | rfl | rfl : j = 0 ∨ j = 1 ∨ j = 2 ∨ j = 3 := by omega
    · have hx := fun W => idx3_0 a b c W
      have c0 := RawAt.cell hr.out 0
      have f0 := RawAt.free hr.out 0
      simp only [dcs, Nat.reduceLeDiff, ↓reduceIte, List.getElem?_toArray, List.getElem?_cons_zero] at c0
      go_wp2_with fail
      refine (CA.out _).mono ?_
      rintro e w1 ⟨rfl, rfl⟩
      go_wp2
      go_roundg (gk - 1)
      case measure => omega
      case rel => exact ⟨1, rfl, by omega, by omega, hb.setCell (p := ⟨w.heap.size, _, none⟩) (Nat.le_refl _) _, (RawAt.set_ hr.out _ _).of_eq (by simp [dcs]), RawAt.set_other hz.out (by omega) _ _⟩
    · have hx := fun W => idx3_1 a b c W
      have c1 := RawAt.cell hr.out 1
      have f1 := RawAt.free hr.out 1
      simp only [dcs, Nat.reduceLeDiff, ↓reduceIte, List.getElem?_toArray, List.getElem?_cons_succ, List.getElem?_cons_zero] at c1
      go_wp2_with fail
      refine (CB.out _).mono ?_
      rintro e w1 ⟨rfl, rfl⟩
      go_wp2
      go_roundg (gk - 1)
      case measure => omega
      case rel => exact ⟨2, rfl, by omega, by omega, hb.setCell (p := ⟨w.heap.size, _, none⟩) (Nat.le_refl _) _, (RawAt.set_ hr.out _ _).of_eq (by simp [dcs]), RawAt.set_other hz.out (by omega) _ _⟩
    · have hx := fun W => idx3_2 a b c W
      have c2 := RawAt.cell hr.out 2
      have f2 := RawAt.free hr.out 2
      simp only [dcs, Nat.reduceLeDiff, ↓reduceIte, List.getElem?_toArray, List.getElem?_cons_succ, List.getElem?_cons_zero] at c2
      go_wp2_with fail
      refine (CC.out _).mono ?_
      rintro e w1 ⟨rfl, rfl⟩
      go_wp2
      go_roundg (gk - 1)
      case measure => omega
      case rel => exact ⟨3, rfl, by omega, by omega, hb.setCell (p := ⟨w.heap.size, _, none⟩) (Nat.le_refl _) _, (RawAt.set_ hr.out _ _).of_eq (by simp [dcs]), RawAt.set_other hz.out (by omega) _ _⟩
    · have hr' : RawAt 50 wr w.heap.size (dcs a' b' c') := hr.out
      have c0 : wr.cell? ⟨w.heap.size, 0, none⟩ = some (.int .i64 a') := RawAt.cell hr' 0
      have c1 : wr.cell? ⟨w.heap.size, 1, none⟩ = some (.int .i64 b') := RawAt.cell hr' 1
      have c2 : wr.cell? ⟨w.heap.size, 2, none⟩ = some (.int .i64 c') := RawAt.cell hr' 2
      have z0 : wr.cell? ⟨w.heap.size + 1, 0, none⟩ = some (.int .i64 0) := RawAt.cell hz.out 0
      have z1 : wr.cell? ⟨w.heap.size + 1, 1, none⟩ = some (.int .i64 0) := RawAt.cell hz.out 1
      have z2 : wr.cell? ⟨w.heap.size + 1, 2, none⟩ = some (.int .i64 0) := RawAt.cell hz.out 2
      have y0 := RawAt.free hz.out 0
      have y1 := RawAt.free hz.out 1
      have y2 := RawAt.free hz.out 2
      clear hr'
      go_wp2
      refine bodyPost_ret (v := .agg #[.int .i64 a', .int .i64 b', .int .i64 c']) (by simp [results, Try.results88, go_sem, z0, z1, z2]) rfl ⟨rfl, ?_⟩
      exact ((hb.setCell (p := ⟨w.heap.size + 1, _, none⟩) (Nat.le_succ _) _).setCell (p := ⟨w.heap.size + 1, _, none⟩) (Nat.le_succ _) _).setCell (p := ⟨w.heap.size + 1, _, none⟩) (Nat.le_succ _) _
end Go.Proofs.Ytbbplppcabeojaa
