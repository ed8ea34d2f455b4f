/- The contracts of item.bound and item.bounded. Three sizes held against three others. The contract of item.Check. -/
import Derived.Test.YtnfjleobcfhpnaaItBase
import Derived.Deep.RegionHeld3
import Derived.Deep.RegionWith
namespace Go.Proofs.Ytnfjleobcfhpnaa
open Go.RowKit
/-- The number that may be and is nearest. -/
def clamp (v : Int) : Int := if v < 0 then 0 else if 1099511627776 < v then 1099511627776 else v
theorem clamp_ok {v : Int} (h : Okn v) : clamp v = v := by
  obtain ⟨h1, h2⟩ := h
  unfold clamp
  rw [if_neg (by omega), if_neg (by omega)]
theorem clamp_no {v : Int} (h : ¬ Okn v) : clamp v ≠ v := by
  unfold clamp Okn at *
  repeat' split
  all_goals omega
theorem bound_any (v : Int) (w : World) : Calls Try.prog 110 #[.int .i64 v] w fun e w' => e = .returned (.int .i64 (clamp v)) ∧ w' = w := by
  by_cases h1 : v < 0
  · have HC := Lib.hid (show clamp v = 0 from if_pos h1)
    go_enter Try.func110, Try.ntmps110
    go_wp2
    go_ret
    exact ⟨ret_int (by rw [HC.out]), rfl⟩
  · by_cases h2 : 1099511627776 < v
    · have HC := Lib.hid (show clamp v = 1099511627776 by unfold clamp; rw [if_neg h1, if_pos h2])
      go_enter Try.func110, Try.ntmps110
      go_wp2
      go_ret
      exact ⟨ret_int (by rw [HC.out]), rfl⟩
    · have HC := Lib.hid (show clamp v = v by unfold clamp; rw [if_neg h1, if_neg h2])
      go_enter Try.func110, Try.ntmps110
      go_wp2
      go_ret
      exact ⟨ret_int (by rw [HC.out]), rfl⟩
/-- The cells of three sizes. -/
def dcs (a b c : Int) : Array Value := #[.int .i64 a, .int .i64 b, .int .i64 c]
set_option maxHeartbeats 2000000 in
theorem bounded_any (a b c : Int) (w : World) : Calls Try.prog 109 #[.agg (dcs a b c)] w fun e w' => e = .returned (.agg (dcs (clamp a) (clamp b) (clamp c))) ∧ Below w.heap.size w w' := by
  unfold dcs
  have CA := Lib.hid fun W => bound_any a W
  have CB := Lib.hid fun W => bound_any b W
  have CC := Lib.hid fun W => bound_any c W
  generalize clamp a = a' at *
  generalize clamp b = b' at *
  generalize clamp c = c' at *
  go_enter Try.func109, Try.ntmps109
  go_wp2
  obtain ⟨hr0, hz0, hb0, hs0⟩ := new2 w 126 126 (dcs a b c) (dcs 0 0 0)
  change Code.wp _ _ _ _ ((w.alloc (.cells (dcs a b c) 126)).alloc (.cells (dcs 0 0 0) 126))
  generalize ((w.alloc (.cells (dcs a b c) 126)).alloc (.cells (dcs 0 0 0) 126)) = W1 at *
  have HZ := Lib.hid hz0; clear hz0
  have HR := Lib.hid hr0; clear hr0 hs0
  go_loopg [6] 3 (fun k v wr => ∃ j : Nat, v = .int .i64 j ∧ j ≤ 3 ∧ 3 - j ≤ k ∧ Below w.heap.size w wr ∧ Hid (RawAt 126 wr w.heap.size (dcs (if 1 ≤ j then a' else a) (if 2 ≤ j then b' else b) (if 3 ≤ j then c' else c))) ∧ Hid (RawAt 126 wr (w.heap.size + 1) (dcs 0 0 0)))
  case atStart => exact ⟨0, rfl, by omega, by omega, hb0, HR, HZ⟩
  case round =>
    obtain ⟨j, rfl, h1, h2, hb, hr, hz⟩ := hrel
    obtain rfl | rfl | rfl | rfl : j = 0 ∨ j = 1 ∨ j = 2 ∨ j = 3 := by omega
    · have hx := fun W => idx3_0 a b c W
      have c0 := RawAt.cell hr.out 0
      have f0 := RawAt.free hr.out 0
      simp only [dcs, Nat.reduceLeDiff, ↓reduceIte, List.getElem?_toArray, List.getElem?_cons_zero] at c0
      go_wp2_with fail
      refine (CA.out _).mono ?_
      rintro e w1 ⟨rfl, rfl⟩
      go_wp2
      go_roundg (gk - 1)
      case measure => omega
      case rel => exact ⟨1, rfl, by omega, by omega, hb.setCell (p := ⟨w.heap.size, _, none⟩) (Nat.le_refl _) _, (RawAt.set_ hr.out _ _).of_eq (by simp [dcs]), RawAt.set_other hz.out (by omega) _ _⟩
    · have hx := fun W => idx3_1 a b c W
      have c1 := RawAt.cell hr.out 1
      have f1 := RawAt.free hr.out 1
      simp only [dcs, Nat.reduceLeDiff, ↓reduceIte, List.getElem?_toArray, List.getElem?_cons_succ, List.getElem?_cons_zero] at c1
      go_wp2_with fail
      refine (CB.out _).mono ?_
      rintro e w1 ⟨rfl, rfl⟩
      go_wp2
      go_roundg (gk - 1)
      case measure => omega
      case rel => exact ⟨2, rfl, by omega, by omega, hb.setCell (p := ⟨w.heap.size, _, none⟩) (Nat.le_refl _) _, (RawAt.set_ hr.out _ _).of_eq (by simp [dcs]), RawAt.set_other hz.out (by omega) _ _⟩
    · have hx := fun W => idx3_2 a b c W
      have c2 := RawAt.cell hr.out 2
      have f2 := RawAt.free hr.out 2
      simp only [dcs, Nat.reduceLeDiff, ↓reduceIte, List.getElem?_toArray, List.getElem?_cons_succ, List.getElem?_cons_zero] at c2
      go_wp2_with fail
      refine (CC.out _).mono ?_
      rintro e w1 ⟨rfl, rfl⟩
      go_wp2
      go_roundg (gk - 1)
      case measure => omega
      case rel => exact ⟨3, rfl, by omega, by omega, hb.setCell (p := ⟨w.heap.size, _, none⟩) (Nat.le_refl _) _, (RawAt.set_ hr.out _ _).of_eq (by simp [dcs]), RawAt.set_other hz.out (by omega) _ _⟩
    · have hr' : RawAt 126 wr w.heap.size (dcs a' b' c') := hr.out
      have c0 : wr.cell? ⟨w.heap.size, 0, none⟩ = some (.int .i64 a') := RawAt.cell hr' 0
      have c1 : wr.cell? ⟨w.heap.size, 1, none⟩ = some (.int .i64 b') := RawAt.cell hr' 1
      have c2 : wr.cell? ⟨w.heap.size, 2, none⟩ = some (.int .i64 c') := RawAt.cell hr' 2
      have z0 : wr.cell? ⟨w.heap.size + 1, 0, none⟩ = some (.int .i64 0) := RawAt.cell hz.out 0
      have z1 : wr.cell? ⟨w.heap.size + 1, 1, none⟩ = some (.int .i64 0) := RawAt.cell hz.out 1
      have z2 : wr.cell? ⟨w.heap.size + 1, 2, none⟩ = some (.int .i64 0) := RawAt.cell hz.out 2
      have y0 := RawAt.free hz.out 0
      have y1 := RawAt.free hz.out 1
      have y2 := RawAt.free hz.out 2
      clear hr'
      go_wp2
      refine bodyPost_ret (v := .agg #[.int .i64 a', .int .i64 b', .int .i64 c']) (by simp [results, Try.results109, go_sem, z0, z1, z2]) rfl ⟨rfl, ?_⟩
      exact ((hb.setCell (p := ⟨w.heap.size + 1, _, none⟩) (Nat.le_succ _) _).setCell (p := ⟨w.heap.size + 1, _, none⟩) (Nat.le_succ _) _).setCell (p := ⟨w.heap.size + 1, _, none⟩) (Nat.le_succ _) _
theorem part_int (cs : Array Value) (k : Nat) (v : Value) (h : cs[k]? = some v) (w : World) : (part 3 cs k).run Try.prog w = .ok v w := by
  simp [part, isAgg, run_underlying Try.underlying3, h, go_sem]
theorem eq3 (d : Nat) (a0 a1 a2 b0 b1 b2 : Int) (w : World) : (Op.equalIn (d + 2) 126 (.agg #[.int .i64 a0, .int .i64 a1, .int .i64 a2]) (.agg #[.int .i64 b0, .int .i64 b1, .int .i64 b2])).run Try.prog w = .ok (a0 == b0 && (a1 == b1 && a2 == b2)) w := by
  rw [Op.equalIn]
  simp only [Sem.run_bind, run_underlying Try.underlying126, Result.andThen_ok]
  have hs : (sizeOf 3).run Try.prog w = .ok 1 w := by simp [go_sem]
  rw [hs]
  simp only [Result.andThen_ok]
  have h0 : ∀ x y z : Int, (part 3 #[.int .i64 x, .int .i64 y, .int .i64 z] 0).run Try.prog w = .ok (.int .i64 x) w := fun x y z => part_int _ _ _ rfl w
  have h1 : ∀ x y z : Int, (part 3 #[.int .i64 x, .int .i64 y, .int .i64 z] 1).run Try.prog w = .ok (.int .i64 y) w := fun x y z => part_int _ _ _ rfl w
  have h2 : ∀ x y z : Int, (part 3 #[.int .i64 x, .int .i64 y, .int .i64 z] 2).run Try.prog w = .ok (.int .i64 z) w := fun x y z => part_int _ _ _ rfl w
  have he : ∀ x y : Int, (Op.equalIn (d + 1) 3 (.int .i64 x) (.int .i64 y)).run Try.prog w = .ok (x == y) w := fun x y => run_equalIn_int w d _ _ _ _ _ Try.underlying3
  rw [Std.Legacy.Range.forIn_eq_forIn_range']
  by_cases e0 : a0 = b0 <;> by_cases e1 : a1 = b1 <;> by_cases e2 : a2 = b2 <;> simp [List.range', h0, h1, h2, he, Std.Legacy.Range.size, Result.andThen, e0, e1, e2]
theorem rv_no {i : I7} {v : Int} (h : (Oki i → v = 0) ∧ (¬ Oki i → v = 1)) (hn : ¬ Oki i) : Ending.returned (.int .i64 1) = .returned (.int .i64 v) := by rw [h.2 hn]
theorem rv_yes {i : I7} {v : Int} (h : (Oki i → v = 0) ∧ (¬ Oki i → v = 1)) (hn : Oki i) : Ending.returned (.int .i64 0) = .returned (.int .i64 v) := by rw [h.1 hn]
set_option linter.unusedVariables false in
set_option maxHeartbeats 4000000 in
set_option maxRecDepth 100000 in
theorem check_ok (tag id d0 d1 d2 mx e0 e1 e2 m : Int) (tx : ByteArray) (v : Int) (w : World) (hv : Ending.returned (.int .i64 0) = .returned (.int .i64 v))
    (hd : ∀ W : World, Calls Try.prog 109 #[.agg #[.int .i64 d0, .int .i64 d1, .int .i64 d2]] W fun e w' => e = .returned (.agg #[.int .i64 d0, .int .i64 d1, .int .i64 d2]) ∧ Below W.heap.size W w')
    (hm : ∀ W : World, Calls Try.prog 110 #[.int .i64 mx] W fun e w' => e = .returned (.int .i64 mx) ∧ w' = W) :
    Calls Try.prog 95 #[.agg (ics ⟨tag, id, d0, d1, d2, mx, tx⟩)] w fun e w' => e = .returned (.int .i64 v) ∧ Below w.heap.size w w' := by
  have CD := Lib.hid hd; clear hd
  have CM := Lib.hid hm; clear hm
  have HV := Lib.hid hv; clear hv
  unfold ics
  have HEQ := eq3
  go_enter Try.func95, Try.ntmps95
  go_wp2
  have hb0 : Below w.heap.size w (w.alloc (.cells (ics ⟨tag, id, d0, d1, d2, mx, tx⟩) 132)) := (Below.refl _ _).alloc (Nat.le_refl _) _
  have hr0 : RawAt 132 (w.alloc (.cells (ics ⟨tag, id, d0, d1, d2, mx, tx⟩) 132)) w.heap.size (ics ⟨tag, id, d0, d1, d2, mx, tx⟩) := heap_alloc_new w _
  change Code.wp _ _ _ _ (w.alloc (.cells (ics ⟨tag, id, d0, d1, d2, mx, tx⟩) 132))
  generalize (w.alloc (.cells (ics ⟨tag, id, d0, d1, d2, mx, tx⟩) 132)) = W1 at *
  generalize hbb : w.heap.size = b at hr0 ⊢
  have HBB := Lib.hid hbb; clear hbb
  have HR := Lib.hid hr0; clear hr0
  have MK := Lib.hid fun (W : World) (hW : Below W1.heap.size W1 W) => (by
      obtain ⟨x0, x1, x2, x3, x4, x5, x6⟩ := raw_ics (RawAt.below HR.out hW (RawAt.lt HR.out))
      exact ⟨x0, x1, x2, x3, x4, x5, x6, hW⟩ : W.cell? ⟨b, 0, none⟩ = some (.int .i64 tag) ∧ W.cell? ⟨b, 1, none⟩ = some (.int .i64 id) ∧ W.cell? ⟨b, 2, none⟩ = some (.int .i64 d0) ∧ W.cell? ⟨b, 3, none⟩ = some (.int .i64 d1) ∧ W.cell? ⟨b, 4, none⟩ = some (.int .i64 d2) ∧ W.cell? ⟨b, 5, none⟩ = some (.int .i64 mx) ∧ W.cell? ⟨b, 6, none⟩ = some (.string tx) ∧ Below W1.heap.size W1 W)
  have hW2 : Below W1.heap.size W1 W1.drew := (Below.refl _ _).drew
  go_wp2_with fail
  go_region_held3 (fun W => W.cell? ⟨b, 0, none⟩ = some (.int .i64 tag) ∧ W.cell? ⟨b, 1, none⟩ = some (.int .i64 id) ∧ W.cell? ⟨b, 2, none⟩ = some (.int .i64 d0) ∧ W.cell? ⟨b, 3, none⟩ = some (.int .i64 d1) ∧ W.cell? ⟨b, 4, none⟩ = some (.int .i64 d2) ∧ W.cell? ⟨b, 5, none⟩ = some (.int .i64 mx) ∧ W.cell? ⟨b, 6, none⟩ = some (.string tx) ∧ Below W1.heap.size W1 W) (first | (with_reducible exact MK.out _ hW2) | (with_reducible exact MK.out _ (Below.refl _ _)) | go_keep)
    (first
      | (go_at_call 109; ((with_reducible refine (CD.out _).mono ?_); rintro e w2 ⟨rfl, hb2⟩); have hW2 := hW2.trans (hb2.mono hW2.size))
      | (go_at_call 110; ((with_reducible refine (CM.out _).mono ?_); rintro e w2 ⟨rfl, rfl⟩)))
  go_wp2
  go_ret
  exact ⟨HV.out, by have := HBB.out; subst this; exact hb0.trans (hW2.mono hb0.size)⟩
set_option linter.unusedVariables false in
set_option maxHeartbeats 4000000 in
set_option maxRecDepth 100000 in
theorem check_mx (tag id d0 d1 d2 mx e0 e1 e2 m : Int) (tx : ByteArray) (v : Int) (w : World) (hv : Ending.returned (.int .i64 1) = .returned (.int .i64 v))
    (hd : ∀ W : World, Calls Try.prog 109 #[.agg #[.int .i64 d0, .int .i64 d1, .int .i64 d2]] W fun e w' => e = .returned (.agg #[.int .i64 d0, .int .i64 d1, .int .i64 d2]) ∧ Below W.heap.size W w')
    (hm : ∀ W : World, Calls Try.prog 110 #[.int .i64 mx] W fun e w' => e = .returned (.int .i64 m) ∧ w' = W) (hx : (m == mx) = false) :
    Calls Try.prog 95 #[.agg (ics ⟨tag, id, d0, d1, d2, mx, tx⟩)] w fun e w' => e = .returned (.int .i64 v) ∧ Below w.heap.size w w' := by
  have CD := Lib.hid hd; clear hd
  have CM := Lib.hid hm; clear hm
  have HV := Lib.hid hv; clear hv
  unfold ics
  have HEQ := eq3
  go_enter Try.func95, Try.ntmps95
  go_wp2
  have hb0 : Below w.heap.size w (w.alloc (.cells (ics ⟨tag, id, d0, d1, d2, mx, tx⟩) 132)) := (Below.refl _ _).alloc (Nat.le_refl _) _
  have hr0 : RawAt 132 (w.alloc (.cells (ics ⟨tag, id, d0, d1, d2, mx, tx⟩) 132)) w.heap.size (ics ⟨tag, id, d0, d1, d2, mx, tx⟩) := heap_alloc_new w _
  change Code.wp _ _ _ _ (w.alloc (.cells (ics ⟨tag, id, d0, d1, d2, mx, tx⟩) 132))
  generalize (w.alloc (.cells (ics ⟨tag, id, d0, d1, d2, mx, tx⟩) 132)) = W1 at *
  generalize hbb : w.heap.size = b at hr0 ⊢
  have HBB := Lib.hid hbb; clear hbb
  have HR := Lib.hid hr0; clear hr0
  have MK := Lib.hid fun (W : World) (hW : Below W1.heap.size W1 W) => (by
      obtain ⟨x0, x1, x2, x3, x4, x5, x6⟩ := raw_ics (RawAt.below HR.out hW (RawAt.lt HR.out))
      exact ⟨x0, x1, x2, x3, x4, x5, x6, hW⟩ : W.cell? ⟨b, 0, none⟩ = some (.int .i64 tag) ∧ W.cell? ⟨b, 1, none⟩ = some (.int .i64 id) ∧ W.cell? ⟨b, 2, none⟩ = some (.int .i64 d0) ∧ W.cell? ⟨b, 3, none⟩ = some (.int .i64 d1) ∧ W.cell? ⟨b, 4, none⟩ = some (.int .i64 d2) ∧ W.cell? ⟨b, 5, none⟩ = some (.int .i64 mx) ∧ W.cell? ⟨b, 6, none⟩ = some (.string tx) ∧ Below W1.heap.size W1 W)
  have hW2 : Below W1.heap.size W1 W1.drew := (Below.refl _ _).drew
  go_wp2_with fail
  go_region_held3 (fun W => W.cell? ⟨b, 0, none⟩ = some (.int .i64 tag) ∧ W.cell? ⟨b, 1, none⟩ = some (.int .i64 id) ∧ W.cell? ⟨b, 2, none⟩ = some (.int .i64 d0) ∧ W.cell? ⟨b, 3, none⟩ = some (.int .i64 d1) ∧ W.cell? ⟨b, 4, none⟩ = some (.int .i64 d2) ∧ W.cell? ⟨b, 5, none⟩ = some (.int .i64 mx) ∧ W.cell? ⟨b, 6, none⟩ = some (.string tx) ∧ Below W1.heap.size W1 W) (first | (with_reducible exact MK.out _ hW2) | (with_reducible exact MK.out _ (Below.refl _ _)) | go_keep)
    (first
      | (go_at_call 109; ((with_reducible refine (CD.out _).mono ?_); rintro e w2 ⟨rfl, hb2⟩); have hW2 := hW2.trans (hb2.mono hW2.size))
      | (go_at_call 110; ((with_reducible refine (CM.out _).mono ?_); rintro e w2 ⟨rfl, rfl⟩)))
  go_wp2
  go_ret
  exact ⟨HV.out, by have := HBB.out; subst this; exact hb0.trans (hW2.mono hb0.size)⟩
set_option linter.unusedVariables false in
set_option maxHeartbeats 4000000 in
set_option maxRecDepth 100000 in
theorem check_d0 (tag id d0 d1 d2 mx e0 e1 e2 m : Int) (tx : ByteArray) (v : Int) (w : World) (hv : Ending.returned (.int .i64 1) = .returned (.int .i64 v))
    (hd : ∀ W : World, Calls Try.prog 109 #[.agg #[.int .i64 d0, .int .i64 d1, .int .i64 d2]] W fun e w' => e = .returned (.agg #[.int .i64 e0, .int .i64 e1, .int .i64 e2]) ∧ Below W.heap.size W w')
    (hm : ∀ W : World, Calls Try.prog 110 #[.int .i64 mx] W fun e w' => e = .returned (.int .i64 m) ∧ w' = W) (hx : (e0 == d0) = false) :
    Calls Try.prog 95 #[.agg (ics ⟨tag, id, d0, d1, d2, mx, tx⟩)] w fun e w' => e = .returned (.int .i64 v) ∧ Below w.heap.size w w' := by
  have CD := Lib.hid hd; clear hd
  have CM := Lib.hid hm; clear hm
  have HV := Lib.hid hv; clear hv
  unfold ics
  have HEQ := eq3
  go_enter Try.func95, Try.ntmps95
  go_wp2
  have hb0 : Below w.heap.size w (w.alloc (.cells (ics ⟨tag, id, d0, d1, d2, mx, tx⟩) 132)) := (Below.refl _ _).alloc (Nat.le_refl _) _
  have hr0 : RawAt 132 (w.alloc (.cells (ics ⟨tag, id, d0, d1, d2, mx, tx⟩) 132)) w.heap.size (ics ⟨tag, id, d0, d1, d2, mx, tx⟩) := heap_alloc_new w _
  change Code.wp _ _ _ _ (w.alloc (.cells (ics ⟨tag, id, d0, d1, d2, mx, tx⟩) 132))
  generalize (w.alloc (.cells (ics ⟨tag, id, d0, d1, d2, mx, tx⟩) 132)) = W1 at *
  generalize hbb : w.heap.size = b at hr0 ⊢
  have HBB := Lib.hid hbb; clear hbb
  have HR := Lib.hid hr0; clear hr0
  have MK := Lib.hid fun (W : World) (hW : Below W1.heap.size W1 W) => (by
      obtain ⟨x0, x1, x2, x3, x4, x5, x6⟩ := raw_ics (RawAt.below HR.out hW (RawAt.lt HR.out))
      exact ⟨x0, x1, x2, x3, x4, x5, x6, hW⟩ : W.cell? ⟨b, 0, none⟩ = some (.int .i64 tag) ∧ W.cell? ⟨b, 1, none⟩ = some (.int .i64 id) ∧ W.cell? ⟨b, 2, none⟩ = some (.int .i64 d0) ∧ W.cell? ⟨b, 3, none⟩ = some (.int .i64 d1) ∧ W.cell? ⟨b, 4, none⟩ = some (.int .i64 d2) ∧ W.cell? ⟨b, 5, none⟩ = some (.int .i64 mx) ∧ W.cell? ⟨b, 6, none⟩ = some (.string tx) ∧ Below W1.heap.size W1 W)
  have hW2 : Below W1.heap.size W1 W1.drew := (Below.refl _ _).drew
  go_wp2_with fail
  refine wp_region_noPanic ?_
  refine wp_region_held_drew (S := (fun W => W.cell? ⟨b, 0, none⟩ = some (.int .i64 tag) ∧ W.cell? ⟨b, 1, none⟩ = some (.int .i64 id) ∧ W.cell? ⟨b, 2, none⟩ = some (.int .i64 d0) ∧ W.cell? ⟨b, 3, none⟩ = some (.int .i64 d1) ∧ W.cell? ⟨b, 4, none⟩ = some (.int .i64 d2) ∧ W.cell? ⟨b, 5, none⟩ = some (.int .i64 mx) ∧ W.cell? ⟨b, 6, none⟩ = some (.string tx) ∧ Below W1.heap.size W1 W)) (by kernel_rfl) (MK.out _ hW2) (fun hHeld => ?_)
  refine wpAnyH_take (i := 0) (v := ?_) rfl (by kernel_rfl) (by kernel_rfl) (by kernel_rfl) (fun _ _ _ h => h) (Or.inl ⟨by rfl, ?_⟩) hHeld ?_
  rotate_left
  · intro w hSw
    (try dsimp only at hSw)
    go_simp
    try with_reducible rfl
  go_simp
  refine wpAnyH_take (i := 1) (v := ?_) rfl (by kernel_rfl) (by kernel_rfl) (by kernel_rfl) (fun _ _ _ h => h) (Or.inl ⟨by rfl, ?_⟩) hHeld ?_
  rotate_left
  · intro w hSw
    (try dsimp only at hSw)
    go_simp
    try with_reducible rfl
  go_simp
  refine wpAnyH_take (i := 3) (v := ?_) rfl (by kernel_rfl) (by kernel_rfl) (by kernel_rfl) (fun _ _ _ h => h) (Or.inl ⟨by rfl, ?_⟩) hHeld ?_
  rotate_left
  · intro w hSw
    (try dsimp only at hSw)
    go_simp
    try with_reducible rfl
  go_simp
  refine wpAnyH_take (i := 4) (v := ?_) rfl (by kernel_rfl) (by kernel_rfl) (by kernel_rfl) (fun _ _ _ h => h) (Or.inl ⟨by rfl, ?_⟩) hHeld ?_
  rotate_left
  · intro w hSw
    (try dsimp only at hSw)
    go_simp
    try with_reducible rfl
  go_simp
  refine wpAnyH_ready (rs := [2]) (by kernel_rfl) (by simp) ?_
  refine AllReadyH.cons rfl (fun K hK => ?_) ?_
  rotate_left
  · exact AllReadyH.nil
  go_simp
  go_wp2_with (go_at_call 109; ((with_reducible refine (CD.out _).mono ?_); rintro e w2 ⟨rfl, hb2⟩); have hW3 := hW2.trans (hb2.mono hW2.size))
  refine hK.out _ _ (MK.out _ hW3) (fun hHeld => ?_)
  clear hK K
  go_simp
  refine wpAnyH_take (i := 5) (v := ?_) rfl (by kernel_rfl) (by kernel_rfl) (by kernel_rfl) (fun _ _ _ h => h) (Or.inl ⟨by rfl, ?_⟩) hHeld ?_
  rotate_left
  · intro w hSw
    (try dsimp only at hSw)
    go_simp
    try with_reducible rfl
  go_simp
  refine wpAnyH_take (i := 6) (v := ?_) rfl (by kernel_rfl) (by kernel_rfl) (by kernel_rfl) (fun _ _ _ h => h) (Or.inl ⟨by rfl, ?_⟩) hHeld ?_
  rotate_left
  · intro w hSw
    (try dsimp only at hSw)
    go_simp
    try with_reducible rfl
  go_simp
  refine wpAnyH_take (i := 7) (v := undef) rfl (by kernel_rfl) (by kernel_rfl) (by kernel_rfl) (fun _ _ _ h => h) (Or.inr ⟨by rfl, rfl⟩) hHeld ?_
  go_simp
  refine wpAnyH_take (i := 8) (v := undef) rfl (by kernel_rfl) (by kernel_rfl) (by kernel_rfl) (fun _ _ _ h => h) (Or.inr ⟨by rfl, rfl⟩) hHeld ?_
  go_simp
  refine wpAnyH_take (i := 9) (v := undef) rfl (by kernel_rfl) (by kernel_rfl) (by kernel_rfl) (fun _ _ _ h => h) (Or.inr ⟨by rfl, rfl⟩) hHeld ?_
  go_simp
  refine wpAnyH_take (i := 10) (v := undef) rfl (by kernel_rfl) (by kernel_rfl) (by kernel_rfl) (fun _ _ _ h => h) (Or.inr ⟨by rfl, rfl⟩) hHeld ?_
  go_simp
  refine wpAnyH_take (i := 11) (v := undef) rfl (by kernel_rfl) (by kernel_rfl) (by kernel_rfl) (fun _ _ _ h => h) (Or.inr ⟨by rfl, rfl⟩) hHeld ?_
  go_simp
  refine wpAnyH_take (i := 12) (v := undef) rfl (by kernel_rfl) (by kernel_rfl) (by kernel_rfl) (fun _ _ _ h => h) (Or.inr ⟨by rfl, rfl⟩) hHeld ?_
  go_simp
  refine wpAnyH_take (i := 13) (v := ?_) rfl (by kernel_rfl) (by kernel_rfl) (by kernel_rfl) (fun _ _ _ h => h) (Or.inl ⟨by rfl, ?_⟩) hHeld ?_
  rotate_left
  · intro w hSw
    (try dsimp only at hSw)
    go_simp
    try with_reducible rfl
  go_simp
  refine wpAnyH_done (by kernel_rfl) ?_ _
  refine NoPanic.normal ?_
  go_wp2
  go_ret
  exact ⟨HV.out, by have := HBB.out; subst this; exact hb0.trans (hW3.mono hb0.size)⟩
set_option linter.unusedVariables false in
set_option maxHeartbeats 4000000 in
set_option maxRecDepth 100000 in
theorem check_d1 (tag id d0 d1 d2 mx e0 e1 e2 m : Int) (tx : ByteArray) (v : Int) (w : World) (hv : Ending.returned (.int .i64 1) = .returned (.int .i64 v))
    (hd : ∀ W : World, Calls Try.prog 109 #[.agg #[.int .i64 d0, .int .i64 d1, .int .i64 d2]] W fun e w' => e = .returned (.agg #[.int .i64 d0, .int .i64 e1, .int .i64 e2]) ∧ Below W.heap.size W w')
    (hm : ∀ W : World, Calls Try.prog 110 #[.int .i64 mx] W fun e w' => e = .returned (.int .i64 m) ∧ w' = W) (hx : (e1 == d1) = false) :
    Calls Try.prog 95 #[.agg (ics ⟨tag, id, d0, d1, d2, mx, tx⟩)] w fun e w' => e = .returned (.int .i64 v) ∧ Below w.heap.size w w' := by
  have CD := Lib.hid hd; clear hd
  have CM := Lib.hid hm; clear hm
  have HV := Lib.hid hv; clear hv
  unfold ics
  have HEQ := eq3
  go_enter Try.func95, Try.ntmps95
  go_wp2
  have hb0 : Below w.heap.size w (w.alloc (.cells (ics ⟨tag, id, d0, d1, d2, mx, tx⟩) 132)) := (Below.refl _ _).alloc (Nat.le_refl _) _
  have hr0 : RawAt 132 (w.alloc (.cells (ics ⟨tag, id, d0, d1, d2, mx, tx⟩) 132)) w.heap.size (ics ⟨tag, id, d0, d1, d2, mx, tx⟩) := heap_alloc_new w _
  change Code.wp _ _ _ _ (w.alloc (.cells (ics ⟨tag, id, d0, d1, d2, mx, tx⟩) 132))
  generalize (w.alloc (.cells (ics ⟨tag, id, d0, d1, d2, mx, tx⟩) 132)) = W1 at *
  generalize hbb : w.heap.size = b at hr0 ⊢
  have HBB := Lib.hid hbb; clear hbb
  have HR := Lib.hid hr0; clear hr0
  have MK := Lib.hid fun (W : World) (hW : Below W1.heap.size W1 W) => (by
      obtain ⟨x0, x1, x2, x3, x4, x5, x6⟩ := raw_ics (RawAt.below HR.out hW (RawAt.lt HR.out))
      exact ⟨x0, x1, x2, x3, x4, x5, x6, hW⟩ : W.cell? ⟨b, 0, none⟩ = some (.int .i64 tag) ∧ W.cell? ⟨b, 1, none⟩ = some (.int .i64 id) ∧ W.cell? ⟨b, 2, none⟩ = some (.int .i64 d0) ∧ W.cell? ⟨b, 3, none⟩ = some (.int .i64 d1) ∧ W.cell? ⟨b, 4, none⟩ = some (.int .i64 d2) ∧ W.cell? ⟨b, 5, none⟩ = some (.int .i64 mx) ∧ W.cell? ⟨b, 6, none⟩ = some (.string tx) ∧ Below W1.heap.size W1 W)
  have hW2 : Below W1.heap.size W1 W1.drew := (Below.refl _ _).drew
  go_wp2_with fail
  refine wp_region_noPanic ?_
  refine wp_region_held_drew (S := (fun W => W.cell? ⟨b, 0, none⟩ = some (.int .i64 tag) ∧ W.cell? ⟨b, 1, none⟩ = some (.int .i64 id) ∧ W.cell? ⟨b, 2, none⟩ = some (.int .i64 d0) ∧ W.cell? ⟨b, 3, none⟩ = some (.int .i64 d1) ∧ W.cell? ⟨b, 4, none⟩ = some (.int .i64 d2) ∧ W.cell? ⟨b, 5, none⟩ = some (.int .i64 mx) ∧ W.cell? ⟨b, 6, none⟩ = some (.string tx) ∧ Below W1.heap.size W1 W)) (by kernel_rfl) (MK.out _ hW2) (fun hHeld => ?_)
  refine wpAnyH_take (i := 0) (v := ?_) rfl (by kernel_rfl) (by kernel_rfl) (by kernel_rfl) (fun _ _ _ h => h) (Or.inl ⟨by rfl, ?_⟩) hHeld ?_
  rotate_left
  · intro w hSw
    (try dsimp only at hSw)
    go_simp
    try with_reducible rfl
  go_simp
  refine wpAnyH_take (i := 1) (v := ?_) rfl (by kernel_rfl) (by kernel_rfl) (by kernel_rfl) (fun _ _ _ h => h) (Or.inl ⟨by rfl, ?_⟩) hHeld ?_
  rotate_left
  · intro w hSw
    (try dsimp only at hSw)
    go_simp
    try with_reducible rfl
  go_simp
  refine wpAnyH_take (i := 3) (v := ?_) rfl (by kernel_rfl) (by kernel_rfl) (by kernel_rfl) (fun _ _ _ h => h) (Or.inl ⟨by rfl, ?_⟩) hHeld ?_
  rotate_left
  · intro w hSw
    (try dsimp only at hSw)
    go_simp
    try with_reducible rfl
  go_simp
  refine wpAnyH_take (i := 4) (v := ?_) rfl (by kernel_rfl) (by kernel_rfl) (by kernel_rfl) (fun _ _ _ h => h) (Or.inl ⟨by rfl, ?_⟩) hHeld ?_
  rotate_left
  · intro w hSw
    (try dsimp only at hSw)
    go_simp
    try with_reducible rfl
  go_simp
  refine wpAnyH_ready (rs := [2]) (by kernel_rfl) (by simp) ?_
  refine AllReadyH.cons rfl (fun K hK => ?_) ?_
  rotate_left
  · exact AllReadyH.nil
  go_simp
  go_wp2_with (go_at_call 109; ((with_reducible refine (CD.out _).mono ?_); rintro e w2 ⟨rfl, hb2⟩); have hW3 := hW2.trans (hb2.mono hW2.size))
  refine hK.out _ _ (MK.out _ hW3) (fun hHeld => ?_)
  clear hK K
  go_simp
  refine wpAnyH_take (i := 5) (v := ?_) rfl (by kernel_rfl) (by kernel_rfl) (by kernel_rfl) (fun _ _ _ h => h) (Or.inl ⟨by rfl, ?_⟩) hHeld ?_
  rotate_left
  · intro w hSw
    (try dsimp only at hSw)
    go_simp
    try with_reducible rfl
  go_simp
  refine wpAnyH_take (i := 6) (v := ?_) rfl (by kernel_rfl) (by kernel_rfl) (by kernel_rfl) (fun _ _ _ h => h) (Or.inl ⟨by rfl, ?_⟩) hHeld ?_
  rotate_left
  · intro w hSw
    (try dsimp only at hSw)
    go_simp
    try with_reducible rfl
  go_simp
  refine wpAnyH_take (i := 7) (v := undef) rfl (by kernel_rfl) (by kernel_rfl) (by kernel_rfl) (fun _ _ _ h => h) (Or.inr ⟨by rfl, rfl⟩) hHeld ?_
  go_simp
  refine wpAnyH_take (i := 8) (v := undef) rfl (by kernel_rfl) (by kernel_rfl) (by kernel_rfl) (fun _ _ _ h => h) (Or.inr ⟨by rfl, rfl⟩) hHeld ?_
  go_simp
  refine wpAnyH_take (i := 9) (v := undef) rfl (by kernel_rfl) (by kernel_rfl) (by kernel_rfl) (fun _ _ _ h => h) (Or.inr ⟨by rfl, rfl⟩) hHeld ?_
  go_simp
  refine wpAnyH_take (i := 10) (v := undef) rfl (by kernel_rfl) (by kernel_rfl) (by kernel_rfl) (fun _ _ _ h => h) (Or.inr ⟨by rfl, rfl⟩) hHeld ?_
  go_simp
  refine wpAnyH_take (i := 11) (v := undef) rfl (by kernel_rfl) (by kernel_rfl) (by kernel_rfl) (fun _ _ _ h => h) (Or.inr ⟨by rfl, rfl⟩) hHeld ?_
  go_simp
  refine wpAnyH_take (i := 12) (v := undef) rfl (by kernel_rfl) (by kernel_rfl) (by kernel_rfl) (fun _ _ _ h => h) (Or.inr ⟨by rfl, rfl⟩) hHeld ?_
  go_simp
  refine wpAnyH_take (i := 13) (v := ?_) rfl (by kernel_rfl) (by kernel_rfl) (by kernel_rfl) (fun _ _ _ h => h) (Or.inl ⟨by rfl, ?_⟩) hHeld ?_
  rotate_left
  · intro w hSw
    (try dsimp only at hSw)
    go_simp
    try with_reducible rfl
  go_simp
  refine wpAnyH_done (by kernel_rfl) ?_ _
  refine NoPanic.normal ?_
  go_wp2
  go_ret
  exact ⟨HV.out, by have := HBB.out; subst this; exact hb0.trans (hW3.mono hb0.size)⟩
set_option linter.unusedVariables false in
set_option maxHeartbeats 4000000 in
set_option maxRecDepth 100000 in
theorem check_d2 (tag id d0 d1 d2 mx e0 e1 e2 m : Int) (tx : ByteArray) (v : Int) (w : World) (hv : Ending.returned (.int .i64 1) = .returned (.int .i64 v))
    (hd : ∀ W : World, Calls Try.prog 109 #[.agg #[.int .i64 d0, .int .i64 d1, .int .i64 d2]] W fun e w' => e = .returned (.agg #[.int .i64 d0, .int .i64 d1, .int .i64 e2]) ∧ Below W.heap.size W w')
    (hm : ∀ W : World, Calls Try.prog 110 #[.int .i64 mx] W fun e w' => e = .returned (.int .i64 m) ∧ w' = W) (hx : (e2 == d2) = false) :
    Calls Try.prog 95 #[.agg (ics ⟨tag, id, d0, d1, d2, mx, tx⟩)] w fun e w' => e = .returned (.int .i64 v) ∧ Below w.heap.size w w' := by
  have CD := Lib.hid hd; clear hd
  have CM := Lib.hid hm; clear hm
  have HV := Lib.hid hv; clear hv
  unfold ics
  have HEQ := eq3
  go_enter Try.func95, Try.ntmps95
  go_wp2
  have hb0 : Below w.heap.size w (w.alloc (.cells (ics ⟨tag, id, d0, d1, d2, mx, tx⟩) 132)) := (Below.refl _ _).alloc (Nat.le_refl _) _
  have hr0 : RawAt 132 (w.alloc (.cells (ics ⟨tag, id, d0, d1, d2, mx, tx⟩) 132)) w.heap.size (ics ⟨tag, id, d0, d1, d2, mx, tx⟩) := heap_alloc_new w _
  change Code.wp _ _ _ _ (w.alloc (.cells (ics ⟨tag, id, d0, d1, d2, mx, tx⟩) 132))
  generalize (w.alloc (.cells (ics ⟨tag, id, d0, d1, d2, mx, tx⟩) 132)) = W1 at *
  generalize hbb : w.heap.size = b at hr0 ⊢
  have HBB := Lib.hid hbb; clear hbb
  have HR := Lib.hid hr0; clear hr0
  have MK := Lib.hid fun (W : World) (hW : Below W1.heap.size W1 W) => (by
      obtain ⟨x0, x1, x2, x3, x4, x5, x6⟩ := raw_ics (RawAt.below HR.out hW (RawAt.lt HR.out))
      exact ⟨x0, x1, x2, x3, x4, x5, x6, hW⟩ : W.cell? ⟨b, 0, none⟩ = some (.int .i64 tag) ∧ W.cell? ⟨b, 1, none⟩ = some (.int .i64 id) ∧ W.cell? ⟨b, 2, none⟩ = some (.int .i64 d0) ∧ W.cell? ⟨b, 3, none⟩ = some (.int .i64 d1) ∧ W.cell? ⟨b, 4, none⟩ = some (.int .i64 d2) ∧ W.cell? ⟨b, 5, none⟩ = some (.int .i64 mx) ∧ W.cell? ⟨b, 6, none⟩ = some (.string tx) ∧ Below W1.heap.size W1 W)
  have hW2 : Below W1.heap.size W1 W1.drew := (Below.refl _ _).drew
  go_wp2_with fail
  refine wp_region_noPanic ?_
  refine wp_region_held_drew (S := (fun W => W.cell? ⟨b, 0, none⟩ = some (.int .i64 tag) ∧ W.cell? ⟨b, 1, none⟩ = some (.int .i64 id) ∧ W.cell? ⟨b, 2, none⟩ = some (.int .i64 d0) ∧ W.cell? ⟨b, 3, none⟩ = some (.int .i64 d1) ∧ W.cell? ⟨b, 4, none⟩ = some (.int .i64 d2) ∧ W.cell? ⟨b, 5, none⟩ = some (.int .i64 mx) ∧ W.cell? ⟨b, 6, none⟩ = some (.string tx) ∧ Below W1.heap.size W1 W)) (by kernel_rfl) (MK.out _ hW2) (fun hHeld => ?_)
  refine wpAnyH_take (i := 0) (v := ?_) rfl (by kernel_rfl) (by kernel_rfl) (by kernel_rfl) (fun _ _ _ h => h) (Or.inl ⟨by rfl, ?_⟩) hHeld ?_
  rotate_left
  · intro w hSw
    (try dsimp only at hSw)
    go_simp
    try with_reducible rfl
  go_simp
  refine wpAnyH_take (i := 1) (v := ?_) rfl (by kernel_rfl) (by kernel_rfl) (by kernel_rfl) (fun _ _ _ h => h) (Or.inl ⟨by rfl, ?_⟩) hHeld ?_
  rotate_left
  · intro w hSw
    (try dsimp only at hSw)
    go_simp
    try with_reducible rfl
  go_simp
  refine wpAnyH_take (i := 3) (v := ?_) rfl (by kernel_rfl) (by kernel_rfl) (by kernel_rfl) (fun _ _ _ h => h) (Or.inl ⟨by rfl, ?_⟩) hHeld ?_
  rotate_left
  · intro w hSw
    (try dsimp only at hSw)
    go_simp
    try with_reducible rfl
  go_simp
  refine wpAnyH_take (i := 4) (v := ?_) rfl (by kernel_rfl) (by kernel_rfl) (by kernel_rfl) (fun _ _ _ h => h) (Or.inl ⟨by rfl, ?_⟩) hHeld ?_
  rotate_left
  · intro w hSw
    (try dsimp only at hSw)
    go_simp
    try with_reducible rfl
  go_simp
  refine wpAnyH_ready (rs := [2]) (by kernel_rfl) (by simp) ?_
  refine AllReadyH.cons rfl (fun K hK => ?_) ?_
  rotate_left
  · exact AllReadyH.nil
  go_simp
  go_wp2_with (go_at_call 109; ((with_reducible refine (CD.out _).mono ?_); rintro e w2 ⟨rfl, hb2⟩); have hW3 := hW2.trans (hb2.mono hW2.size))
  refine hK.out _ _ (MK.out _ hW3) (fun hHeld => ?_)
  clear hK K
  go_simp
  refine wpAnyH_take (i := 5) (v := ?_) rfl (by kernel_rfl) (by kernel_rfl) (by kernel_rfl) (fun _ _ _ h => h) (Or.inl ⟨by rfl, ?_⟩) hHeld ?_
  rotate_left
  · intro w hSw
    (try dsimp only at hSw)
    go_simp
    try with_reducible rfl
  go_simp
  refine wpAnyH_take (i := 6) (v := ?_) rfl (by kernel_rfl) (by kernel_rfl) (by kernel_rfl) (fun _ _ _ h => h) (Or.inl ⟨by rfl, ?_⟩) hHeld ?_
  rotate_left
  · intro w hSw
    (try dsimp only at hSw)
    go_simp
    try with_reducible rfl
  go_simp
  refine wpAnyH_take (i := 7) (v := undef) rfl (by kernel_rfl) (by kernel_rfl) (by kernel_rfl) (fun _ _ _ h => h) (Or.inr ⟨by rfl, rfl⟩) hHeld ?_
  go_simp
  refine wpAnyH_take (i := 8) (v := undef) rfl (by kernel_rfl) (by kernel_rfl) (by kernel_rfl) (fun _ _ _ h => h) (Or.inr ⟨by rfl, rfl⟩) hHeld ?_
  go_simp
  refine wpAnyH_take (i := 9) (v := undef) rfl (by kernel_rfl) (by kernel_rfl) (by kernel_rfl) (fun _ _ _ h => h) (Or.inr ⟨by rfl, rfl⟩) hHeld ?_
  go_simp
  refine wpAnyH_take (i := 10) (v := undef) rfl (by kernel_rfl) (by kernel_rfl) (by kernel_rfl) (fun _ _ _ h => h) (Or.inr ⟨by rfl, rfl⟩) hHeld ?_
  go_simp
  refine wpAnyH_take (i := 11) (v := undef) rfl (by kernel_rfl) (by kernel_rfl) (by kernel_rfl) (fun _ _ _ h => h) (Or.inr ⟨by rfl, rfl⟩) hHeld ?_
  go_simp
  refine wpAnyH_take (i := 12) (v := undef) rfl (by kernel_rfl) (by kernel_rfl) (by kernel_rfl) (fun _ _ _ h => h) (Or.inr ⟨by rfl, rfl⟩) hHeld ?_
  go_simp
  refine wpAnyH_take (i := 13) (v := ?_) rfl (by kernel_rfl) (by kernel_rfl) (by kernel_rfl) (fun _ _ _ h => h) (Or.inl ⟨by rfl, ?_⟩) hHeld ?_
  rotate_left
  · intro w hSw
    (try dsimp only at hSw)
    go_simp
    try with_reducible rfl
  go_simp
  refine wpAnyH_done (by kernel_rfl) ?_ _
  refine NoPanic.normal ?_
  go_wp2
  go_ret
  exact ⟨HV.out, by have := HBB.out; subst this; exact hb0.trans (hW3.mono hb0.size)⟩
theorem check_any (i : I7) (v : Int) (hv : (Oki i → v = 0) ∧ (¬ Oki i → v = 1)) (w : World) : Calls Try.prog 95 #[.agg (ics i)] w fun e w' => e = .returned (.int .i64 v) ∧ Below w.heap.size w w' := by
  obtain ⟨tag, id, d0, d1, d2, mx, tx⟩ := i
  have hd := fun W => bounded_any d0 d1 d2 W
  have hm := fun W => bound_any mx W
  unfold dcs at hd
  by_cases k0 : Okn d0
  · rw [clamp_ok k0] at hd
    by_cases k1 : Okn d1
    · rw [clamp_ok k1] at hd
      by_cases k2 : Okn d2
      · rw [clamp_ok k2] at hd
        by_cases k3 : Okn mx
        · rw [clamp_ok k3] at hm
          exact check_ok tag id d0 d1 d2 mx 0 0 0 0 tx v w (rv_yes hv ⟨⟨k0, k1, k2⟩, k3⟩) hd hm
        · exact check_mx tag id d0 d1 d2 mx 0 0 0 _ tx v w (rv_no hv (fun h => k3 h.2)) hd hm (by simpa using clamp_no k3)
      · exact check_d2 tag id d0 d1 d2 mx 0 0 _ _ tx v w (rv_no hv (fun h => k2 h.1.2.2)) hd hm (by simpa using clamp_no k2)
    · exact check_d1 tag id d0 d1 d2 mx 0 _ _ _ tx v w (rv_no hv (fun h => k1 h.1.2.1)) hd hm (by simpa using clamp_no k1)
  · exact check_d0 tag id d0 d1 d2 mx _ _ _ _ tx v w (rv_no hv (fun h => k0 h.1.1)) hd hm (by simpa using clamp_no k0)
end Go.Proofs.Ytnfjleobcfhpnaa
