/- The contracts of item.bound and item.bounded. Three sizes held against three others. The contract of item.Check. A sum's size, and whether it is so far: the contracts of tree.size and of the closure in Find. A place in a tree: plain facts, for tree.find. A place in a tree: the contract of tree.find. -/
import Derived.Test.YtpnjokhhbjpciaaGreatDoorItBase
import Derived.Deep.RegionHeld3
import Derived.Deep.RegionWith
import Derived.Test.YtpnjokhhbjpciaaGreatDoorTreeQ
import Derived.Test.YtpnjokhhbjpciaaGreatDoorTop
import Derived.Test.YtpnjokhhbjpciaaGreatDoorItAdd
import Derived.Test.YtpnjokhhbjpciaaGreatDoorCutP
import Derived.WalkMore
namespace Go.Proofs.YtpnjokhhbjpciaaGreatDoor
open Go.RowKit
/-- The number that may be and is nearest. -/
def clamp (v : Int) : Int := if v < 0 then 0 else if 1099511627776 < v then 1099511627776 else v
theorem clamp_ok {v : Int} (h : Okn v) : clamp v = v := by
  obtain ⟨h1, h2⟩ := h
  unfold clamp
  rw [if_neg (by omega), if_neg (by omega)]
theorem clamp_no {v : Int} (h : ¬ Okn v) : clamp v ≠ v := by
  unfold clamp Okn at *
  repeat' split
  all_goals omega
theorem bound_any (v : Int) (w : World) : Calls Tryz.prog 162 #[.int .i64 v] w fun e w' => e = .returned (.int .i64 (clamp v)) ∧ w' = w := by
  by_cases h1 : v < 0
  · have HC := Lib.hid (show clamp v = 0 from if_pos h1)
    go_enter Tryz.func162, Tryz.ntmps162
    go_wp2
    go_ret
    exact ⟨ret_int (by rw [HC.out]), rfl⟩
  · by_cases h2 : 1099511627776 < v
    · have HC := Lib.hid (show clamp v = 1099511627776 by unfold clamp; rw [if_neg h1, if_pos h2])
      go_enter Tryz.func162, Tryz.ntmps162
      go_wp2
      go_ret
      exact ⟨ret_int (by rw [HC.out]), rfl⟩
    · have HC := Lib.hid (show clamp v = v by unfold clamp; rw [if_neg h1, if_neg h2])
      go_enter Tryz.func162, Tryz.ntmps162
      go_wp2
      go_ret
      exact ⟨ret_int (by rw [HC.out]), rfl⟩
/-- The cells of three sizes. -/
def dcs (a b c : Int) : Array Value := #[.int .i64 a, .int .i64 b, .int .i64 c]
set_option maxHeartbeats 2000000 in
theorem bounded_any (a b c : Int) (w : World) : Calls Tryz.prog 161 #[.agg (dcs a b c)] w fun e w' => e = .returned (.agg (dcs (clamp a) (clamp b) (clamp c))) ∧ Below w.heap.size w w' := by
  unfold dcs
  have CA := Lib.hid fun W => bound_any a W
  have CB := Lib.hid fun W => bound_any b W
  have CC := Lib.hid fun W => bound_any c W
  generalize clamp a = a' at *
  generalize clamp b = b' at *
  generalize clamp c = c' at *
  go_enter Tryz.func161, Tryz.ntmps161
  go_wp2
  obtain ⟨hr0, hz0, hb0, hs0⟩ := new2 w 127 127 (dcs a b c) (dcs 0 0 0)
  change Code.wp _ _ _ _ ((w.alloc (.cells (dcs a b c) 127)).alloc (.cells (dcs 0 0 0) 127))
  generalize ((w.alloc (.cells (dcs a b c) 127)).alloc (.cells (dcs 0 0 0) 127)) = W1 at *
  have HZ := Lib.hid hz0; clear hz0
  have HR := Lib.hid hr0; clear hr0 hs0
  go_loopg [6] 3 (fun k v wr => ∃ j : Nat, v = .int .i64 j ∧ j ≤ 3 ∧ 3 - j ≤ k ∧ Below w.heap.size w wr ∧ Hid (RawAt 127 wr w.heap.size (dcs (if 1 ≤ j then a' else a) (if 2 ≤ j then b' else b) (if 3 ≤ j then c' else c))) ∧ Hid (RawAt 127 wr (w.heap.size + 1) (dcs 0 0 0)))
  case atStart => exact ⟨0, rfl, by omega, by omega, hb0, HR, HZ⟩
  case round =>
    obtain ⟨j, rfl, h1, h2, hb, hr, hz⟩ := hrel
    obtain rfl | rfl | rfl | rfl : j = 0 ∨ j = 1 ∨ j = 2 ∨ j = 3 := by omega
    · have hx := fun W => idx3_0 a b c W
      have c0 := RawAt.cell hr.out 0
      have f0 := RawAt.free hr.out 0
      simp only [dcs, Nat.reduceLeDiff, ↓reduceIte, List.getElem?_toArray, List.getElem?_cons_zero] at c0
      go_wp2_with fail
      refine (CA.out _).mono ?_
      rintro e w1 ⟨rfl, rfl⟩
      go_wp2
      go_roundg (gk - 1)
      case measure => omega
      case rel => exact ⟨1, rfl, by omega, by omega, hb.setCell (p := ⟨w.heap.size, _, none⟩) (Nat.le_refl _) _, (RawAt.set_ hr.out _ _).of_eq (by simp [dcs]), RawAt.set_other hz.out (by omega) _ _⟩
    · have hx := fun W => idx3_1 a b c W
      have c1 := RawAt.cell hr.out 1
      have f1 := RawAt.free hr.out 1
      simp only [dcs, Nat.reduceLeDiff, ↓reduceIte, List.getElem?_toArray, List.getElem?_cons_succ, List.getElem?_cons_zero] at c1
      go_wp2_with fail
      refine (CB.out _).mono ?_
      rintro e w1 ⟨rfl, rfl⟩
      go_wp2
      go_roundg (gk - 1)
      case measure => omega
      case rel => exact ⟨2, rfl, by omega, by omega, hb.setCell (p := ⟨w.heap.size, _, none⟩) (Nat.le_refl _) _, (RawAt.set_ hr.out _ _).of_eq (by simp [dcs]), RawAt.set_other hz.out (by omega) _ _⟩
    · have hx := fun W => idx3_2 a b c W
      have c2 := RawAt.cell hr.out 2
      have f2 := RawAt.free hr.out 2
      simp only [dcs, Nat.reduceLeDiff, ↓reduceIte, List.getElem?_toArray, List.getElem?_cons_succ, List.getElem?_cons_zero] at c2
      go_wp2_with fail
      refine (CC.out _).mono ?_
      rintro e w1 ⟨rfl, rfl⟩
      go_wp2
      go_roundg (gk - 1)
      case measure => omega
      case rel => exact ⟨3, rfl, by omega, by omega, hb.setCell (p := ⟨w.heap.size, _, none⟩) (Nat.le_refl _) _, (RawAt.set_ hr.out _ _).of_eq (by simp [dcs]), RawAt.set_other hz.out (by omega) _ _⟩
    · have hr' : RawAt 127 wr w.heap.size (dcs a' b' c') := hr.out
      have c0 : wr.cell? ⟨w.heap.size, 0, none⟩ = some (.int .i64 a') := RawAt.cell hr' 0
      have c1 : wr.cell? ⟨w.heap.size, 1, none⟩ = some (.int .i64 b') := RawAt.cell hr' 1
      have c2 : wr.cell? ⟨w.heap.size, 2, none⟩ = some (.int .i64 c') := RawAt.cell hr' 2
      have z0 : wr.cell? ⟨w.heap.size + 1, 0, none⟩ = some (.int .i64 0) := RawAt.cell hz.out 0
      have z1 : wr.cell? ⟨w.heap.size + 1, 1, none⟩ = some (.int .i64 0) := RawAt.cell hz.out 1
      have z2 : wr.cell? ⟨w.heap.size + 1, 2, none⟩ = some (.int .i64 0) := RawAt.cell hz.out 2
      have y0 := RawAt.free hz.out 0
      have y1 := RawAt.free hz.out 1
      have y2 := RawAt.free hz.out 2
      clear hr'
      go_wp2
      refine bodyPost_ret (v := .agg #[.int .i64 a', .int .i64 b', .int .i64 c']) (by simp [results, Tryz.results161, go_sem, z0, z1, z2]) rfl ⟨rfl, ?_⟩
      exact ((hb.setCell (p := ⟨w.heap.size + 1, _, none⟩) (Nat.le_succ _) _).setCell (p := ⟨w.heap.size + 1, _, none⟩) (Nat.le_succ _) _).setCell (p := ⟨w.heap.size + 1, _, none⟩) (Nat.le_succ _) _
theorem part_int (cs : Array Value) (k : Nat) (v : Value) (h : cs[k]? = some v) (w : World) : (part 3 cs k).run Tryz.prog w = .ok v w := by
  simp [part, isAgg, run_underlying Tryz.underlying3, h, go_sem]
theorem eq3 (d : Nat) (a0 a1 a2 b0 b1 b2 : Int) (w : World) : (Op.equalIn (d + 2) 127 (.agg #[.int .i64 a0, .int .i64 a1, .int .i64 a2]) (.agg #[.int .i64 b0, .int .i64 b1, .int .i64 b2])).run Tryz.prog w = .ok (a0 == b0 && (a1 == b1 && a2 == b2)) w := by
  rw [Op.equalIn]
  simp only [Sem.run_bind, run_underlying Tryz.underlying127, Result.andThen_ok]
  have hs : (sizeOf 3).run Tryz.prog w = .ok 1 w := by simp [go_sem]
  rw [hs]
  simp only [Result.andThen_ok]
  have h0 : ∀ x y z : Int, (part 3 #[.int .i64 x, .int .i64 y, .int .i64 z] 0).run Tryz.prog w = .ok (.int .i64 x) w := fun x y z => part_int _ _ _ rfl w
  have h1 : ∀ x y z : Int, (part 3 #[.int .i64 x, .int .i64 y, .int .i64 z] 1).run Tryz.prog w = .ok (.int .i64 y) w := fun x y z => part_int _ _ _ rfl w
  have h2 : ∀ x y z : Int, (part 3 #[.int .i64 x, .int .i64 y, .int .i64 z] 2).run Tryz.prog w = .ok (.int .i64 z) w := fun x y z => part_int _ _ _ rfl w
  have he : ∀ x y : Int, (Op.equalIn (d + 1) 3 (.int .i64 x) (.int .i64 y)).run Tryz.prog w = .ok (x == y) w := fun x y => run_equalIn_int w d _ _ _ _ _ Tryz.underlying3
  rw [Std.Legacy.Range.forIn_eq_forIn_range']
  by_cases e0 : a0 = b0 <;> by_cases e1 : a1 = b1 <;> by_cases e2 : a2 = b2 <;> simp [List.range', h0, h1, h2, he, Std.Legacy.Range.size, Result.andThen, e0, e1, e2]
theorem rv_no {i : I7} {v : Int} (h : (Oki i → v = 0) ∧ (¬ Oki i → v = 1)) (hn : ¬ Oki i) : Ending.returned (.int .i64 1) = .returned (.int .i64 v) := by rw [h.2 hn]
theorem rv_yes {i : I7} {v : Int} (h : (Oki i → v = 0) ∧ (¬ Oki i → v = 1)) (hn : Oki i) : Ending.returned (.int .i64 0) = .returned (.int .i64 v) := by rw [h.1 hn]
set_option linter.unusedVariables false in
set_option maxHeartbeats 4000000 in
set_option maxRecDepth 100000 in
theorem check_ok (tag id d0 d1 d2 mx e0 e1 e2 m : Int) (tx : ByteArray) (v : Int) (w : World) (hv : Ending.returned (.int .i64 0) = .returned (.int .i64 v))
    (hd : ∀ W : World, Calls Tryz.prog 161 #[.agg #[.int .i64 d0, .int .i64 d1, .int .i64 d2]] W fun e w' => e = .returned (.agg #[.int .i64 d0, .int .i64 d1, .int .i64 d2]) ∧ Below W.heap.size W w')
    (hm : ∀ W : World, Calls Tryz.prog 162 #[.int .i64 mx] W fun e w' => e = .returned (.int .i64 mx) ∧ w' = W) :
    Calls Tryz.prog 135 #[.agg (ics ⟨tag, id, d0, d1, d2, mx, tx⟩)] w fun e w' => e = .returned (.int .i64 v) ∧ Below w.heap.size w w' := by
  have CD := Lib.hid hd; clear hd
  have CM := Lib.hid hm; clear hm
  have HV := Lib.hid hv; clear hv
  unfold ics
  have HEQ := eq3
  go_enter Tryz.func135, Tryz.ntmps135
  go_wp2
  have hb0 : Below w.heap.size w (w.alloc (.cells (ics ⟨tag, id, d0, d1, d2, mx, tx⟩) 162)) := (Below.refl _ _).alloc (Nat.le_refl _) _
  have hr0 : RawAt 162 (w.alloc (.cells (ics ⟨tag, id, d0, d1, d2, mx, tx⟩) 162)) w.heap.size (ics ⟨tag, id, d0, d1, d2, mx, tx⟩) := heap_alloc_new w _
  change Code.wp _ _ _ _ (w.alloc (.cells (ics ⟨tag, id, d0, d1, d2, mx, tx⟩) 162))
  generalize (w.alloc (.cells (ics ⟨tag, id, d0, d1, d2, mx, tx⟩) 162)) = W1 at *
  generalize hbb : w.heap.size = b at hr0 ⊢
  have HBB := Lib.hid hbb; clear hbb
  have HR := Lib.hid hr0; clear hr0
  have MK := Lib.hid fun (W : World) (hW : Below W1.heap.size W1 W) => (by
      obtain ⟨x0, x1, x2, x3, x4, x5, x6⟩ := raw_ics (RawAt.below HR.out hW (RawAt.lt HR.out))
      exact ⟨x0, x1, x2, x3, x4, x5, x6, hW⟩ : W.cell? ⟨b, 0, none⟩ = some (.int .i64 tag) ∧ W.cell? ⟨b, 1, none⟩ = some (.int .i64 id) ∧ W.cell? ⟨b, 2, none⟩ = some (.int .i64 d0) ∧ W.cell? ⟨b, 3, none⟩ = some (.int .i64 d1) ∧ W.cell? ⟨b, 4, none⟩ = some (.int .i64 d2) ∧ W.cell? ⟨b, 5, none⟩ = some (.int .i64 mx) ∧ W.cell? ⟨b, 6, none⟩ = some (.string tx) ∧ Below W1.heap.size W1 W)
  have hW2 : Below W1.heap.size W1 W1.drew := (Below.refl _ _).drew
  go_wp2_with fail
  go_region_held3 (fun W => W.cell? ⟨b, 0, none⟩ = some (.int .i64 tag) ∧ W.cell? ⟨b, 1, none⟩ = some (.int .i64 id) ∧ W.cell? ⟨b, 2, none⟩ = some (.int .i64 d0) ∧ W.cell? ⟨b, 3, none⟩ = some (.int .i64 d1) ∧ W.cell? ⟨b, 4, none⟩ = some (.int .i64 d2) ∧ W.cell? ⟨b, 5, none⟩ = some (.int .i64 mx) ∧ W.cell? ⟨b, 6, none⟩ = some (.string tx) ∧ Below W1.heap.size W1 W) (first | (with_reducible exact MK.out _ hW2) | (with_reducible exact MK.out _ (Below.refl _ _)) | go_keep)
    (first
      | (go_at_call 161; ((with_reducible refine (CD.out _).mono ?_); rintro e w2 ⟨rfl, hb2⟩); have hW2 := hW2.trans (hb2.mono hW2.size))
      | (go_at_call 162; ((with_reducible refine (CM.out _).mono ?_); rintro e w2 ⟨rfl, rfl⟩)))
  go_wp2
  go_ret
  exact ⟨HV.out, by have := HBB.out; subst this; exact hb0.trans (hW2.mono hb0.size)⟩
set_option linter.unusedVariables false in
set_option maxHeartbeats 4000000 in
set_option maxRecDepth 100000 in
theorem check_mx (tag id d0 d1 d2 mx e0 e1 e2 m : Int) (tx : ByteArray) (v : Int) (w : World) (hv : Ending.returned (.int .i64 1) = .returned (.int .i64 v))
    (hd : ∀ W : World, Calls Tryz.prog 161 #[.agg #[.int .i64 d0, .int .i64 d1, .int .i64 d2]] W fun e w' => e = .returned (.agg #[.int .i64 d0, .int .i64 d1, .int .i64 d2]) ∧ Below W.heap.size W w')
    (hm : ∀ W : World, Calls Tryz.prog 162 #[.int .i64 mx] W fun e w' => e = .returned (.int .i64 m) ∧ w' = W) (hx : (m == mx) = false) :
    Calls Tryz.prog 135 #[.agg (ics ⟨tag, id, d0, d1, d2, mx, tx⟩)] w fun e w' => e = .returned (.int .i64 v) ∧ Below w.heap.size w w' := by
  have CD := Lib.hid hd; clear hd
  have CM := Lib.hid hm; clear hm
  have HV := Lib.hid hv; clear hv
  unfold ics
  have HEQ := eq3
  go_enter Tryz.func135, Tryz.ntmps135
  go_wp2
  have hb0 : Below w.heap.size w (w.alloc (.cells (ics ⟨tag, id, d0, d1, d2, mx, tx⟩) 162)) := (Below.refl _ _).alloc (Nat.le_refl _) _
  have hr0 : RawAt 162 (w.alloc (.cells (ics ⟨tag, id, d0, d1, d2, mx, tx⟩) 162)) w.heap.size (ics ⟨tag, id, d0, d1, d2, mx, tx⟩) := heap_alloc_new w _
  change Code.wp _ _ _ _ (w.alloc (.cells (ics ⟨tag, id, d0, d1, d2, mx, tx⟩) 162))
  generalize (w.alloc (.cells (ics ⟨tag, id, d0, d1, d2, mx, tx⟩) 162)) = W1 at *
  generalize hbb : w.heap.size = b at hr0 ⊢
  have HBB := Lib.hid hbb; clear hbb
  have HR := Lib.hid hr0; clear hr0
  have MK := Lib.hid fun (W : World) (hW : Below W1.heap.size W1 W) => (by
      obtain ⟨x0, x1, x2, x3, x4, x5, x6⟩ := raw_ics (RawAt.below HR.out hW (RawAt.lt HR.out))
      exact ⟨x0, x1, x2, x3, x4, x5, x6, hW⟩ : W.cell? ⟨b, 0, none⟩ = some (.int .i64 tag) ∧ W.cell? ⟨b, 1, none⟩ = some (.int .i64 id) ∧ W.cell? ⟨b, 2, none⟩ = some (.int .i64 d0) ∧ W.cell? ⟨b, 3, none⟩ = some (.int .i64 d1) ∧ W.cell? ⟨b, 4, none⟩ = some (.int .i64 d2) ∧ W.cell? ⟨b, 5, none⟩ = some (.int .i64 mx) ∧ W.cell? ⟨b, 6, none⟩ = some (.string tx) ∧ Below W1.heap.size W1 W)
  have hW2 : Below W1.heap.size W1 W1.drew := (Below.refl _ _).drew
  go_wp2_with fail
  go_region_held3 (fun W => W.cell? ⟨b, 0, none⟩ = some (.int .i64 tag) ∧ W.cell? ⟨b, 1, none⟩ = some (.int .i64 id) ∧ W.cell? ⟨b, 2, none⟩ = some (.int .i64 d0) ∧ W.cell? ⟨b, 3, none⟩ = some (.int .i64 d1) ∧ W.cell? ⟨b, 4, none⟩ = some (.int .i64 d2) ∧ W.cell? ⟨b, 5, none⟩ = some (.int .i64 mx) ∧ W.cell? ⟨b, 6, none⟩ = some (.string tx) ∧ Below W1.heap.size W1 W) (first | (with_reducible exact MK.out _ hW2) | (with_reducible exact MK.out _ (Below.refl _ _)) | go_keep)
    (first
      | (go_at_call 161; ((with_reducible refine (CD.out _).mono ?_); rintro e w2 ⟨rfl, hb2⟩); have hW2 := hW2.trans (hb2.mono hW2.size))
      | (go_at_call 162; ((with_reducible refine (CM.out _).mono ?_); rintro e w2 ⟨rfl, rfl⟩)))
  go_wp2
  go_ret
  exact ⟨HV.out, by have := HBB.out; subst this; exact hb0.trans (hW2.mono hb0.size)⟩
set_option linter.unusedVariables false in
set_option maxHeartbeats 4000000 in
set_option maxRecDepth 100000 in
theorem check_d0 (tag id d0 d1 d2 mx e0 e1 e2 m : Int) (tx : ByteArray) (v : Int) (w : World) (hv : Ending.returned (.int .i64 1) = .returned (.int .i64 v))
    (hd : ∀ W : World, Calls Tryz.prog 161 #[.agg #[.int .i64 d0, .int .i64 d1, .int .i64 d2]] W fun e w' => e = .returned (.agg #[.int .i64 e0, .int .i64 e1, .int .i64 e2]) ∧ Below W.heap.size W w')
    (hm : ∀ W : World, Calls Tryz.prog 162 #[.int .i64 mx] W fun e w' => e = .returned (.int .i64 m) ∧ w' = W) (hx : (e0 == d0) = false) :
    Calls Tryz.prog 135 #[.agg (ics ⟨tag, id, d0, d1, d2, mx, tx⟩)] w fun e w' => e = .returned (.int .i64 v) ∧ Below w.heap.size w w' := by
  have CD := Lib.hid hd; clear hd
  have CM := Lib.hid hm; clear hm
  have HV := Lib.hid hv; clear hv
  unfold ics
  have HEQ := eq3
  go_enter Tryz.func135, Tryz.ntmps135
  go_wp2
  have hb0 : Below w.heap.size w (w.alloc (.cells (ics ⟨tag, id, d0, d1, d2, mx, tx⟩) 162)) := (Below.refl _ _).alloc (Nat.le_refl _) _
  have hr0 : RawAt 162 (w.alloc (.cells (ics ⟨tag, id, d0, d1, d2, mx, tx⟩) 162)) w.heap.size (ics ⟨tag, id, d0, d1, d2, mx, tx⟩) := heap_alloc_new w _
  change Code.wp _ _ _ _ (w.alloc (.cells (ics ⟨tag, id, d0, d1, d2, mx, tx⟩) 162))
  generalize (w.alloc (.cells (ics ⟨tag, id, d0, d1, d2, mx, tx⟩) 162)) = W1 at *
  generalize hbb : w.heap.size = b at hr0 ⊢
  have HBB := Lib.hid hbb; clear hbb
  have HR := Lib.hid hr0; clear hr0
  have MK := Lib.hid fun (W : World) (hW : Below W1.heap.size W1 W) => (by
      obtain ⟨x0, x1, x2, x3, x4, x5, x6⟩ := raw_ics (RawAt.below HR.out hW (RawAt.lt HR.out))
      exact ⟨x0, x1, x2, x3, x4, x5, x6, hW⟩ : W.cell? ⟨b, 0, none⟩ = some (.int .i64 tag) ∧ W.cell? ⟨b, 1, none⟩ = some (.int .i64 id) ∧ W.cell? ⟨b, 2, none⟩ = some (.int .i64 d0) ∧ W.cell? ⟨b, 3, none⟩ = some (.int .i64 d1) ∧ W.cell? ⟨b, 4, none⟩ = some (.int .i64 d2) ∧ W.cell? ⟨b, 5, none⟩ = some (.int .i64 mx) ∧ W.cell? ⟨b, 6, none⟩ = some (.string tx) ∧ Below W1.heap.size W1 W)
  have hW2 : Below W1.heap.size W1 W1.drew := (Below.refl _ _).drew
  go_wp2_with fail
  refine wp_region_noPanic ?_
  refine wp_region_held_drew (S := (fun W => W.cell? ⟨b, 0, none⟩ = some (.int .i64 tag) ∧ W.cell? ⟨b, 1, none⟩ = some (.int .i64 id) ∧ W.cell? ⟨b, 2, none⟩ = some (.int .i64 d0) ∧ W.cell? ⟨b, 3, none⟩ = some (.int .i64 d1) ∧ W.cell? ⟨b, 4, none⟩ = some (.int .i64 d2) ∧ W.cell? ⟨b, 5, none⟩ = some (.int .i64 mx) ∧ W.cell? ⟨b, 6, none⟩ = some (.string tx) ∧ Below W1.heap.size W1 W)) (by kernel_rfl) (MK.out _ hW2) (fun hHeld => ?_)
  refine wpAnyH_take (i := 0) (v := ?_) rfl (by kernel_rfl) (by kernel_rfl) (by kernel_rfl) (fun _ _ _ h => h) (Or.inl ⟨by rfl, ?_⟩) hHeld ?_
  rotate_left
  · intro w hSw
    (try dsimp only at hSw)
    go_simp
    try with_reducible rfl
  go_simp
  refine wpAnyH_take (i := 1) (v := ?_) rfl (by kernel_rfl) (by kernel_rfl) (by kernel_rfl) (fun _ _ _ h => h) (Or.inl ⟨by rfl, ?_⟩) hHeld ?_
  rotate_left
  · intro w hSw
    (try dsimp only at hSw)
    go_simp
    try with_reducible rfl
  go_simp
  refine wpAnyH_take (i := 3) (v := ?_) rfl (by kernel_rfl) (by kernel_rfl) (by kernel_rfl) (fun _ _ _ h => h) (Or.inl ⟨by rfl, ?_⟩) hHeld ?_
  rotate_left
  · intro w hSw
    (try dsimp only at hSw)
    go_simp
    try with_reducible rfl
  go_simp
  refine wpAnyH_take (i := 4) (v := ?_) rfl (by kernel_rfl) (by kernel_rfl) (by kernel_rfl) (fun _ _ _ h => h) (Or.inl ⟨by rfl, ?_⟩) hHeld ?_
  rotate_left
  · intro w hSw
    (try dsimp only at hSw)
    go_simp
    try with_reducible rfl
  go_simp
  refine wpAnyH_ready (rs := [2]) (by kernel_rfl) (by simp) ?_
  refine AllReadyH.cons rfl (fun K hK => ?_) ?_
  rotate_left
  · exact AllReadyH.nil
  go_simp
  go_wp2_with (go_at_call 161; ((with_reducible refine (CD.out _).mono ?_); rintro e w2 ⟨rfl, hb2⟩); have hW3 := hW2.trans (hb2.mono hW2.size))
  refine hK.out _ _ (MK.out _ hW3) (fun hHeld => ?_)
  clear hK K
  go_simp
  refine wpAnyH_take (i := 5) (v := ?_) rfl (by kernel_rfl) (by kernel_rfl) (by kernel_rfl) (fun _ _ _ h => h) (Or.inl ⟨by rfl, ?_⟩) hHeld ?_
  rotate_left
  · intro w hSw
    (try dsimp only at hSw)
    go_simp
    try with_reducible rfl
  go_simp
  refine wpAnyH_take (i := 6) (v := ?_) rfl (by kernel_rfl) (by kernel_rfl) (by kernel_rfl) (fun _ _ _ h => h) (Or.inl ⟨by rfl, ?_⟩) hHeld ?_
  rotate_left
  · intro w hSw
    (try dsimp only at hSw)
    go_simp
    try with_reducible rfl
  go_simp
  refine wpAnyH_take (i := 7) (v := undef) rfl (by kernel_rfl) (by kernel_rfl) (by kernel_rfl) (fun _ _ _ h => h) (Or.inr ⟨by rfl, rfl⟩) hHeld ?_
  go_simp
  refine wpAnyH_take (i := 8) (v := undef) rfl (by kernel_rfl) (by kernel_rfl) (by kernel_rfl) (fun _ _ _ h => h) (Or.inr ⟨by rfl, rfl⟩) hHeld ?_
  go_simp
  refine wpAnyH_take (i := 9) (v := undef) rfl (by kernel_rfl) (by kernel_rfl) (by kernel_rfl) (fun _ _ _ h => h) (Or.inr ⟨by rfl, rfl⟩) hHeld ?_
  go_simp
  refine wpAnyH_take (i := 10) (v := undef) rfl (by kernel_rfl) (by kernel_rfl) (by kernel_rfl) (fun _ _ _ h => h) (Or.inr ⟨by rfl, rfl⟩) hHeld ?_
  go_simp
  refine wpAnyH_take (i := 11) (v := undef) rfl (by kernel_rfl) (by kernel_rfl) (by kernel_rfl) (fun _ _ _ h => h) (Or.inr ⟨by rfl, rfl⟩) hHeld ?_
  go_simp
  refine wpAnyH_take (i := 12) (v := undef) rfl (by kernel_rfl) (by kernel_rfl) (by kernel_rfl) (fun _ _ _ h => h) (Or.inr ⟨by rfl, rfl⟩) hHeld ?_
  go_simp
  refine wpAnyH_take (i := 13) (v := ?_) rfl (by kernel_rfl) (by kernel_rfl) (by kernel_rfl) (fun _ _ _ h => h) (Or.inl ⟨by rfl, ?_⟩) hHeld ?_
  rotate_left
  · intro w hSw
    (try dsimp only at hSw)
    go_simp
    try with_reducible rfl
  go_simp
  refine wpAnyH_done (by kernel_rfl) ?_ _
  refine NoPanic.normal ?_
  go_wp2
  go_ret
  exact ⟨HV.out, by have := HBB.out; subst this; exact hb0.trans (hW3.mono hb0.size)⟩
set_option linter.unusedVariables false in
set_option maxHeartbeats 4000000 in
set_option maxRecDepth 100000 in
theorem check_d1 (tag id d0 d1 d2 mx e0 e1 e2 m : Int) (tx : ByteArray) (v : Int) (w : World) (hv : Ending.returned (.int .i64 1) = .returned (.int .i64 v))
    (hd : ∀ W : World, Calls Tryz.prog 161 #[.agg #[.int .i64 d0, .int .i64 d1, .int .i64 d2]] W fun e w' => e = .returned (.agg #[.int .i64 d0, .int .i64 e1, .int .i64 e2]) ∧ Below W.heap.size W w')
    (hm : ∀ W : World, Calls Tryz.prog 162 #[.int .i64 mx] W fun e w' => e = .returned (.int .i64 m) ∧ w' = W) (hx : (e1 == d1) = false) :
    Calls Tryz.prog 135 #[.agg (ics ⟨tag, id, d0, d1, d2, mx, tx⟩)] w fun e w' => e = .returned (.int .i64 v) ∧ Below w.heap.size w w' := by
  have CD := Lib.hid hd; clear hd
  have CM := Lib.hid hm; clear hm
  have HV := Lib.hid hv; clear hv
  unfold ics
  have HEQ := eq3
  go_enter Tryz.func135, Tryz.ntmps135
  go_wp2
  have hb0 : Below w.heap.size w (w.alloc (.cells (ics ⟨tag, id, d0, d1, d2, mx, tx⟩) 162)) := (Below.refl _ _).alloc (Nat.le_refl _) _
  have hr0 : RawAt 162 (w.alloc (.cells (ics ⟨tag, id, d0, d1, d2, mx, tx⟩) 162)) w.heap.size (ics ⟨tag, id, d0, d1, d2, mx, tx⟩) := heap_alloc_new w _
  change Code.wp _ _ _ _ (w.alloc (.cells (ics ⟨tag, id, d0, d1, d2, mx, tx⟩) 162))
  generalize (w.alloc (.cells (ics ⟨tag, id, d0, d1, d2, mx, tx⟩) 162)) = W1 at *
  generalize hbb : w.heap.size = b at hr0 ⊢
  have HBB := Lib.hid hbb; clear hbb
  have HR := Lib.hid hr0; clear hr0
  have MK := Lib.hid fun (W : World) (hW : Below W1.heap.size W1 W) => (by
      obtain ⟨x0, x1, x2, x3, x4, x5, x6⟩ := raw_ics (RawAt.below HR.out hW (RawAt.lt HR.out))
      exact ⟨x0, x1, x2, x3, x4, x5, x6, hW⟩ : W.cell? ⟨b, 0, none⟩ = some (.int .i64 tag) ∧ W.cell? ⟨b, 1, none⟩ = some (.int .i64 id) ∧ W.cell? ⟨b, 2, none⟩ = some (.int .i64 d0) ∧ W.cell? ⟨b, 3, none⟩ = some (.int .i64 d1) ∧ W.cell? ⟨b, 4, none⟩ = some (.int .i64 d2) ∧ W.cell? ⟨b, 5, none⟩ = some (.int .i64 mx) ∧ W.cell? ⟨b, 6, none⟩ = some (.string tx) ∧ Below W1.heap.size W1 W)
  have hW2 : Below W1.heap.size W1 W1.drew := (Below.refl _ _).drew
  go_wp2_with fail
  refine wp_region_noPanic ?_
  refine wp_region_held_drew (S := (fun W => W.cell? ⟨b, 0, none⟩ = some (.int .i64 tag) ∧ W.cell? ⟨b, 1, none⟩ = some (.int .i64 id) ∧ W.cell? ⟨b, 2, none⟩ = some (.int .i64 d0) ∧ W.cell? ⟨b, 3, none⟩ = some (.int .i64 d1) ∧ W.cell? ⟨b, 4, none⟩ = some (.int .i64 d2) ∧ W.cell? ⟨b, 5, none⟩ = some (.int .i64 mx) ∧ W.cell? ⟨b, 6, none⟩ = some (.string tx) ∧ Below W1.heap.size W1 W)) (by kernel_rfl) (MK.out _ hW2) (fun hHeld => ?_)
  refine wpAnyH_take (i := 0) (v := ?_) rfl (by kernel_rfl) (by kernel_rfl) (by kernel_rfl) (fun _ _ _ h => h) (Or.inl ⟨by rfl, ?_⟩) hHeld ?_
  rotate_left
  · intro w hSw
    (try dsimp only at hSw)
    go_simp
    try with_reducible rfl
  go_simp
  refine wpAnyH_take (i := 1) (v := ?_) rfl (by kernel_rfl) (by kernel_rfl) (by kernel_rfl) (fun _ _ _ h => h) (Or.inl ⟨by rfl, ?_⟩) hHeld ?_
  rotate_left
  · intro w hSw
    (try dsimp only at hSw)
    go_simp
    try with_reducible rfl
  go_simp
  refine wpAnyH_take (i := 3) (v := ?_) rfl (by kernel_rfl) (by kernel_rfl) (by kernel_rfl) (fun _ _ _ h => h) (Or.inl ⟨by rfl, ?_⟩) hHeld ?_
  rotate_left
  · intro w hSw
    (try dsimp only at hSw)
    go_simp
    try with_reducible rfl
  go_simp
  refine wpAnyH_take (i := 4) (v := ?_) rfl (by kernel_rfl) (by kernel_rfl) (by kernel_rfl) (fun _ _ _ h => h) (Or.inl ⟨by rfl, ?_⟩) hHeld ?_
  rotate_left
  · intro w hSw
    (try dsimp only at hSw)
    go_simp
    try with_reducible rfl
  go_simp
  refine wpAnyH_ready (rs := [2]) (by kernel_rfl) (by simp) ?_
  refine AllReadyH.cons rfl (fun K hK => ?_) ?_
  rotate_left
  · exact AllReadyH.nil
  go_simp
  go_wp2_with (go_at_call 161; ((with_reducible refine (CD.out _).mono ?_); rintro e w2 ⟨rfl, hb2⟩); have hW3 := hW2.trans (hb2.mono hW2.size))
  refine hK.out _ _ (MK.out _ hW3) (fun hHeld => ?_)
  clear hK K
  go_simp
  refine wpAnyH_take (i := 5) (v := ?_) rfl (by kernel_rfl) (by kernel_rfl) (by kernel_rfl) (fun _ _ _ h => h) (Or.inl ⟨by rfl, ?_⟩) hHeld ?_
  rotate_left
  · intro w hSw
    (try dsimp only at hSw)
    go_simp
    try with_reducible rfl
  go_simp
  refine wpAnyH_take (i := 6) (v := ?_) rfl (by kernel_rfl) (by kernel_rfl) (by kernel_rfl) (fun _ _ _ h => h) (Or.inl ⟨by rfl, ?_⟩) hHeld ?_
  rotate_left
  · intro w hSw
    (try dsimp only at hSw)
    go_simp
    try with_reducible rfl
  go_simp
  refine wpAnyH_take (i := 7) (v := undef) rfl (by kernel_rfl) (by kernel_rfl) (by kernel_rfl) (fun _ _ _ h => h) (Or.inr ⟨by rfl, rfl⟩) hHeld ?_
  go_simp
  refine wpAnyH_take (i := 8) (v := undef) rfl (by kernel_rfl) (by kernel_rfl) (by kernel_rfl) (fun _ _ _ h => h) (Or.inr ⟨by rfl, rfl⟩) hHeld ?_
  go_simp
  refine wpAnyH_take (i := 9) (v := undef) rfl (by kernel_rfl) (by kernel_rfl) (by kernel_rfl) (fun _ _ _ h => h) (Or.inr ⟨by rfl, rfl⟩) hHeld ?_
  go_simp
  refine wpAnyH_take (i := 10) (v := undef) rfl (by kernel_rfl) (by kernel_rfl) (by kernel_rfl) (fun _ _ _ h => h) (Or.inr ⟨by rfl, rfl⟩) hHeld ?_
  go_simp
  refine wpAnyH_take (i := 11) (v := undef) rfl (by kernel_rfl) (by kernel_rfl) (by kernel_rfl) (fun _ _ _ h => h) (Or.inr ⟨by rfl, rfl⟩) hHeld ?_
  go_simp
  refine wpAnyH_take (i := 12) (v := undef) rfl (by kernel_rfl) (by kernel_rfl) (by kernel_rfl) (fun _ _ _ h => h) (Or.inr ⟨by rfl, rfl⟩) hHeld ?_
  go_simp
  refine wpAnyH_take (i := 13) (v := ?_) rfl (by kernel_rfl) (by kernel_rfl) (by kernel_rfl) (fun _ _ _ h => h) (Or.inl ⟨by rfl, ?_⟩) hHeld ?_
  rotate_left
  · intro w hSw
    (try dsimp only at hSw)
    go_simp
    try with_reducible rfl
  go_simp
  refine wpAnyH_done (by kernel_rfl) ?_ _
  refine NoPanic.normal ?_
  go_wp2
  go_ret
  exact ⟨HV.out, by have := HBB.out; subst this; exact hb0.trans (hW3.mono hb0.size)⟩
set_option linter.unusedVariables false in
set_option maxHeartbeats 4000000 in
set_option maxRecDepth 100000 in
theorem check_d2 (tag id d0 d1 d2 mx e0 e1 e2 m : Int) (tx : ByteArray) (v : Int) (w : World) (hv : Ending.returned (.int .i64 1) = .returned (.int .i64 v))
    (hd : ∀ W : World, Calls Tryz.prog 161 #[.agg #[.int .i64 d0, .int .i64 d1, .int .i64 d2]] W fun e w' => e = .returned (.agg #[.int .i64 d0, .int .i64 d1, .int .i64 e2]) ∧ Below W.heap.size W w')
    (hm : ∀ W : World, Calls Tryz.prog 162 #[.int .i64 mx] W fun e w' => e = .returned (.int .i64 m) ∧ w' = W) (hx : (e2 == d2) = false) :
    Calls Tryz.prog 135 #[.agg (ics ⟨tag, id, d0, d1, d2, mx, tx⟩)] w fun e w' => e = .returned (.int .i64 v) ∧ Below w.heap.size w w' := by
  have CD := Lib.hid hd; clear hd
  have CM := Lib.hid hm; clear hm
  have HV := Lib.hid hv; clear hv
  unfold ics
  have HEQ := eq3
  go_enter Tryz.func135, Tryz.ntmps135
  go_wp2
  have hb0 : Below w.heap.size w (w.alloc (.cells (ics ⟨tag, id, d0, d1, d2, mx, tx⟩) 162)) := (Below.refl _ _).alloc (Nat.le_refl _) _
  have hr0 : RawAt 162 (w.alloc (.cells (ics ⟨tag, id, d0, d1, d2, mx, tx⟩) 162)) w.heap.size (ics ⟨tag, id, d0, d1, d2, mx, tx⟩) := heap_alloc_new w _
  change Code.wp _ _ _ _ (w.alloc (.cells (ics ⟨tag, id, d0, d1, d2, mx, tx⟩) 162))
  generalize (w.alloc (.cells (ics ⟨tag, id, d0, d1, d2, mx, tx⟩) 162)) = W1 at *
  generalize hbb : w.heap.size = b at hr0 ⊢
  have HBB := Lib.hid hbb; clear hbb
  have HR := Lib.hid hr0; clear hr0
  have MK := Lib.hid fun (W : World) (hW : Below W1.heap.size W1 W) => (by
      obtain ⟨x0, x1, x2, x3, x4, x5, x6⟩ := raw_ics (RawAt.below HR.out hW (RawAt.lt HR.out))
      exact ⟨x0, x1, x2, x3, x4, x5, x6, hW⟩ : W.cell? ⟨b, 0, none⟩ = some (.int .i64 tag) ∧ W.cell? ⟨b, 1, none⟩ = some (.int .i64 id) ∧ W.cell? ⟨b, 2, none⟩ = some (.int .i64 d0) ∧ W.cell? ⟨b, 3, none⟩ = some (.int .i64 d1) ∧ W.cell? ⟨b, 4, none⟩ = some (.int .i64 d2) ∧ W.cell? ⟨b, 5, none⟩ = some (.int .i64 mx) ∧ W.cell? ⟨b, 6, none⟩ = some (.string tx) ∧ Below W1.heap.size W1 W)
  have hW2 : Below W1.heap.size W1 W1.drew := (Below.refl _ _).drew
  go_wp2_with fail
  refine wp_region_noPanic ?_
  refine wp_region_held_drew (S := (fun W => W.cell? ⟨b, 0, none⟩ = some (.int .i64 tag) ∧ W.cell? ⟨b, 1, none⟩ = some (.int .i64 id) ∧ W.cell? ⟨b, 2, none⟩ = some (.int .i64 d0) ∧ W.cell? ⟨b, 3, none⟩ = some (.int .i64 d1) ∧ W.cell? ⟨b, 4, none⟩ = some (.int .i64 d2) ∧ W.cell? ⟨b, 5, none⟩ = some (.int .i64 mx) ∧ W.cell? ⟨b, 6, none⟩ = some (.string tx) ∧ Below W1.heap.size W1 W)) (by kernel_rfl) (MK.out _ hW2) (fun hHeld => ?_)
  refine wpAnyH_take (i := 0) (v := ?_) rfl (by kernel_rfl) (by kernel_rfl) (by kernel_rfl) (fun _ _ _ h => h) (Or.inl ⟨by rfl, ?_⟩) hHeld ?_
  rotate_left
  · intro w hSw
    (try dsimp only at hSw)
    go_simp
    try with_reducible rfl
  go_simp
  refine wpAnyH_take (i := 1) (v := ?_) rfl (by kernel_rfl) (by kernel_rfl) (by kernel_rfl) (fun _ _ _ h => h) (Or.inl ⟨by rfl, ?_⟩) hHeld ?_
  rotate_left
  · intro w hSw
    (try dsimp only at hSw)
    go_simp
    try with_reducible rfl
  go_simp
  refine wpAnyH_take (i := 3) (v := ?_) rfl (by kernel_rfl) (by kernel_rfl) (by kernel_rfl) (fun _ _ _ h => h) (Or.inl ⟨by rfl, ?_⟩) hHeld ?_
  rotate_left
  · intro w hSw
    (try dsimp only at hSw)
    go_simp
    try with_reducible rfl
  go_simp
  refine wpAnyH_take (i := 4) (v := ?_) rfl (by kernel_rfl) (by kernel_rfl) (by kernel_rfl) (fun _ _ _ h => h) (Or.inl ⟨by rfl, ?_⟩) hHeld ?_
  rotate_left
  · intro w hSw
    (try dsimp only at hSw)
    go_simp
    try with_reducible rfl
  go_simp
  refine wpAnyH_ready (rs := [2]) (by kernel_rfl) (by simp) ?_
  refine AllReadyH.cons rfl (fun K hK => ?_) ?_
  rotate_left
  · exact AllReadyH.nil
  go_simp
  go_wp2_with (go_at_call 161; ((with_reducible refine (CD.out _).mono ?_); rintro e w2 ⟨rfl, hb2⟩); have hW3 := hW2.trans (hb2.mono hW2.size))
  refine hK.out _ _ (MK.out _ hW3) (fun hHeld => ?_)
  clear hK K
  go_simp
  refine wpAnyH_take (i := 5) (v := ?_) rfl (by kernel_rfl) (by kernel_rfl) (by kernel_rfl) (fun _ _ _ h => h) (Or.inl ⟨by rfl, ?_⟩) hHeld ?_
  rotate_left
  · intro w hSw
    (try dsimp only at hSw)
    go_simp
    try with_reducible rfl
  go_simp
  refine wpAnyH_take (i := 6) (v := ?_) rfl (by kernel_rfl) (by kernel_rfl) (by kernel_rfl) (fun _ _ _ h => h) (Or.inl ⟨by rfl, ?_⟩) hHeld ?_
  rotate_left
  · intro w hSw
    (try dsimp only at hSw)
    go_simp
    try with_reducible rfl
  go_simp
  refine wpAnyH_take (i := 7) (v := undef) rfl (by kernel_rfl) (by kernel_rfl) (by kernel_rfl) (fun _ _ _ h => h) (Or.inr ⟨by rfl, rfl⟩) hHeld ?_
  go_simp
  refine wpAnyH_take (i := 8) (v := undef) rfl (by kernel_rfl) (by kernel_rfl) (by kernel_rfl) (fun _ _ _ h => h) (Or.inr ⟨by rfl, rfl⟩) hHeld ?_
  go_simp
  refine wpAnyH_take (i := 9) (v := undef) rfl (by kernel_rfl) (by kernel_rfl) (by kernel_rfl) (fun _ _ _ h => h) (Or.inr ⟨by rfl, rfl⟩) hHeld ?_
  go_simp
  refine wpAnyH_take (i := 10) (v := undef) rfl (by kernel_rfl) (by kernel_rfl) (by kernel_rfl) (fun _ _ _ h => h) (Or.inr ⟨by rfl, rfl⟩) hHeld ?_
  go_simp
  refine wpAnyH_take (i := 11) (v := undef) rfl (by kernel_rfl) (by kernel_rfl) (by kernel_rfl) (fun _ _ _ h => h) (Or.inr ⟨by rfl, rfl⟩) hHeld ?_
  go_simp
  refine wpAnyH_take (i := 12) (v := undef) rfl (by kernel_rfl) (by kernel_rfl) (by kernel_rfl) (fun _ _ _ h => h) (Or.inr ⟨by rfl, rfl⟩) hHeld ?_
  go_simp
  refine wpAnyH_take (i := 13) (v := ?_) rfl (by kernel_rfl) (by kernel_rfl) (by kernel_rfl) (fun _ _ _ h => h) (Or.inl ⟨by rfl, ?_⟩) hHeld ?_
  rotate_left
  · intro w hSw
    (try dsimp only at hSw)
    go_simp
    try with_reducible rfl
  go_simp
  refine wpAnyH_done (by kernel_rfl) ?_ _
  refine NoPanic.normal ?_
  go_wp2
  go_ret
  exact ⟨HV.out, by have := HBB.out; subst this; exact hb0.trans (hW3.mono hb0.size)⟩
theorem check_any (i : I7) (v : Int) (hv : (Oki i → v = 0) ∧ (¬ Oki i → v = 1)) (w : World) : Calls Tryz.prog 135 #[.agg (ics i)] w fun e w' => e = .returned (.int .i64 v) ∧ Below w.heap.size w w' := by
  obtain ⟨tag, id, d0, d1, d2, mx, tx⟩ := i
  have hd := fun W => bounded_any d0 d1 d2 W
  have hm := fun W => bound_any mx W
  unfold dcs at hd
  by_cases k0 : Okn d0
  · rw [clamp_ok k0] at hd
    by_cases k1 : Okn d1
    · rw [clamp_ok k1] at hd
      by_cases k2 : Okn d2
      · rw [clamp_ok k2] at hd
        by_cases k3 : Okn mx
        · rw [clamp_ok k3] at hm
          exact check_ok tag id d0 d1 d2 mx 0 0 0 0 tx v w (rv_yes hv ⟨⟨k0, k1, k2⟩, k3⟩) hd hm
        · exact check_mx tag id d0 d1 d2 mx 0 0 0 _ tx v w (rv_no hv (fun h => k3 h.2)) hd hm (by simpa using clamp_no k3)
      · exact check_d2 tag id d0 d1 d2 mx 0 0 _ _ tx v w (rv_no hv (fun h => k2 h.1.2.2)) hd hm (by simpa using clamp_no k2)
    · exact check_d1 tag id d0 d1 d2 mx 0 _ _ _ tx v w (rv_no hv (fun h => k1 h.1.2.1)) hd hm (by simpa using clamp_no k1)
  · exact check_d0 tag id d0 d1 d2 mx _ _ _ _ tx v w (rv_no hv (fun h => k0 h.1.1)) hd hm (by simpa using clamp_no k0)
/-- A size of a sum. -/
def ssz (s : S6) (dim : Nat) : Int := if dim = 3 then s.n else if dim = 0 then s.d0 else if dim = 1 then s.d1 else s.d2
theorem ssz_sdim (l : List I7) (ho : Okl l) (dim : Nat) : ssz (sall l) dim = sdim l dim := by
  unfold ssz sdim
  rw [(sall_ok _ l rfl ho).1]
set_option maxHeartbeats 2000000 in
set_option maxRecDepth 100000 in
theorem tsize_any (s : S6) (dim : Nat) (w : World) (hd : dim ≤ 3) :
    Calls Tryz.prog 156 #[.agg (scs s), .int .i64 dim] w fun e w' => e = .returned (.int .i64 (ssz s dim)) ∧ Below w.heap.size w w' := by
  have hb1 : Below w.heap.size w (w.alloc (.cells (scs s) 129)) := (Below.refl _ _).alloc (Nat.le_refl _) _
  obtain rfl | rfl | rfl | rfl : dim = 3 ∨ dim = 0 ∨ dim = 1 ∨ dim = 2 := by omega
  · have HS := Lib.hid (show ssz s 3 = s.n from rfl)
    unfold scs at *
    go_enter Tryz.func156, Tryz.ntmps156
    go_wp2
    go_ret
    exact ⟨ret_int (by rw [HS.out]), hb1⟩
  all_goals
    have hx0 := fun W => idx3_0 s.d0 s.d1 s.d2 W
    have hx1 := fun W => idx3_1 s.d0 s.d1 s.d2 W
    have hx2 := fun W => idx3_2 s.d0 s.d1 s.d2 W
    have HS := Lib.hid (show ssz s 0 = s.d0 ∧ ssz s 1 = s.d1 ∧ ssz s 2 = s.d2 from ⟨rfl, rfl, rfl⟩)
    unfold scs at *
    go_enter Tryz.func156, Tryz.ntmps156
    go_wp2
    go_ret
    exact ⟨ret_int (by first | exact HS.out.1.symm | exact HS.out.2.1.symm | exact HS.out.2.2.symm), hb1⟩
/-- The closure's three variables. -/
def Env (w : World) (dim : Nat) (v bi : Int) (bd bv bb : Nat) : Prop := ∀ W, Below w.heap.size w W → W.cell? ⟨bd, 0, none⟩ = some (.int .i64 dim) ∧ W.cell? ⟨bv, 0, none⟩ = some (.int .i64 v) ∧ W.cell? ⟨bb, 0, none⟩ = some (.int .i64 bi)
theorem Env.below {w w' : World} {dim : Nat} {v bi : Int} {bd bv bb : Nat} (h : Env w dim v bi bd bv bb) (hb : Below w.heap.size w w') : Env w' dim v bi bd bv bb := fun W hW => h W (hb.trans (hW.mono hb.size))
set_option maxHeartbeats 4000000 in
set_option maxRecDepth 100000 in
theorem far_any (s : S6) (dim : Nat) (v bi : Int) (bd bv bb : Nat) (w : World) (hd : dim ≤ 3) (hE : Env w dim v bi bd bv bb) (fb : Bool) (hfb : fb = true ↔ Stops (ssz s dim) v bi) :
    Calls Tryz.prog 157 #[.agg (scs s), .pointer (some ⟨bd, 0, none⟩), .pointer (some ⟨bv, 0, none⟩), .pointer (some ⟨bb, 0, none⟩)] w fun e w' => e = .returned (.bool fb) ∧ Below w.heap.size w w' := by
  have C1 := Lib.hid fun (W : World) => tsize_any s dim W hd
  have hb1 : Below w.heap.size w (w.alloc (.cells (scs s) 129)) := (Below.refl _ _).alloc (Nat.le_refl _) _
  obtain ⟨h0, h1, h2⟩ := hE _ hb1
  have HE := Lib.hid hE
  clear hE
  unfold scs at *
  go_enter Tryz.func157, Tryz.ntmps157
  go_wp2_with fail
  refine (C1.out _).mono ?_
  rintro e w2 ⟨rfl, hb2⟩
  have a2 := hb1.trans (hb2.mono hb1.size)
  obtain ⟨k0, k1, k2⟩ := HE.out _ a2
  clear h0 h1 h2
  generalize ssz s dim = z at *
  have HF := Lib.hid hfb; clear hfb
  rcases Int.lt_trichotomy v z with hz | rfl | hz
  · have HX := Lib.hid (ab_yes HF.out (.inl hz))
    go_wp2_with fail
    go_ret
    exact ⟨ret_bool HX.out, a2⟩
  · by_cases hb0 : bi = 0
    · subst hb0
      have HX := Lib.hid (ab_yes HF.out (.inr ⟨rfl, rfl⟩))
      go_wp2_with fail
      go_ret
      exact ⟨ret_bool HX.out, a2⟩
    · have HX := Lib.hid (ab_no HF.out (fun h => by rcases h with h | h <;> omega))
      have hb1 : (bi == 0) = false := by simp [hb0]
      go_wp2_with fail
      go_ret
      exact ⟨ret_bool HX.out, a2⟩
  · have HX := Lib.hid (ab_no HF.out (fun h => by rcases h with h | h <;> omega))
    have hz1 : ¬ (v < z) := by omega
    have hz2 : (z == v) = false := by simp; omega
    go_wp2_with fail
    go_ret
    exact ⟨ret_bool ((decide_eq_false (by omega)).trans HX.out), a2⟩
/-- Is the end of the first k items so far? -/
def Sto (l : List I7) (dim : Nat) (v b : Int) (k : Nat) : Prop := Stops (sdim (l.take k) dim) v b
theorem sall_mono (l : List I7) (ho : Okl l) {a b : Nat} (h : a ≤ b) (dim : Nat) : sdim (l.take a) dim ≤ sdim (l.take b) dim := by
  have e : l.take b = l.take a ++ (l.drop a).take (b - a) := by
    have := List.take_add (l := l) (i := a) (j := b - a)
    rw [show a + (b - a) = b by omega] at this
    exact this
  have ho1 : Okl (l.take a) := ho.take_ a
  have ho2 : Okl ((l.drop a).take (b - a)) := fun i hi => ho i (List.mem_of_mem_drop (List.mem_of_mem_take hi))
  have hs := sall_append _ (l.take a) ((l.drop a).take (b - a)) rfl ho1 ho2
  rw [← e] at hs
  have h1 := sall_ok _ (l.take a) rfl ho1
  have h2 := sall_ok _ ((l.drop a).take (b - a)) rfl ho2
  have hlen : (l.take b).length = (l.take a).length + ((l.drop a).take (b - a)).length := by rw [e, List.length_append]
  generalize (l.drop a).take (b - a) = r at *
  obtain ⟨a1, a2, a3, a4, a5, a6, a7, a8, a9, a10, a11, a12, a13⟩ := h1
  obtain ⟨b1, b2, b3, b4, b5, b6, b7, b8, b9, b10, b11, b12, b13⟩ := h2
  unfold sdim
  rw [hs]
  by_cases z1 : (sall (l.take a)).n = 0
  · rw [sadd_z z1]
    have hz : (l.take a).length = 0 := by omega
    rw [hz] at a4 a6 a8
    repeat' split
    all_goals omega
  · by_cases z2 : (sall r).n = 0
    · rw [sadd_w z1 z2]
      repeat' split
      all_goals omega
    · rw [sadd_s z1 z2]
      repeat' split
      all_goals (try simp only)
      all_goals omega
theorem Sto.mono {l : List I7} {dim : Nat} {v b : Int} {i k : Nat} (ho : Okl l) (h : i ≤ k) (hn : ¬ Sto l dim v b k) : ¬ Sto l dim v b i := by
  have := sall_mono l ho h dim
  unfold Sto Stops at *
  omega
/-- Where the search is: at a node with those items, behind q of all. -/
structure Way (l m : List I7) (dim : Nat) (v b : Int) (q : Nat) : Prop where
  at_ : (l.drop q).take m.length = m
  le : q + m.length ≤ l.length
  no : q = 0 ∨ ¬ Sto l dim v b q
  yes : q + m.length = l.length ∨ Sto l dim v b (q + m.length)
theorem Way.take {l m : List I7} {dim : Nat} {v b : Int} {q : Nat} (h : Way l m dim v b q) (j : Nat) (hj : j ≤ m.length) : l.take (q + j) = l.take q ++ m.take j := by
  rw [List.take_add]
  congr 1
  rw [← h.at_, List.take_take, Nat.min_eq_left hj]
theorem Way.find {l m : List I7} {dim : Nat} {v b : Int} {q k : Nat} (h : Way l m dim v b q) (ho : Okl l) (hk : q ≤ k) (hk2 : k < q + m.length) (hn : k = 0 ∨ ¬ Sto l dim v b k) (hy : Sto l dim v b (k + 1)) : FindIs l dim v b k := by
  refine ⟨by have := h.le; omega, fun j hj hs => ?_, fun _ => hy⟩
  rcases hn with rfl | hn
  · omega
  · exact Sto.mono ho (show j + 1 ≤ k by omega) hn hs
theorem Way.end_ {l m : List I7} {dim : Nat} {v b : Int} {q : Nat} (h : Way l m dim v b q) (ho : Okl l) (hn : ¬ Sto l dim v b (q + m.length)) : FindIs l dim v b (q + m.length) := by
  refine ⟨h.le, fun j hj hs => Sto.mono ho (show j + 1 ≤ q + m.length by omega) hn hs, fun hlt => ?_⟩
  rcases h.yes with h1 | h1
  · omega
  · exact absurd h1 hn
/-- A node's kid. -/
theorem Way.kid {l : List I7} {ks : List Kd} {dim : Nat} {v b : Int} {q j : Nat} (h : Way l (fl ks) dim v b q) (hj : j < ks.length) (hn : q + sz ks j = 0 ∨ ¬ Sto l dim v b (q + sz ks j)) (hy : Sto l dim v b (q + sz ks (j + 1))) : Way l (kth ks j).l dim v b (q + sz ks j) := by
  have es := sz_succ ks hj
  have el := sz_le ks (j + 1)
  have hle := h.le
  refine ⟨?_, by omega, hn, .inr (by rw [Nat.add_assoc, ← es]; exact hy)⟩
  have e1 : fl ks = fl (ks.take j) ++ ((kth ks j).l ++ fl (ks.drop (j + 1))) := by
    rw [← List.append_assoc, ← fl_take ks hj, ← fl_append, List.take_append_drop]
  have hl : (fl (ks.take j)).length = sz ks j := rfl
  have e2 : ((l.drop q).take (fl ks).length).drop (sz ks j) = (kth ks j).l ++ fl (ks.drop (j + 1)) := by
    rw [h.at_, e1, ← hl, List.drop_left]
  have e3 := congrArg (fun x => x.take (kth ks j).l.length) e2
  simp only [List.take_left] at e3
  rw [List.drop_take, List.take_take, List.drop_drop, Nat.min_eq_left (by omega)] at e3
  exact e3
theorem sall_at {l : List I7} {ks : List Kd} {dim : Nat} {v b : Int} {q j : Nat} (h : Way l (fl ks) dim v b q) (ho : Okl l) (hj : j < ks.length) (hk : Okl (kth ks j).l) : sall (l.take (q + sz ks (j + 1))) = sadd (sall (l.take (q + sz ks j))) (sall (kth ks j).l) := by
  have el := sz_le ks (j + 1)
  have el0 := sz_le ks j
  have hl : ∀ i, (fl ks).take (sz ks i) = fl (ks.take i) := fun i => by
    have e1 : fl ks = fl (ks.take i) ++ fl (ks.drop i) := by rw [← fl_append, List.take_append_drop]
    rw [e1]
    exact List.take_left
  rw [h.take _ el, h.take _ el0, hl, hl, fl_take ks hj, ← List.append_assoc]
  refine sall_append _ _ _ rfl (fun i hi => ?_) hk
  have : i ∈ l.take (q + sz ks j) := by rw [h.take _ el0, hl]; exact hi
  exact ho i (List.mem_of_mem_take this)
theorem sall_at1 {l m : List I7} {dim : Nat} {v b : Int} {q j : Nat} (h : Way l m dim v b q) (hj : j < m.length) : sall (l.take (q + (j + 1))) = sadd (sall (l.take (q + j))) (sof (ith m j)) := by
  rw [h.take _ hj, h.take _ (Nat.le_of_lt hj), take_ith m hj, ← List.append_assoc, sall_snoc]
theorem newA {w W : World} (h : Below (w.alloc (.cells #[.int .i64 0, .int .i64 0, .int .i64 0, .int .i64 0, .int .i64 0, .int .i64 0] 129)).heap.size (w.alloc (.cells #[.int .i64 0, .int .i64 0, .int .i64 0, .int .i64 0, .int .i64 0, .int .i64 0] 129)) W) : RawAt 129 W w.heap.size #[.int .i64 0, .int .i64 0, .int .i64 0, .int .i64 0, .int .i64 0, .int .i64 0] :=
  RawAt.below (heap_alloc_new w _) h (by simp)
theorem newD {w W : World} (h : Below (w.alloc (.cells #[.int .i64 0, .int .i64 0, .int .i64 0, .int .i64 0, .int .i64 0, .int .i64 0] 129)).drew.heap.size (w.alloc (.cells #[.int .i64 0, .int .i64 0, .int .i64 0, .int .i64 0, .int .i64 0, .int .i64 0] 129)).drew W) : RawAt 129 W w.heap.size #[.int .i64 0, .int .i64 0, .int .i64 0, .int .i64 0, .int .i64 0, .int .i64 0] :=
  RawAt.below (show RawAt 129 (w.alloc (.cells #[.int .i64 0, .int .i64 0, .int .i64 0, .int .i64 0, .int .i64 0, .int .i64 0] 129)).drew w.heap.size _ from heap_alloc_new w _) h (by simp)
theorem b6 {B b : Nat} {a w : World} {v0 v1 v2 v3 v4 v5 : Value} (h : Below B a w) (hb : B ≤ b) : Below B a ((((((w.setCell ⟨b, 0, none⟩ v0).setCell ⟨b, 1, none⟩ v1).setCell ⟨b, 2, none⟩ v2).setCell ⟨b, 3, none⟩ v3).setCell ⟨b, 4, none⟩ v4).setCell ⟨b, 5, none⟩ v5) :=
  (((((h.setCell hb _).setCell hb _).setCell hb _).setCell hb _).setCell hb _).setCell hb _
theorem raw_six {t : TypeId} {w : World} {b : Nat} {a0 a1 a2 a3 a4 a5 : Value} (h : RawAt t w b #[a0, a1, a2, a3, a4, a5]) : w.cell? ⟨b, 0, none⟩ = some a0 ∧ w.cell? ⟨b, 1, none⟩ = some a1 ∧ w.cell? ⟨b, 2, none⟩ = some a2 ∧ w.cell? ⟨b, 3, none⟩ = some a3 ∧ w.cell? ⟨b, 4, none⟩ = some a4 ∧ w.cell? ⟨b, 5, none⟩ = some a5 :=
  ⟨RawAt.cell h 0, RawAt.cell h 1, RawAt.cell h 2, RawAt.cell h 3, RawAt.cell h 4, RawAt.cell h 5⟩
set_option maxHeartbeats 40000000 in
set_option maxRecDepth 100000 in
theorem find_node (H : Nat) (k : Kd) (l : List I7) (dim : Nat) (v bi : Int) (bd bv bb : Nat) (w : World) (hk : NodeAt H w k) (hl : k.l = l) (ho : Okl l) (hz : l.length ≤ 100000) (hd : dim ≤ 3) (hE : Env w dim v bi bd bv bb) :
    Calls Tryz.prog 158 #[k.v, .func (.func 157) #[] #[.pointer (some ⟨bd, 0, none⟩), .pointer (some ⟨bv, 0, none⟩), .pointer (some ⟨bb, 0, none⟩)]] w fun e w' => ∃ (q : Nat) (z : Int), FindIs l dim v bi q ∧ 0 ≤ z ∧ z ≤ H ∧ e = .returned (.agg (vcs q (sall (l.take q)) z)) ∧ Below w.heap.size w w' := by
  have HW0 : Hid (Way l k.l dim v bi 0) := ⟨by rw [hl]; simp, by rw [hl]; omega, .inl rfl, .inl (by rw [hl, Nat.zero_add])⟩
  have HK := Lib.hid hk
  have HO := Lib.hid ho
  have HE := Lib.hid hE
  have hH : H ≤ 100000 := by
    have h1 := hk.size
    have h2 := hk.cnt.1
    have h3 := lt_p4 (H - 1)
    have h4 := Nat.mul_le_mul_right (p4 (H - 1)) h2
    rw [hl] at h1
    omega
  clear hk ho hE hl
  go_enter Tryz.func158, Tryz.ntmps158
  go_wp2
  go_step3
  go_wp2
  go_step3
  go_wp2
  obtain ⟨hr0, hq0, hb0, hs0⟩ := new2 w 208 208 (vcs 0 s0 0) (vcs 0 s0 0)
  change Code.wp _ _ _ _ ((w.alloc (.cells (vcs 0 s0 0) 208)).alloc (.cells (vcs 0 s0 0) 208))
  generalize ((w.alloc (.cells (vcs 0 s0 0) 208)).alloc (.cells (vcs 0 s0 0) 208)) = W1 at *
  have HQ := Lib.hid hq0; clear hq0
  have HR := Lib.hid hr0; clear hr0
  have HS := Lib.hid hs0; clear hs0
  go_loopg [0] H (fun g nv wr => ∃ (κ : Kd) (q h z : Nat), nv = κ.v ∧ z + h = H ∧ h ≤ g ∧ Below (w.heap.size + 1) W1 wr ∧ Hid (RawAt 208 wr (w.heap.size + 1) (vcs 0 (sall (l.take q)) z)) ∧ Hid (NodeAt h w κ) ∧ Hid (Way l κ.l dim v bi q))
  case atStart => exact ⟨k, 0, H, 0, rfl, by omega, Nat.le_refl _, (Below.refl _ _).mono (Nat.le_of_eq rfl), HQ, HK, HW0⟩
  case round =>
    obtain ⟨κ, q, h, z, rfl, h1, h2, hb, hq, hN, hWy⟩ := hrel
    obtain ⟨p0, p1, p2, p3, p4_, p5, p6, p7⟩ := raw_vcs hq.out
    have pf7 := hq.out.free 7
    have hsz : w.heap.size + 2 ≤ wr.heap.size := by have := HS.out; have := hb.size; omega
    have hbw := hb0.trans (hb.mono (Nat.le_succ _))
    have hwz : IntKind.i64.wrap ((z : Int) + 1) = (z : Int) + 1 := IntWalk.i64_in _ (by omega)
    have hfz : Below (w.heap.size + 1) W1 (wr.setCell ⟨w.heap.size + 1, 7, none⟩ (.int .i64 ((z : Int) + 1))) := hb.setCell (p := ⟨w.heap.size + 1, 7, none⟩) (Nat.le_refl _) _
    have hrz : RawAt 208 (wr.setCell ⟨w.heap.size + 1, 7, none⟩ (.int .i64 ((z : Int) + 1))) (w.heap.size + 1) (vcs 0 (sall (l.take q)) ((z : Int) + 1)) := (hq.out.set_ 7 _).of_eq (by simp [vcs])
    have HQ2 := Lib.hid hrz
    clear hrz
    match h, hN with
    | 1, hN =>
      obtain ⟨b, A, c, qn⟩ := hN.out
      have t1 := ne_l
      have t2 := ta_lb
      have t3 := ta_ll
      have hbz := hb0.trans (hfz.mono (Nat.le_succ _))
      have e0 := (raw_lcs (qn.raw.below hbz qn.raw.lt)).1
      rw [qn.v]
      unfold lfv at *
      go_wp2_with fail
      have hlen := qn.len
      have hn8 := qn.most
      have hpos := qn.pos
      have HA := Lib.hid qn.its
      have hml := hWy.out.le
      rw [hlen] at hml
      have HL := Lib.hid hlen
      have HOk := Lib.hid qn.ok
      clear qn hN hlen e0
      generalize κ.c = n at *
      obtain ⟨gO, hgO⟩ : ∃ g, g = gk := ⟨gk, rfl⟩
      subst hgO
      have hWc := hWy
      refine gen_world (K := fun W => Code.wp _ _ _ _ W) (B := w.heap.size + 1) (w := W1) (t := 208) (b := w.heap.size + 1) (cs := vcs 0 (sall (l.take q)) ((z : Int) + 1)) hfz HQ2.out (fun W2 hf2 hr2 => ?_)
      have HR2 := Lib.hid hr2
      clear hr2 HQ2 hfz hbz p0 p1 p2 p3 p4_ p5 p6 p7 pf7
      go_loopg [53] n (fun g iv wr => ∃ j : Nat, iv = .int .i64 j ∧ j ≤ n ∧ n - j ≤ g ∧ Below (w.heap.size + 1) W1 wr ∧ Hid (RawAt 208 wr (w.heap.size + 1) (vcs 0 (sall (l.take (q + j))) ((z : Int) + 1))) ∧ Hid (q + j = 0 ∨ ¬ Sto l dim v bi (q + j)))
      case atStart => exact ⟨0, rfl, by omega, by omega, hf2, HR2, hWy.out.no⟩
      case round =>
        obtain ⟨j, rfl, g1, g2, hbr, hqr, hno⟩ := hrel
        have hbwr := hb0.trans (hbr.mono (Nat.le_succ _))
        have hszr : w.heap.size + 2 ≤ wr.heap.size := by have := HS.out; have := hbr.size; omega
        by_cases hlt : j < n
        · have hm : j < κ.l.length := by rw [HL.out]; exact hlt
          obtain ⟨bA, off, rfl, hbA, hc⟩ := HA.out (by omega)
          obtain ⟨x0, x1, x2, x3, x4, x5, x6⟩ := hc j hm
          clear hc
          obtain ⟨O1, O2⟩ := old_cells hbwr
          have hst := sall_at1 hWy.out hm
          have hok := sall_ok _ (l.take (q + j)) rfl (HO.out.take_ (q + j))
          have hoi := sof_ok (HOk.out _ (ith_mem κ.l hm))
          have hlj : (l.take (q + j)).length ≤ 1000000 := by rw [List.length_take]; omega
          have CO : Hid (∀ (W : World), Calls Tryz.prog 101 #[.agg (ics (ith κ.l j))] W fun e w' => e = .returned (.agg (scs (sof (ith κ.l j)))) ∧ Below W.heap.size W w') := fun W => iof_any (ith κ.l j) W
          have CD := Lib.hid fun (W : World) => iadd_any _ _ _ _ _ hok hoi (by omega) (by omega) hst.symm W
          have HU := Lib.hid (show ssz (sall (l.take (q + (j + 1)))) dim = sdim (l.take (q + (j + 1))) dim from ssz_sdim _ (HO.out.take_ _) dim)
          clear hst hok hoi hlj
          generalize hu : sall (l.take (q + (j + 1))) = u at *
          have HUU := Lib.hid hu; clear hu
          have HSN := Lib.hid (show (sall (l.take (q + j))).n = ((q + j : Nat) : Int) from by rw [sall_n _ (HO.out.take_ _), List.length_take, Nat.min_eq_left (by omega)])
          generalize hss : sall (l.take (q + j)) = s at *
          have HSS := Lib.hid hss; clear hss
          generalize ith κ.l j = x at *
          generalize sof x = y at *
          unfold ics scs at CO
          unfold scs at CD
          go_wp2_with fail
          have hxb : Below (w.heap.size + 1) wr (wr.alloc (.cells (ics x) 162)) := (Below.refl _ _).alloc (by omega) _
          have hpx : RawAt 208 (wr.alloc (.cells (ics x) 162)) (w.heap.size + 1) (vcs 0 s ((z : Int) + 1)) := RawAt.below hqr.out ((Below.refl _ _).alloc (Nat.le_refl _) _) hqr.out.lt
          have hx1 : RawAt 162 (wr.alloc (.cells (ics x) 162)) wr.heap.size (ics x) := heap_alloc_new wr _
          change Code.wp _ _ _ _ (wr.alloc (.cells (ics x) 162))
          have hle1 : w.heap.size + 1 ≤ (wr.alloc (.cells (ics x) 162)).heap.size := by simp; omega
          generalize (wr.alloc (.cells (ics x) 162)) = W2 at *
          have HLE := Lib.hid hle1; clear hle1
          generalize wr.heap.size = bx at hx1 ⊢
          have HPX := Lib.hid hpx; clear hpx
          have HX1 := Lib.hid hx1; clear hx1
          have MK := Lib.hid fun (W : World) (hW : Below W2.heap.size W2 W) => (by
            obtain ⟨_, y1, y2, y3, y4, y5, y6, _⟩ := raw_vcs (HPX.out.below hW HPX.out.lt)
            obtain ⟨i0, i1, i2, i3, i4, i5, i6⟩ := raw_ics (HX1.out.below hW HX1.out.lt)
            exact ⟨y1, y2, y3, y4, y5, y6, i0, i1, i2, i3, i4, i5, i6, hW⟩ : W.cell? ⟨w.heap.size + 1, 1, none⟩ = some (.int .i64 s.n) ∧ W.cell? ⟨w.heap.size + 1, 2, none⟩ = some (.int .i64 s.d0) ∧ W.cell? ⟨w.heap.size + 1, 3, none⟩ = some (.int .i64 s.d1) ∧ W.cell? ⟨w.heap.size + 1, 4, none⟩ = some (.int .i64 s.d2) ∧ W.cell? ⟨w.heap.size + 1, 5, none⟩ = some (.int .i64 s.mx) ∧ W.cell? ⟨w.heap.size + 1, 6, none⟩ = some (.int .i64 s.pl) ∧ W.cell? ⟨bx, 0, none⟩ = some (.int .i64 x.tag) ∧ W.cell? ⟨bx, 1, none⟩ = some (.int .i64 x.id) ∧ W.cell? ⟨bx, 2, none⟩ = some (.int .i64 x.d0) ∧ W.cell? ⟨bx, 3, none⟩ = some (.int .i64 x.d1) ∧ W.cell? ⟨bx, 4, none⟩ = some (.int .i64 x.d2) ∧ W.cell? ⟨bx, 5, none⟩ = some (.int .i64 x.mx) ∧ W.cell? ⟨bx, 6, none⟩ = some (.string x.tx) ∧ Below W2.heap.size W2 W)
          have hW2 : Below W2.heap.size W2 W2.drew := (Below.refl _ _).drew
          have hA0 : Below W2.heap.size W2 (W2.alloc (.cells #[.int .i64 0, .int .i64 0, .int .i64 0, .int .i64 0, .int .i64 0, .int .i64 0] 129)).drew := ((Below.refl _ _).alloc (Nat.le_refl _) _).drew
          go_wp2_with fail
          go_region_held3 (fun W => W.cell? ⟨w.heap.size + 1, 1, none⟩ = some (.int .i64 s.n) ∧ W.cell? ⟨w.heap.size + 1, 2, none⟩ = some (.int .i64 s.d0) ∧ W.cell? ⟨w.heap.size + 1, 3, none⟩ = some (.int .i64 s.d1) ∧ W.cell? ⟨w.heap.size + 1, 4, none⟩ = some (.int .i64 s.d2) ∧ W.cell? ⟨w.heap.size + 1, 5, none⟩ = some (.int .i64 s.mx) ∧ W.cell? ⟨w.heap.size + 1, 6, none⟩ = some (.int .i64 s.pl) ∧ W.cell? ⟨bx, 0, none⟩ = some (.int .i64 x.tag) ∧ W.cell? ⟨bx, 1, none⟩ = some (.int .i64 x.id) ∧ W.cell? ⟨bx, 2, none⟩ = some (.int .i64 x.d0) ∧ W.cell? ⟨bx, 3, none⟩ = some (.int .i64 x.d1) ∧ W.cell? ⟨bx, 4, none⟩ = some (.int .i64 x.d2) ∧ W.cell? ⟨bx, 5, none⟩ = some (.int .i64 x.mx) ∧ W.cell? ⟨bx, 6, none⟩ = some (.string x.tx) ∧ Below W2.heap.size W2 W) ((refine MK.out _ ?_; first | (with_reducible exact hW2) | (with_reducible exact Below.refl _ _) | (with_reducible exact hA0) | (with_reducible exact hW2.alloc hW2.size _) | (with_reducible exact b6 hW2 hg2) | (with_reducible exact b6 hW2 (Nat.le_refl _)) | (trace_state; fail)))
            (first
              | (go_at_call 101; ((with_reducible refine (CO.out _).mono ?_); rintro e w2 ⟨rfl, hb2⟩); (try have sb2 := newD (by with_reducible exact hb2)); have hW2 : Below W2.heap.size W2 w2 := (by first | (with_reducible exact hW2.trans (hb2.mono hW2.size)) | (with_reducible exact hA0.trans (hb2.mono hA0.size))); have hg2 : W2.heap.size ≤ w2.heap.size := hW2.size)
              | (go_at_call 100; ((with_reducible refine (CD.out _).mono ?_); rintro e w3 ⟨rfl, hb3⟩); (try have sb3 := RawAt.below sb2 hb3 sb2.lt); (try have sb3 := newA (by with_reducible exact hb3)); (try (obtain ⟨sg0, sg1, sg2, sg3, sg4, sg5⟩ := raw_six sb3; have sf0 := sb3.free 0; have sf1 := sb3.free 1; have sf2 := sb3.free 2; have sf3 := sb3.free 3; have sf4 := sb3.free 4; have sf5 := sb3.free 5)); have hW2 : Below W2.heap.size W2 w3 := (by first | (with_reducible exact hW2.trans (hb3.mono hW2.size)) | (with_reducible exact (hW2.alloc hW2.size _).trans (hb3.mono (hW2.alloc hW2.size _).size)))))
          refine gen_world (K := fun W => Exit.then _ _ _ _ W) (B := W2.heap.size) (w := W2) (t := 129) (b := w3.heap.size) (cs := scs u) (hW2.alloc hW2.size _) (heap_alloc_new w3 _) (fun W5 hf5 hr5 => ?_)
          generalize w3.heap.size = sb at hr5 ⊢
          rotate_left
          refine gen_world (K := fun W => Exit.then _ _ _ _ W) (B := W2.heap.size) (w := W2) (t := 129) (b := w2.heap.size) (cs := scs u) (b6 hW2 hg2) ((RawAt.set_ (RawAt.set_ (RawAt.set_ (RawAt.set_ (RawAt.set_ (RawAt.set_ sb3 _ _) _ _) _ _) _ _) _ _) _ _).of_eq (by simp [scs])) (fun W5 hf5 hr5 => ?_)
          generalize w2.heap.size = sb at hr5 ⊢
          rotate_left
          refine gen_world (K := fun W => Exit.then _ _ _ _ W) (B := W2.heap.size) (w := W2) (t := 129) (b := W2.heap.size) (cs := scs u) (b6 hW2 (Nat.le_refl _)) ((RawAt.set_ (RawAt.set_ (RawAt.set_ (RawAt.set_ (RawAt.set_ (RawAt.set_ sb3 _ _) _ _) _ _) _ _) _ _) _ _).of_eq (by simp [scs])) (fun W5 hf5 hr5 => ?_)
          generalize W2.heap.size = sb at hr5 ⊢
          all_goals
            have hx5 : Below (w.heap.size + 1) W1 W5 := (hbr.trans (hxb.mono (Nat.le_refl _))).trans (hf5.mono HLE.out)
            have hwW5 := hb0.trans (hx5.mono (Nat.le_succ _))
            obtain ⟨s0_, s1_, s2_, s3_, s4_, s5_⟩ := raw_scs hr5
            have hp5 := HPX.out.below hf5 HPX.out.lt
            clear hb2 hb3 hW2
            by_cases hSt : Sto l dim v bi (q + (j + 1))
            · have CF := Lib.hid (far_any u dim v bi bd bv bb W5 hd (HE.out.below hwW5) true ⟨fun _ => by rw [HU.out]; exact hSt, fun _ => rfl⟩)
              unfold scs at CF
              go_wp2_with fail
              refine CF.out.mono ?_
              rintro e w6 ⟨rfl, hb6⟩
              have hf6 := hx5.trans (hb6.mono (by have := hx5.size; have := HS.out; omega))
              have hp6 := hp5.below hb6 hp5.lt
              have r6 := HR.out.below hf6 (Nat.lt_succ_self _)
              obtain ⟨a0, a1, a2, a3, a4, a5, a6, a7⟩ := raw_vcs r6
              have b0 := r6.free 0
              have b1 := r6.free 1
              have b2 := r6.free 2
              have b3 := r6.free 3
              have b4 := r6.free 4
              have b5 := r6.free 5
              have b6_ := r6.free 6
              have b7 := r6.free 7
              obtain ⟨c0, c1, c2, c3, c4, c5, c6, c7⟩ := raw_vcs hp6
              have d0 := hp6.free 0
              have hfin := hb0.trans (hf6.mono (Nat.le_succ _))
              have HFI : Hid (FindIs l dim v bi (q + j)) := hWy.out.find HO.out (Nat.le_add_right _ _) (by rw [HL.out]; omega) hno.out hSt
              clear r6 hp6 hf6
              go_wp2
              rw [Exit.noGoto_ret]
              refine bodyPost_ret (v := .agg #[.int .i64 s.n, .int .i64 s.n, .int .i64 s.d0, .int .i64 s.d1, .int .i64 s.d2, .int .i64 s.mx, .int .i64 s.pl, .int .i64 ((z : Int) + 1)]) (by simp [results, Tryz.results158, go_sem, a0, a1, a2, a3, a4, a5, a6, a7]) rfl ⟨q + j, (z : Int) + 1, HFI.out, by omega, by omega, by rw [HSS.out, vcs, ← HSN.out], ?_⟩
              (repeat' (first | (with_reducible exact hfin) | (with_reducible refine Below.setCell ?_ ?_ _) | (with_reducible refine Below.drew ?_))) <;> first | (simp; done) | (simp; omega)
            · have CF := Lib.hid (far_any u dim v bi bd bv bb W5 hd (HE.out.below hwW5) false ⟨fun h => absurd h (by simp), fun h => absurd (by rw [HU.out] at h; exact h) hSt⟩)
              have HNo : Hid (q + (j + 1) = 0 ∨ ¬ Sto l dim v bi (q + (j + 1))) := .inr hSt
              unfold scs at CF
              go_wp2_with fail
              refine CF.out.mono ?_
              rintro e w6 ⟨rfl, hb6⟩
              have hf6 := hx5.trans (hb6.mono (by have := hx5.size; have := HS.out; omega))
              have hp6 := hp5.below hb6 hp5.lt
              have hs6 := hr5.below hb6 hr5.lt
              obtain ⟨u0, u1, u2, u3, u4, u5_⟩ := raw_scs hs6
              obtain ⟨c0, c1, c2, c3, c4, c5, c6, c7⟩ := raw_vcs hp6
              have d1 := hp6.free 1
              have d2 := hp6.free 2
              have d3 := hp6.free 3
              have d4 := hp6.free 4
              have d5 := hp6.free 5
              have d6 := hp6.free 6
              go_wp2
              go_roundg (gk - 1)
              case measure => omega
              case rel => exact ⟨j + 1, by go_num, by omega, by omega, (((((hf6.setCell (p := ⟨w.heap.size + 1, _, none⟩) (Nat.le_refl _) _).setCell (p := ⟨w.heap.size + 1, _, none⟩) (Nat.le_refl _) _).setCell (p := ⟨w.heap.size + 1, _, none⟩) (Nat.le_refl _) _).setCell (p := ⟨w.heap.size + 1, _, none⟩) (Nat.le_refl _) _).setCell (p := ⟨w.heap.size + 1, _, none⟩) (Nat.le_refl _) _).setCell (p := ⟨w.heap.size + 1, _, none⟩) (Nat.le_refl _) _, by rw [HUU.out]; exact (RawAt.set_ (RawAt.set_ (RawAt.set_ (RawAt.set_ (RawAt.set_ (RawAt.set_ hp6 _ _) _ _) _ _) _ _) _ _) _ _).of_eq (by simp [vcs]), HNo⟩
        · have hjn : j = n := by omega
          subst hjn
          have HSN := Lib.hid (show (sall (l.take (q + j))).n = ((q + j : Nat) : Int) from by rw [sall_n _ (HO.out.take_ _), List.length_take, Nat.min_eq_left (by omega)])
          have hp6 := hqr.out
          have hf6 := hbr
          have hno2 := hno.out
          generalize hss : sall (l.take (q + j)) = s at *
          have HSS := Lib.hid hss; clear hss
          have r6 := HR.out.below hf6 (Nat.lt_succ_self _)
          obtain ⟨a0, a1, a2, a3, a4, a5, a6, a7⟩ := raw_vcs r6
          have b0 := r6.free 0
          have b1 := r6.free 1
          have b2 := r6.free 2
          have b3 := r6.free 3
          have b4 := r6.free 4
          have b5 := r6.free 5
          have b6_ := r6.free 6
          have b7 := r6.free 7
          obtain ⟨c0, c1, c2, c3, c4, c5, c6, c7⟩ := raw_vcs hp6
          have d0 := hp6.free 0
          have hfin := hb0.trans (hf6.mono (Nat.le_succ _))
          have HFI : Hid (FindIs l dim v bi (q + j)) := by have := hWy.out.end_ HO.out (by rw [HL.out]; exact hno2.resolve_left (by omega)); rwa [HL.out] at this
          clear r6 hp6 hf6
          go_wp2
          rw [Exit.noGoto_ret]
          refine bodyPost_ret (v := .agg #[.int .i64 s.n, .int .i64 s.n, .int .i64 s.d0, .int .i64 s.d1, .int .i64 s.d2, .int .i64 s.mx, .int .i64 s.pl, .int .i64 ((z : Int) + 1)]) (by simp [results, Tryz.results158, go_sem, a0, a1, a2, a3, a4, a5, a6, a7]) rfl ⟨q + j, (z : Int) + 1, HFI.out, by omega, by omega, by rw [HSS.out, vcs, ← HSN.out], ?_⟩
          (repeat' (first | (with_reducible exact hfin) | (with_reducible refine Below.setCell ?_ ?_ _) | (with_reducible refine Below.drew ?_))) <;> first | (simp; done) | (simp; omega)
    | 2, hN =>
      obtain ⟨b, A, c, ks, qn, rn⟩ := hN.out
      have t1 := ne_b
      have t2 := ta_bb
      have t3 := me_l
      have hbz := hb0.trans (hfz.mono (Nat.le_succ _))
      have e0 := (raw_bcs (qn.raw.below hbz qn.raw.lt)).1
      rw [qn.v]
      have hlen := qn.len
      have hn8 := qn.most
      have hpos := qn.pos
      have HA := Lib.hid qn.kids
      have hml := hWy.out.le
      have HL := Lib.hid hlen
      have HFl := Lib.hid qn.fl
      have HRn := Lib.hid rn
      have HWk : Hid (Way l (fl ks) dim v bi q) := by rw [qn.fl]; exact hWy.out
      rw [← qn.fl] at hml
      have hzn : 1 ≤ (fl ks).length := by
        have h3 := hN.out.size
        have h5 := p4_pos (2 - 1)
        have h6 := Nat.mul_le_mul hN.out.cnt.1 h5
        rw [qn.fl]
        omega
      unfold brv at t1 t2 ⊢
      go_wp2_with fail
      clear qn rn hN hlen e0 hWy
      generalize κ.c = n at *
      obtain ⟨gO, hgO⟩ : ∃ g, g = gk := ⟨gk, rfl⟩
      subst hgO
      refine gen_world (K := fun W => Code.wp _ _ _ _ W) (B := w.heap.size + 1) (w := W1) (t := 208) (b := w.heap.size + 1) (cs := vcs 0 (sall (l.take q)) ((z : Int) + 1)) hfz HQ2.out (fun W2 hf2 hr2 => ?_)
      have HR2 := Lib.hid hr2
      clear hr2 HQ2 hfz hbz p0 p1 p2 p3 p4_ p5 p6 p7 pf7
      go_loopg [29] n (fun g iv wr => ∃ j : Nat, iv = .int .i64 j ∧ j ≤ n ∧ n - j ≤ g ∧ Below (w.heap.size + 1) W1 wr ∧ Hid (RawAt 208 wr (w.heap.size + 1) (vcs 0 (sall (l.take (q + sz ks j))) ((z : Int) + 1))) ∧ Hid (q + sz ks j = 0 ∨ ¬ Sto l dim v bi (q + sz ks j)))
      case atStart => exact ⟨0, rfl, by omega, by omega, hf2, HR2, HWk.out.no⟩
      case round =>
        obtain ⟨j, rfl, g1, g2, hbr, hqr, hno⟩ := hrel
        have hbwr := hb0.trans (hbr.mono (Nat.le_succ _))
        have hszr : w.heap.size + 2 ≤ wr.heap.size := by have := HS.out; have := hbr.size; omega
        by_cases hlt : j < n
        · have hm : j < ks.length := by rw [HL.out]; exact hlt
          obtain ⟨bA, off, rfl, hbA, hc⟩ := HA.out (by rw [kvs_length]; omega)
          have eK := ((old_cells hbwr).1 _ _ hbA).trans (hc j (by rw [kvs_length]; exact hm))
          rw [vth_kvs ks hm] at eK
          clear hc
          have hKN := (HRn.out _ (kth_mem ks hm)).1
          have hKok := hKN.ok
          have hes := sz_succ ks hm
          have hel := sz_le ks (j + 1)
          have hst := sall_at HWk.out HO.out hm hKok
          have hok := sall_ok _ (l.take (q + sz ks j)) rfl (HO.out.take_ _)
          have hoi := sall_ok _ (kth ks j).l rfl hKok
          have hlj : (l.take (q + sz ks j)).length ≤ 1000000 := by rw [List.length_take]; omega
          have CD := Lib.hid fun (W : World) => iadd_any _ _ _ _ _ hok hoi (by omega) (by omega) hst.symm W
          have HU := Lib.hid (show ssz (sall (l.take (q + sz ks (j + 1)))) dim = sdim (l.take (q + sz ks (j + 1))) dim from ssz_sdim _ (HO.out.take_ _) dim)
          have HSN := Lib.hid (show (sall (l.take (q + sz ks j))).n = ((q + sz ks j : Nat) : Int) from by rw [sall_n _ (HO.out.take_ _), List.length_take, Nat.min_eq_left (by omega)])
          have HKN := Lib.hid hKN
          obtain ⟨bk, Ak, ck, qk⟩ := hKN
          have CS := Lib.hid fun (W : World) (hW : Below w.heap.size w W) => lsum_any bk (kth ks j).c ck Ak _ W (qk.raw.below hW qk.raw.lt)
          have HKv := Lib.hid qk.v
          rw [qk.v] at eK
          clear hst hok hoi hlj qk hKok
          generalize hu : sall (l.take (q + sz ks (j + 1))) = u at *
          have HUU := Lib.hid hu; clear hu
          generalize hss : sall (l.take (q + sz ks j)) = s at *
          have HSS := Lib.hid hss; clear hss
          generalize sall (kth ks j).l = y at *
          unfold scs at CS CD
          unfold lfv at eK
          have HPX := Lib.hid hqr.out
          have MK := Lib.hid fun (W : World) (hW : Below wr.heap.size wr W) => (by
            obtain ⟨_, y1, y2, y3, y4, y5, y6, _⟩ := raw_vcs (HPX.out.below hW HPX.out.lt)
            exact ⟨y1, y2, y3, y4, y5, y6, hW⟩ : W.cell? ⟨w.heap.size + 1, 1, none⟩ = some (.int .i64 s.n) ∧ W.cell? ⟨w.heap.size + 1, 2, none⟩ = some (.int .i64 s.d0) ∧ W.cell? ⟨w.heap.size + 1, 3, none⟩ = some (.int .i64 s.d1) ∧ W.cell? ⟨w.heap.size + 1, 4, none⟩ = some (.int .i64 s.d2) ∧ W.cell? ⟨w.heap.size + 1, 5, none⟩ = some (.int .i64 s.mx) ∧ W.cell? ⟨w.heap.size + 1, 6, none⟩ = some (.int .i64 s.pl) ∧ Below wr.heap.size wr W)
          have hW2 : Below wr.heap.size wr wr.drew := (Below.refl _ _).drew
          have hA0 : Below wr.heap.size wr (wr.alloc (.cells #[.int .i64 0, .int .i64 0, .int .i64 0, .int .i64 0, .int .i64 0, .int .i64 0] 129)).drew := ((Below.refl _ _).alloc (Nat.le_refl _) _).drew
          go_wp2_with fail
          go_region_held3 (fun W => W.cell? ⟨w.heap.size + 1, 1, none⟩ = some (.int .i64 s.n) ∧ W.cell? ⟨w.heap.size + 1, 2, none⟩ = some (.int .i64 s.d0) ∧ W.cell? ⟨w.heap.size + 1, 3, none⟩ = some (.int .i64 s.d1) ∧ W.cell? ⟨w.heap.size + 1, 4, none⟩ = some (.int .i64 s.d2) ∧ W.cell? ⟨w.heap.size + 1, 5, none⟩ = some (.int .i64 s.mx) ∧ W.cell? ⟨w.heap.size + 1, 6, none⟩ = some (.int .i64 s.pl) ∧ Below wr.heap.size wr W) ((refine MK.out _ ?_; first | (with_reducible exact hW2) | (with_reducible exact Below.refl _ _) | (with_reducible exact hA0) | (with_reducible exact hW2.alloc hW2.size _) | (with_reducible exact b6 hW2 hg2) | (with_reducible exact b6 hW2 (Nat.le_refl _)) | (trace_state; fail)))
            (first
              | (go_at_call 200; ((with_reducible refine (CS.out _ (by first | (with_reducible exact hbwr.drew) | (with_reducible exact (hbwr.alloc hbwr.size _).drew))).mono ?_); rintro e w2 ⟨rfl, hb2⟩); (try have sb2 := newD (by with_reducible exact hb2)); have hW2 : Below wr.heap.size wr w2 := (by first | (with_reducible exact hW2.trans (hb2.mono hW2.size)) | (with_reducible exact hA0.trans (hb2.mono hA0.size))); have hg2 : wr.heap.size ≤ w2.heap.size := hW2.size)
              | (go_at_call 100; ((with_reducible refine (CD.out _).mono ?_); rintro e w3 ⟨rfl, hb3⟩); (try have sb3 := RawAt.below sb2 hb3 sb2.lt); (try have sb3 := newA (by with_reducible exact hb3)); (try (obtain ⟨sg0, sg1, sg2, sg3, sg4, sg5⟩ := raw_six sb3; have sf0 := sb3.free 0; have sf1 := sb3.free 1; have sf2 := sb3.free 2; have sf3 := sb3.free 3; have sf4 := sb3.free 4; have sf5 := sb3.free 5)); have hW2 : Below wr.heap.size wr w3 := (by first | (with_reducible exact hW2.trans (hb3.mono hW2.size)) | (with_reducible exact (hW2.alloc hW2.size _).trans (hb3.mono (hW2.alloc hW2.size _).size)))))
          refine gen_world (K := fun W => Exit.then _ _ _ _ W) (B := wr.heap.size) (w := wr) (t := 129) (b := w3.heap.size) (cs := scs u) (hW2.alloc hW2.size _) (heap_alloc_new w3 _) (fun W5 hf5 hr5 => ?_)
          generalize w3.heap.size = sb at hr5 ⊢
          rotate_left
          refine gen_world (K := fun W => Exit.then _ _ _ _ W) (B := wr.heap.size) (w := wr) (t := 129) (b := w2.heap.size) (cs := scs u) (b6 hW2 hg2) ((RawAt.set_ (RawAt.set_ (RawAt.set_ (RawAt.set_ (RawAt.set_ (RawAt.set_ sb3 _ _) _ _) _ _) _ _) _ _) _ _).of_eq (by simp [scs])) (fun W5 hf5 hr5 => ?_)
          generalize w2.heap.size = sb at hr5 ⊢
          rotate_left
          refine gen_world (K := fun W => Exit.then _ _ _ _ W) (B := wr.heap.size) (w := wr) (t := 129) (b := wr.heap.size) (cs := scs u) (b6 hW2 (Nat.le_refl _)) ((RawAt.set_ (RawAt.set_ (RawAt.set_ (RawAt.set_ (RawAt.set_ (RawAt.set_ sb3 _ _) _ _) _ _) _ _) _ _) _ _).of_eq (by simp [scs])) (fun W5 hf5 hr5 => ?_)
          generalize wr.heap.size = sb at hr5 ⊢
          all_goals
            have hx5 : Below (w.heap.size + 1) W1 W5 := hbr.trans (hf5.mono (by omega))
            have hwW5 := hb0.trans (hx5.mono (Nat.le_succ _))
            obtain ⟨s0_, s1_, s2_, s3_, s4_, s5_⟩ := raw_scs hr5
            have hp5 := HPX.out.below hf5 HPX.out.lt
            clear hb2 hb3 hW2
            by_cases hSt : Sto l dim v bi (q + sz ks (j + 1))
            · have CF := Lib.hid (far_any u dim v bi bd bv bb W5 hd (HE.out.below hwW5) true ⟨fun _ => by rw [HU.out]; exact hSt, fun _ => rfl⟩)
              have HWn := Lib.hid (HWk.out.kid hm hno.out hSt)
              unfold scs at CF
              go_wp2_with fail
              refine CF.out.mono ?_
              rintro e w6 ⟨rfl, hb6⟩
              have hf6 := hx5.trans (hb6.mono (by have := hx5.size; have := HS.out; omega))
              have hp6 := Lib.hid (hp5.below hb6 hp5.lt)
              go_wp2_with fail
              go_roundg (gO - 1)
              case measure => omega
              case rel => exact ⟨kth ks j, q + sz ks j, 1, z + 1, HKv.out.symm, by omega, by omega, hf6, by rw [HSS.out]; exact hp6, HKN, HWn⟩
            · have CF := Lib.hid (far_any u dim v bi bd bv bb W5 hd (HE.out.below hwW5) false ⟨fun h => absurd h (by simp), fun h => absurd (by rw [HU.out] at h; exact h) hSt⟩)
              have HNo : Hid (q + sz ks (j + 1) = 0 ∨ ¬ Sto l dim v bi (q + sz ks (j + 1))) := .inr hSt
              unfold scs at CF
              go_wp2_with fail
              refine CF.out.mono ?_
              rintro e w6 ⟨rfl, hb6⟩
              have hf6 := hx5.trans (hb6.mono (by have := hx5.size; have := HS.out; omega))
              have hp6 := hp5.below hb6 hp5.lt
              have hs6 := hr5.below hb6 hr5.lt
              obtain ⟨u0, u1, u2, u3, u4, u5_⟩ := raw_scs hs6
              obtain ⟨c0, c1, c2, c3, c4, c5, c6, c7⟩ := raw_vcs hp6
              have d1 := hp6.free 1
              have d2 := hp6.free 2
              have d3 := hp6.free 3
              have d4 := hp6.free 4
              have d5 := hp6.free 5
              have d6 := hp6.free 6
              go_wp2
              go_roundg (gk - 1)
              case measure => omega
              case rel => exact ⟨j + 1, by go_num, by omega, by omega, (((((hf6.setCell (p := ⟨w.heap.size + 1, _, none⟩) (Nat.le_refl _) _).setCell (p := ⟨w.heap.size + 1, _, none⟩) (Nat.le_refl _) _).setCell (p := ⟨w.heap.size + 1, _, none⟩) (Nat.le_refl _) _).setCell (p := ⟨w.heap.size + 1, _, none⟩) (Nat.le_refl _) _).setCell (p := ⟨w.heap.size + 1, _, none⟩) (Nat.le_refl _) _).setCell (p := ⟨w.heap.size + 1, _, none⟩) (Nat.le_refl _) _, by rw [HUU.out]; exact (RawAt.set_ (RawAt.set_ (RawAt.set_ (RawAt.set_ (RawAt.set_ (RawAt.set_ hp6 _ _) _ _) _ _) _ _) _ _) _ _).of_eq (by simp [vcs]), HNo⟩
        · have hjn : j = n := by omega
          subst hjn
          have hsj : sz ks j = (fl ks).length := by unfold sz; rw [List.take_of_length_le (by rw [HL.out]; omega)]
          have hp6 := hqr.out
          have hf6 := hbr
          have hno2 := hno.out
          rw [hsj] at hp6 hno2
          have HSN := Lib.hid (show (sall (l.take (q + (fl ks).length))).n = ((q + (fl ks).length : Nat) : Int) from by rw [sall_n _ (HO.out.take_ _), List.length_take, Nat.min_eq_left (by omega)])
          generalize hss : sall (l.take (q + (fl ks).length)) = s at *
          have HSS := Lib.hid hss; clear hss
          have r6 := HR.out.below hf6 (Nat.lt_succ_self _)
          obtain ⟨a0, a1, a2, a3, a4, a5, a6, a7⟩ := raw_vcs r6
          have b0 := r6.free 0
          have b1 := r6.free 1
          have b2 := r6.free 2
          have b3 := r6.free 3
          have b4 := r6.free 4
          have b5 := r6.free 5
          have b6_ := r6.free 6
          have b7 := r6.free 7
          obtain ⟨c0, c1, c2, c3, c4, c5, c6, c7⟩ := raw_vcs hp6
          have d0 := hp6.free 0
          have hfin := hb0.trans (hf6.mono (Nat.le_succ _))
          have HFI : Hid (FindIs l dim v bi (q + (fl ks).length)) := HWk.out.end_ HO.out (hno2.resolve_left (by omega))
          clear r6 hp6 hf6
          go_wp2
          rw [Exit.noGoto_ret]
          refine bodyPost_ret (v := .agg #[.int .i64 s.n, .int .i64 s.n, .int .i64 s.d0, .int .i64 s.d1, .int .i64 s.d2, .int .i64 s.mx, .int .i64 s.pl, .int .i64 ((z : Int) + 1)]) (by simp [results, Tryz.results158, go_sem, a0, a1, a2, a3, a4, a5, a6, a7]) rfl ⟨q + (fl ks).length, (z : Int) + 1, HFI.out, by omega, by omega, by rw [HSS.out, vcs, ← HSN.out], ?_⟩
          (repeat' (first | (with_reducible exact hfin) | (with_reducible refine Below.setCell ?_ ?_ _) | (with_reducible refine Below.drew ?_))) <;> first | (simp; done) | (simp; omega)
    | h + 3, hN =>
      obtain ⟨b, A, c, ks, qn, rn⟩ := hN.out
      have t1 := ne_b
      have t2 := ta_bb
      have t3 := me_b
      have hbz := hb0.trans (hfz.mono (Nat.le_succ _))
      have e0 := (raw_bcs (qn.raw.below hbz qn.raw.lt)).1
      rw [qn.v]
      have hlen := qn.len
      have hn8 := qn.most
      have hpos := qn.pos
      have HA := Lib.hid qn.kids
      have hml := hWy.out.le
      have HL := Lib.hid hlen
      have HFl := Lib.hid qn.fl
      have HRn := Lib.hid rn
      have HWk : Hid (Way l (fl ks) dim v bi q) := by rw [qn.fl]; exact hWy.out
      rw [← qn.fl] at hml
      have hzn : 1 ≤ (fl ks).length := by
        have h3 := hN.out.size
        have h5 := p4_pos (h + 3 - 1)
        have h6 := Nat.mul_le_mul hN.out.cnt.1 h5
        rw [qn.fl]
        omega
      unfold brv at t1 t2 ⊢
      go_wp2_with fail
      clear qn rn hN hlen e0 hWy
      generalize κ.c = n at *
      obtain ⟨gO, hgO⟩ : ∃ g, g = gk := ⟨gk, rfl⟩
      subst hgO
      refine gen_world (K := fun W => Code.wp _ _ _ _ W) (B := w.heap.size + 1) (w := W1) (t := 208) (b := w.heap.size + 1) (cs := vcs 0 (sall (l.take q)) ((z : Int) + 1)) hfz HQ2.out (fun W2 hf2 hr2 => ?_)
      have HR2 := Lib.hid hr2
      clear hr2 HQ2 hfz hbz p0 p1 p2 p3 p4_ p5 p6 p7 pf7
      go_loopg [29] n (fun g iv wr => ∃ j : Nat, iv = .int .i64 j ∧ j ≤ n ∧ n - j ≤ g ∧ Below (w.heap.size + 1) W1 wr ∧ Hid (RawAt 208 wr (w.heap.size + 1) (vcs 0 (sall (l.take (q + sz ks j))) ((z : Int) + 1))) ∧ Hid (q + sz ks j = 0 ∨ ¬ Sto l dim v bi (q + sz ks j)))
      case atStart => exact ⟨0, rfl, by omega, by omega, hf2, HR2, HWk.out.no⟩
      case round =>
        obtain ⟨j, rfl, g1, g2, hbr, hqr, hno⟩ := hrel
        have hbwr := hb0.trans (hbr.mono (Nat.le_succ _))
        have hszr : w.heap.size + 2 ≤ wr.heap.size := by have := HS.out; have := hbr.size; omega
        by_cases hlt : j < n
        · have hm : j < ks.length := by rw [HL.out]; exact hlt
          obtain ⟨bA, off, rfl, hbA, hc⟩ := HA.out (by rw [kvs_length]; omega)
          have eK := ((old_cells hbwr).1 _ _ hbA).trans (hc j (by rw [kvs_length]; exact hm))
          rw [vth_kvs ks hm] at eK
          clear hc
          have hKN := (HRn.out _ (kth_mem ks hm)).1
          have hKok := hKN.ok
          have hes := sz_succ ks hm
          have hel := sz_le ks (j + 1)
          have hst := sall_at HWk.out HO.out hm hKok
          have hok := sall_ok _ (l.take (q + sz ks j)) rfl (HO.out.take_ _)
          have hoi := sall_ok _ (kth ks j).l rfl hKok
          have hlj : (l.take (q + sz ks j)).length ≤ 1000000 := by rw [List.length_take]; omega
          have CD := Lib.hid fun (W : World) => iadd_any _ _ _ _ _ hok hoi (by omega) (by omega) hst.symm W
          have HU := Lib.hid (show ssz (sall (l.take (q + sz ks (j + 1)))) dim = sdim (l.take (q + sz ks (j + 1))) dim from ssz_sdim _ (HO.out.take_ _) dim)
          have HSN := Lib.hid (show (sall (l.take (q + sz ks j))).n = ((q + sz ks j : Nat) : Int) from by rw [sall_n _ (HO.out.take_ _), List.length_take, Nat.min_eq_left (by omega)])
          have HKN := Lib.hid hKN
          obtain ⟨bk, Ak, ck, kk, qk, rk⟩ := hKN
          have CS := Lib.hid fun (W : World) (hW : Below w.heap.size w W) => bsum_any bk (kth ks j).c ck (h + 2) Ak _ W (qk.raw.below hW qk.raw.lt)
          have HKv := Lib.hid qk.v
          rw [qk.v] at eK
          clear hst hok hoi hlj qk rk hKok
          generalize hu : sall (l.take (q + sz ks (j + 1))) = u at *
          have HUU := Lib.hid hu; clear hu
          generalize hss : sall (l.take (q + sz ks j)) = s at *
          have HSS := Lib.hid hss; clear hss
          generalize sall (kth ks j).l = y at *
          unfold scs at CS CD
          unfold brv at eK
          have HPX := Lib.hid hqr.out
          have MK := Lib.hid fun (W : World) (hW : Below wr.heap.size wr W) => (by
            obtain ⟨_, y1, y2, y3, y4, y5, y6, _⟩ := raw_vcs (HPX.out.below hW HPX.out.lt)
            exact ⟨y1, y2, y3, y4, y5, y6, hW⟩ : W.cell? ⟨w.heap.size + 1, 1, none⟩ = some (.int .i64 s.n) ∧ W.cell? ⟨w.heap.size + 1, 2, none⟩ = some (.int .i64 s.d0) ∧ W.cell? ⟨w.heap.size + 1, 3, none⟩ = some (.int .i64 s.d1) ∧ W.cell? ⟨w.heap.size + 1, 4, none⟩ = some (.int .i64 s.d2) ∧ W.cell? ⟨w.heap.size + 1, 5, none⟩ = some (.int .i64 s.mx) ∧ W.cell? ⟨w.heap.size + 1, 6, none⟩ = some (.int .i64 s.pl) ∧ Below wr.heap.size wr W)
          have hW2 : Below wr.heap.size wr wr.drew := (Below.refl _ _).drew
          have hA0 : Below wr.heap.size wr (wr.alloc (.cells #[.int .i64 0, .int .i64 0, .int .i64 0, .int .i64 0, .int .i64 0, .int .i64 0] 129)).drew := ((Below.refl _ _).alloc (Nat.le_refl _) _).drew
          go_wp2_with fail
          go_region_held3 (fun W => W.cell? ⟨w.heap.size + 1, 1, none⟩ = some (.int .i64 s.n) ∧ W.cell? ⟨w.heap.size + 1, 2, none⟩ = some (.int .i64 s.d0) ∧ W.cell? ⟨w.heap.size + 1, 3, none⟩ = some (.int .i64 s.d1) ∧ W.cell? ⟨w.heap.size + 1, 4, none⟩ = some (.int .i64 s.d2) ∧ W.cell? ⟨w.heap.size + 1, 5, none⟩ = some (.int .i64 s.mx) ∧ W.cell? ⟨w.heap.size + 1, 6, none⟩ = some (.int .i64 s.pl) ∧ Below wr.heap.size wr W) ((refine MK.out _ ?_; first | (with_reducible exact hW2) | (with_reducible exact Below.refl _ _) | (with_reducible exact hA0) | (with_reducible exact hW2.alloc hW2.size _) | (with_reducible exact b6 hW2 hg2) | (with_reducible exact b6 hW2 (Nat.le_refl _)) | (trace_state; fail)))
            (first
              | (go_at_call 201; ((with_reducible refine (CS.out _ (by first | (with_reducible exact hbwr.drew) | (with_reducible exact (hbwr.alloc hbwr.size _).drew))).mono ?_); rintro e w2 ⟨rfl, hb2⟩); (try have sb2 := newD (by with_reducible exact hb2)); have hW2 : Below wr.heap.size wr w2 := (by first | (with_reducible exact hW2.trans (hb2.mono hW2.size)) | (with_reducible exact hA0.trans (hb2.mono hA0.size))); have hg2 : wr.heap.size ≤ w2.heap.size := hW2.size)
              | (go_at_call 100; ((with_reducible refine (CD.out _).mono ?_); rintro e w3 ⟨rfl, hb3⟩); (try have sb3 := RawAt.below sb2 hb3 sb2.lt); (try have sb3 := newA (by with_reducible exact hb3)); (try (obtain ⟨sg0, sg1, sg2, sg3, sg4, sg5⟩ := raw_six sb3; have sf0 := sb3.free 0; have sf1 := sb3.free 1; have sf2 := sb3.free 2; have sf3 := sb3.free 3; have sf4 := sb3.free 4; have sf5 := sb3.free 5)); have hW2 : Below wr.heap.size wr w3 := (by first | (with_reducible exact hW2.trans (hb3.mono hW2.size)) | (with_reducible exact (hW2.alloc hW2.size _).trans (hb3.mono (hW2.alloc hW2.size _).size)))))
          refine gen_world (K := fun W => Exit.then _ _ _ _ W) (B := wr.heap.size) (w := wr) (t := 129) (b := w3.heap.size) (cs := scs u) (hW2.alloc hW2.size _) (heap_alloc_new w3 _) (fun W5 hf5 hr5 => ?_)
          generalize w3.heap.size = sb at hr5 ⊢
          rotate_left
          refine gen_world (K := fun W => Exit.then _ _ _ _ W) (B := wr.heap.size) (w := wr) (t := 129) (b := w2.heap.size) (cs := scs u) (b6 hW2 hg2) ((RawAt.set_ (RawAt.set_ (RawAt.set_ (RawAt.set_ (RawAt.set_ (RawAt.set_ sb3 _ _) _ _) _ _) _ _) _ _) _ _).of_eq (by simp [scs])) (fun W5 hf5 hr5 => ?_)
          generalize w2.heap.size = sb at hr5 ⊢
          rotate_left
          refine gen_world (K := fun W => Exit.then _ _ _ _ W) (B := wr.heap.size) (w := wr) (t := 129) (b := wr.heap.size) (cs := scs u) (b6 hW2 (Nat.le_refl _)) ((RawAt.set_ (RawAt.set_ (RawAt.set_ (RawAt.set_ (RawAt.set_ (RawAt.set_ sb3 _ _) _ _) _ _) _ _) _ _) _ _).of_eq (by simp [scs])) (fun W5 hf5 hr5 => ?_)
          generalize wr.heap.size = sb at hr5 ⊢
          all_goals
            have hx5 : Below (w.heap.size + 1) W1 W5 := hbr.trans (hf5.mono (by omega))
            have hwW5 := hb0.trans (hx5.mono (Nat.le_succ _))
            obtain ⟨s0_, s1_, s2_, s3_, s4_, s5_⟩ := raw_scs hr5
            have hp5 := HPX.out.below hf5 HPX.out.lt
            clear hb2 hb3 hW2
            by_cases hSt : Sto l dim v bi (q + sz ks (j + 1))
            · have CF := Lib.hid (far_any u dim v bi bd bv bb W5 hd (HE.out.below hwW5) true ⟨fun _ => by rw [HU.out]; exact hSt, fun _ => rfl⟩)
              have HWn := Lib.hid (HWk.out.kid hm hno.out hSt)
              unfold scs at CF
              go_wp2_with fail
              refine CF.out.mono ?_
              rintro e w6 ⟨rfl, hb6⟩
              have hf6 := hx5.trans (hb6.mono (by have := hx5.size; have := HS.out; omega))
              have hp6 := Lib.hid (hp5.below hb6 hp5.lt)
              go_wp2_with fail
              go_roundg (gO - 1)
              case measure => omega
              case rel => exact ⟨kth ks j, q + sz ks j, h + 2, z + 1, HKv.out.symm, by omega, by omega, hf6, by rw [HSS.out]; exact hp6, HKN, HWn⟩
            · have CF := Lib.hid (far_any u dim v bi bd bv bb W5 hd (HE.out.below hwW5) false ⟨fun h => absurd h (by simp), fun h => absurd (by rw [HU.out] at h; exact h) hSt⟩)
              have HNo : Hid (q + sz ks (j + 1) = 0 ∨ ¬ Sto l dim v bi (q + sz ks (j + 1))) := .inr hSt
              unfold scs at CF
              go_wp2_with fail
              refine CF.out.mono ?_
              rintro e w6 ⟨rfl, hb6⟩
              have hf6 := hx5.trans (hb6.mono (by have := hx5.size; have := HS.out; omega))
              have hp6 := hp5.below hb6 hp5.lt
              have hs6 := hr5.below hb6 hr5.lt
              obtain ⟨u0, u1, u2, u3, u4, u5_⟩ := raw_scs hs6
              obtain ⟨c0, c1, c2, c3, c4, c5, c6, c7⟩ := raw_vcs hp6
              have d1 := hp6.free 1
              have d2 := hp6.free 2
              have d3 := hp6.free 3
              have d4 := hp6.free 4
              have d5 := hp6.free 5
              have d6 := hp6.free 6
              go_wp2
              go_roundg (gk - 1)
              case measure => omega
              case rel => exact ⟨j + 1, by go_num, by omega, by omega, (((((hf6.setCell (p := ⟨w.heap.size + 1, _, none⟩) (Nat.le_refl _) _).setCell (p := ⟨w.heap.size + 1, _, none⟩) (Nat.le_refl _) _).setCell (p := ⟨w.heap.size + 1, _, none⟩) (Nat.le_refl _) _).setCell (p := ⟨w.heap.size + 1, _, none⟩) (Nat.le_refl _) _).setCell (p := ⟨w.heap.size + 1, _, none⟩) (Nat.le_refl _) _).setCell (p := ⟨w.heap.size + 1, _, none⟩) (Nat.le_refl _) _, by rw [HUU.out]; exact (RawAt.set_ (RawAt.set_ (RawAt.set_ (RawAt.set_ (RawAt.set_ (RawAt.set_ hp6 _ _) _ _) _ _) _ _) _ _) _ _).of_eq (by simp [vcs]), HNo⟩
        · have hjn : j = n := by omega
          subst hjn
          have hsj : sz ks j = (fl ks).length := by unfold sz; rw [List.take_of_length_le (by rw [HL.out]; omega)]
          have hp6 := hqr.out
          have hf6 := hbr
          have hno2 := hno.out
          rw [hsj] at hp6 hno2
          have HSN := Lib.hid (show (sall (l.take (q + (fl ks).length))).n = ((q + (fl ks).length : Nat) : Int) from by rw [sall_n _ (HO.out.take_ _), List.length_take, Nat.min_eq_left (by omega)])
          generalize hss : sall (l.take (q + (fl ks).length)) = s at *
          have HSS := Lib.hid hss; clear hss
          have r6 := HR.out.below hf6 (Nat.lt_succ_self _)
          obtain ⟨a0, a1, a2, a3, a4, a5, a6, a7⟩ := raw_vcs r6
          have b0 := r6.free 0
          have b1 := r6.free 1
          have b2 := r6.free 2
          have b3 := r6.free 3
          have b4 := r6.free 4
          have b5 := r6.free 5
          have b6_ := r6.free 6
          have b7 := r6.free 7
          obtain ⟨c0, c1, c2, c3, c4, c5, c6, c7⟩ := raw_vcs hp6
          have d0 := hp6.free 0
          have hfin := hb0.trans (hf6.mono (Nat.le_succ _))
          have HFI : Hid (FindIs l dim v bi (q + (fl ks).length)) := HWk.out.end_ HO.out (hno2.resolve_left (by omega))
          clear r6 hp6 hf6
          go_wp2
          rw [Exit.noGoto_ret]
          refine bodyPost_ret (v := .agg #[.int .i64 s.n, .int .i64 s.n, .int .i64 s.d0, .int .i64 s.d1, .int .i64 s.d2, .int .i64 s.mx, .int .i64 s.pl, .int .i64 ((z : Int) + 1)]) (by simp [results, Tryz.results158, go_sem, a0, a1, a2, a3, a4, a5, a6, a7]) rfl ⟨q + (fl ks).length, (z : Int) + 1, HFI.out, by omega, by omega, by rw [HSS.out, vcs, ← HSN.out], ?_⟩
          (repeat' (first | (with_reducible exact hfin) | (with_reducible refine Below.setCell ?_ ?_ _) | (with_reducible refine Below.drew ?_))) <;> first | (simp; done) | (simp; omega)
set_option maxHeartbeats 4000000 in
set_option maxRecDepth 100000 in
theorem find_nil (bd bv bb : Nat) (w : World) :
    Calls Tryz.prog 158 #[.nilIface, .func (.func 157) #[] #[.pointer (some ⟨bd, 0, none⟩), .pointer (some ⟨bv, 0, none⟩), .pointer (some ⟨bb, 0, none⟩)]] w fun e w' => e = .returned (.agg (vcs 0 s0 0)) ∧ Below w.heap.size w w' := by
  have t1 := ne_n
  go_enter Tryz.func158, Tryz.ntmps158
  go_wp2
  go_step3
  go_wp2
  go_step3
  go_wp2
  obtain ⟨hr0, hq0, hb0, hs0⟩ := new2 w 208 208 (vcs 0 s0 0) (vcs 0 s0 0)
  change Code.wp _ _ _ _ ((w.alloc (.cells (vcs 0 s0 0) 208)).alloc (.cells (vcs 0 s0 0) 208))
  generalize ((w.alloc (.cells (vcs 0 s0 0) 208)).alloc (.cells (vcs 0 s0 0) 208)) = W1 at *
  obtain ⟨a0, a1, a2, a3, a4, a5, a6, a7⟩ := raw_vcs hr0
  have b0 := hr0.free 0
  have b1 := hr0.free 1
  have b2 := hr0.free 2
  have b3 := hr0.free 3
  have b4 := hr0.free 4
  have b5 := hr0.free 5
  have b6_ := hr0.free 6
  have b7 := hr0.free 7
  obtain ⟨c0, c1, c2, c3, c4, c5, c6, c7⟩ := raw_vcs hq0
  have d0 := hq0.free 0
  clear hr0 hq0
  unfold s0 at *
  go_loopg [0] 1 (fun g nv wr => nv = .nilIface ∧ wr = W1)
  case atStart => exact ⟨rfl, rfl⟩
  case round =>
    obtain ⟨rfl, rfl⟩ := hrel
    go_wp2
    refine bodyPost_ret (v := .agg #[.int .i64 0, .int .i64 0, .int .i64 0, .int .i64 0, .int .i64 0, .int .i64 0, .int .i64 0, .int .i64 0]) (by simp [results, Tryz.results158, go_sem, a0, a1, a2, a3, a4, a5, a6, a7]) rfl ⟨rfl, ?_⟩
    (repeat' (first | (with_reducible exact hb0) | (with_reducible refine Below.setCell ?_ ?_ _) | (with_reducible refine Below.drew ?_))) <;> first | (simp; done) | (simp; omega)
end Go.Proofs.YtpnjokhhbjpciaaGreatDoor
