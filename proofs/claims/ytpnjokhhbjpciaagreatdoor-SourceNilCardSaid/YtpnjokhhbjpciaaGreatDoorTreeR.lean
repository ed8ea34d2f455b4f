/- A tree's row cut. Methods of trees: Replace. -/
import Derived.Test.YtpnjokhhbjpciaaGreatDoorTreeKQ
import Derived.Test.YtpnjokhhbjpciaaGreatDoorTreeT
import Derived.Test.YtpnjokhhbjpciaaGreatDoorCutA
import Derived.Deep.RegionHeld3
namespace Go.Proofs.YtpnjokhhbjpciaaGreatDoor
open Go.RowKit
theorem Okl.slice {l : List I7} (h : Okl l) (x n : Nat) : Okl ((l.drop x).take n) := fun i hi => h i (List.mem_of_mem_drop (List.mem_of_mem_take hi))
theorem top_cut {v : Value} {l : List I7} {h : Nat} {w : World} (ht : Top w v l h) (hz : l.length ≤ 30000) (x y : Nat) (hx : x ≤ y) (hy : y ≤ l.length) (W : World) (hW : Below w.heap.size w W) :
    Calls Tryz.prog 110 #[v, .int .i64 x, .int .i64 y] W fun e w' => ∃ v i, e = .returned v ∧ Top w' v ((l.drop x).take (y - x)) i ∧ Below W.heap.size W w' := by
  rcases ht with ⟨rfl, rfl, rfl⟩ | ⟨c, hk, hc⟩
  · obtain rfl : x = y := by simp at hy; omega
    refine (cut_none _ x W).mono ?_
    rintro e w' ⟨rfl, rfl⟩
    exact ⟨_, 0, rfl, .inl ⟨rfl, rfl, by simp⟩, Below.refl _ _⟩
  · exact cut_any h ⟨v, l, c⟩ W x y (hk.below hW) hc hx hy (by show l.length ≤ _; omega)
set_option maxHeartbeats 4000000 in
set_option maxRecDepth 100000 in
theorem trepl_span (p : Option Addr) (l : List I7) (h : Nat) (x y : Int) (A : Option Addr) (n c : Nat) (w : World) (ht : TP w p l h) (hn : ¬ (0 ≤ x ∧ x ≤ y ∧ y ≤ l.length)) :
    Calls Tryz.prog 77 #[.pointer p, .int .i64 x, .int .i64 y, .slice A n c] w fun e w' => e = .returned (.tuple #[.pointer none, .int .i64 1]) ∧ Below w.heap.size w w' := by
  have C1 := Lib.hid (spans_any p l h x y w ht false ⟨fun e => absurd e (by simp), fun e => absurd e hn⟩)
  clear ht hn
  go_enter Tryz.func77, Tryz.ntmps77
  go_wp2_with fail
  refine C1.out.mono ?_
  rintro e w1 ⟨rfl, hb1⟩
  go_wp2
  refine bodyPost_ret (v := .tuple #[.pointer none, .int .i64 1]) (by simp [results, Tryz.results77, go_sem]) rfl ⟨rfl, hb1⟩
set_option maxHeartbeats 4000000 in
set_option maxRecDepth 100000 in
theorem trepl_bad (p : Option Addr) (l m : List I7) (h x y : Nat) (A : Option Addr) (n c : Nat) (w : World) (ht : TP w p l h) (hx : x ≤ y) (hy : y ≤ l.length) (hA : ItsAt w A m) (hl : m.length = n) (hn : n ≤ 30000) (ho : ¬ Okl m) :
    Calls Tryz.prog 77 #[.pointer p, .int .i64 x, .int .i64 y, .slice A n c] w fun e w' => e = .returned (.tuple #[.pointer none, .int .i64 1]) ∧ Below w.heap.size w w' := by
  have C1 := Lib.hid (spans_any p l h x y w ht true ⟨fun _ => by omega, fun _ => rfl⟩)
  have C2 := Lib.hid fun (W : World) (hW : Below w.heap.size w W) => tnew_bad A n c m W (hA.below hW) hl hn ho
  clear ht hA ho
  go_enter Tryz.func77, Tryz.ntmps77
  go_wp2_with fail
  refine C1.out.mono ?_
  rintro e w1 ⟨rfl, hb1⟩
  go_wp2_with fail
  refine (C2.out _ hb1).mono ?_
  rintro e w2 ⟨rfl, hb2⟩
  have a2 := hb1.trans (hb2.mono hb1.size)
  go_wp2
  refine bodyPost_ret (v := .tuple #[.pointer none, .int .i64 1]) (by simp [results, Tryz.results77, go_sem]) rfl ⟨rfl, a2⟩
set_option maxHeartbeats 4000000 in
set_option maxRecDepth 100000 in
theorem trepl_any (p : Option Addr) (l m : List I7) (h x y : Nat) (A : Option Addr) (n c : Nat) (w : World) (ht : TP w p l h) (hx : x ≤ y) (hy : y ≤ l.length) (hA : ItsAt w A m) (hl : m.length = n) (hc : Caps A n c) (hz : l.length - (y - x) + n ≤ 30000) (ho : Okl m) :
    Calls Tryz.prog 77 #[.pointer p, .int .i64 x, .int .i64 y, .slice A n c] w fun e w' => ∃ a' h', e = .returned (.tuple #[.pointer (some a'), .int .i64 0]) ∧ TP w' (some a') (l.take x ++ m ++ l.drop y) h' ∧ Below w.heap.size w w' := by
  have C1 := Lib.hid (spans_any p l h x y w ht true ⟨fun _ => by omega, fun _ => rfl⟩)
  obtain ⟨v, hT, hroot⟩ := root_fix ht
  have C2 := Lib.hid hroot
  obtain ⟨hol, hzl⟩ := ht.okl
  have CN := Lib.hid fun (W : World) (hW : Below w.heap.size w W) => tnew_any A n c m W (hA.below hW) hl hc (by omega) ho
  have CS := Lib.hid fun (W : World) (hW : Below w.heap.size w W) => tsum_n p l h W (ht.below hW)
  have CX := Lib.hid fun (W : World) (hW : Below w.heap.size w W) => (by
    have := top_cut hT hzl 0 x (by omega) (by omega) W hW
    rwa [List.drop_zero, Nat.sub_zero] at this : Calls Tryz.prog 110 #[v, .int .i64 ((0 : Nat) : Int), .int .i64 x] W fun e w' => ∃ v i, e = .returned v ∧ Top w' v (l.take x) i ∧ Below W.heap.size W w')
  have CY := Lib.hid fun (W : World) (hW : Below w.heap.size w W) => (by
    have := top_cut hT hzl y l.length (by omega) (by omega) W hW
    rwa [show (l.drop y).take (l.length - y) = l.drop y from List.take_of_length_le (by rw [List.length_drop]; omega)] at this : Calls Tryz.prog 110 #[v, .int .i64 y, .int .i64 l.length] W fun e w' => ∃ v i, e = .returned v ∧ Top w' v (l.drop y) i ∧ Below W.heap.size W w')
  have HO := Lib.hid (show Okl (l.take x ++ m ++ l.drop y) ∧ (l.take x ++ m ++ l.drop y).length ≤ 30000 from ⟨(((hol.take_ x).append_ ho).append_ (fun i hi => hol i (List.mem_of_mem_drop hi))), by simp [List.length_append]; omega⟩)
  have hw1 : IntKind.i64.wrap ((y : Int) - (x : Int)) = (y : Int) - (x : Int) := IntWalk.i64_in _ (by omega)
  have hw2 : IntKind.i64.wrap ((l.length : Int) - ((y : Int) - (x : Int))) = (l.length : Int) - ((y : Int) - (x : Int)) := IntWalk.i64_in _ (by omega)
  have hw3 : IntKind.i64.wrap ((l.length : Int) - ((y : Int) - (x : Int)) + (n : Int)) = (l.length : Int) - ((y : Int) - (x : Int)) + (n : Int) := IntWalk.i64_in _ (by omega)
  have hw4 : ¬ ((30000 : Int) < (l.length : Int) - ((y : Int) - (x : Int)) + (n : Int)) := by omega
  have tf := fld_n
  clear ht hT hroot hol hA ho
  go_enter Tryz.func77, Tryz.ntmps77
  go_wp2_with fail
  refine C1.out.mono ?_
  rintro e w1 ⟨rfl, hb1⟩
  go_wp2_with fail
  refine (CN.out _ hb1).mono ?_
  rintro e w2 ⟨a2, h2, rfl, hT2, hb2⟩
  have a2 := hb1.trans (hb2.mono hb1.size)
  go_wp2_with fail
  refine (CS.out _ a2).mono ?_
  rintro e w3 ⟨rfl, hb3⟩
  have a3 := a2.trans (hb3.mono a2.size)
  have hT3 := hT2.below hb3
  clear hT2
  go_wp2_with fail
  refine (C2.out _ a3).mono ?_
  rintro e w4 ⟨rfl, rfl⟩
  go_wp2_with fail
  refine (CX.out _ a3).mono ?_
  rintro e w5 ⟨v5, i5, rfl, hT5, hb5⟩
  have a5 := a3.trans (hb5.mono a3.size)
  have hM5 := hT3.below hb5
  clear hT3
  go_wp2_with fail
  refine (C2.out _ a5).mono ?_
  rintro e w6 ⟨rfl, rfl⟩
  go_wp2_with fail
  refine (CY.out _ a5).mono ?_
  rintro e w7 ⟨v7, i7, rfl, hT7, hb7⟩
  have a7 := a5.trans (hb7.mono a5.size)
  have hF := hT5.below hb7
  have hM := hM5.below hb7
  clear hT5 hM5
  obtain ⟨hz1, hz2⟩ := hM.okl
  rcases hM with ⟨hno, _⟩ | ⟨bm, vm, hbm, hraw, hTm, _, _⟩
  · cases hno
  cases hbm
  have e0 : w7.cell? ⟨bm, 0, none⟩ = some vm := RawAt.cell hraw 0
  go_wp2_with fail
  refine (concat_any v5 vm _ m i5 h2 w7 hF hTm (by rw [List.length_take]; omega)).mono ?_
  rintro e w8 ⟨v8, i8, rfl, hT8, hb8⟩
  have a8 := a7.trans (hb8.mono a7.size)
  have hB := hT7.below hb8
  clear hF hTm hraw hT7 e0
  go_wp2_with fail
  refine (concat_any v8 v7 _ _ i8 i7 w8 hT8 hB (by rw [List.length_append, List.length_take, List.length_drop]; omega)).mono ?_
  rintro e w9 ⟨v9, i9, rfl, hT9, hb9⟩
  have a9 := a8.trans (hb9.mono a8.size)
  clear hT8 hB
  have HP := Lib.hid (tp_new hT9 HO.out.1 HO.out.2)
  have a10 := a9.alloc a9.size (.cells #[v9] 188)
  have hone := hT9.one
  clear hT9
  rcases hone with rfl | ⟨t, z, rfl⟩
  all_goals
    go_wp2
    refine bodyPost_ret (v := .tuple #[.pointer (some ⟨w9.heap.size, 0, none⟩), .int .i64 0]) (by simp [results, Tryz.results77, go_sem]) rfl ⟨_, i9, rfl, HP.out, a10⟩
end Go.Proofs.YtpnjokhhbjpciaaGreatDoor
