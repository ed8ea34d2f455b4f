/- Methods of cursors: End, Next, Back, Take; the small case of the laws on cursors. -/
import Derived.Test.YtbbplppcabeojaaSeekA
import Derived.Deep.RegionHeld3
import Derived.Test.YtbbplppcabeojaaItOwn
import Derived.Test.YtbbplppcabeojaaIdx3
import Derived.WalkMore
import Derived.Test.YtbbplppcabeojaaOwnBase
import Derived.Test.YtbbplppcabeojaaItCut
import Derived.Test.YtbbplppcabeojaaRefs6
namespace Go.Proofs.Ytbbplppcabeojaa
open Go.RowKit
section
variable {T : World → Addr → List I7 → Nat → Prop} {w : World} {b c : Nat} {a : Addr} {l : List I7} {h k : Nat}
set_option maxHeartbeats 4000000 in
set_option maxRecDepth 100000 in
theorem cnext_no (K : TreeQ T) (C : CAt T w b c a l h k) (hk : ¬ k < l.length) : Calls Try.prog 27 #[.pointer (some ⟨b, 0, none⟩)] w fun e w' => e = .returned (.bool false) ∧ Below w.heap.size w w' := by
  have CI := Lib.hid (citem_no K C hk)
  clear C
  unfold ics at CI
  go_enter Try.func27, Try.ntmps27
  go_wp2_with fail
  refine CI.out.mono ?_
  rintro e w1 ⟨rfl, hb1⟩
  have a1 := hb1.alloc hb1.size (.cells (ics ⟨0, 0, 0, 0, 0, 0, ⟨#[]⟩⟩) 54)
  go_wp2
  go_ret
  exact ⟨rfl, a1⟩
set_option maxHeartbeats 4000000 in
set_option maxRecDepth 100000 in
theorem cnext_yes (K : TreeQ T) (C : CAt T w b c a l h k) (hk : k < l.length) : Calls Try.prog 27 #[.pointer (some ⟨b, 0, none⟩)] w fun e w' => e = .returned (.bool true) ∧ CAt T w' b c a l h (k + 1) ∧ Off b b w w' := by
  have CI := Lib.hid (citem_yes K C hk)
  have CP : Hid (∀ W, Below w.heap.size w W → Calls Try.prog 70 #[.pointer (some ⟨b, 0, none⟩), .agg (ics (ith l k))] W fun e w' => e = .returned (.tuple #[]) ∧ CAt T w' b c a l h (k + 1) ∧ Off b b w w') := fun W hW => (cpass_any (C.keep hW) hk).mono fun _ _ ⟨he, hc, ho⟩ => ⟨he, hc, (Off.of hW).trans ho⟩
  clear C
  generalize ith l k = x at *
  unfold ics at CI CP
  go_enter Try.func27, Try.ntmps27
  go_wp2_with fail
  refine CI.out.mono ?_
  rintro e w1 ⟨rfl, hb1⟩
  have a1 := hb1.alloc hb1.size (.cells (ics x) 54)
  unfold ics at a1
  go_wp2_with fail
  refine (CP.out _ a1).mono ?_
  rintro e w2 ⟨rfl, hc, ho⟩
  go_wp2
  go_ret
  exact ⟨rfl, hc, ho⟩
set_option maxHeartbeats 4000000 in
theorem cback_no (C : CAt T w b c a l h 0) : Calls Try.prog 30 #[.pointer (some ⟨b, 0, none⟩)] w fun e w' => e = .returned (.bool false) ∧ Below w.heap.size w w' := by
  have CS := Lib.hid (cstart_any C)
  have tf := fld_n6
  unfold scs at CS
  rw [C.n] at CS
  clear C
  generalize sall (l.take 0) = s at *
  go_enter Try.func30, Try.ntmps30
  go_wp2_with fail
  refine CS.out.mono ?_
  rintro e w1 ⟨rfl, hb1⟩
  go_wp2
  go_ret
  exact ⟨rfl, hb1⟩
theorem back_find {l : List I7} {k m : Nat} (hk : k < l.length) (h : FindIs l ((3 : Int).toNat) (k : Int) 1 m) : m = k := by
  have sd : ∀ j, j ≤ l.length → sdim (l.take j) 3 = (j : Int) := fun j hj => by
    unfold sdim
    rw [if_pos rfl, List.length_take, Nat.min_eq_left hj]
  refine h.unique ⟨Nat.le_of_lt hk, fun j hj => ?_, fun _ => ?_⟩
  · rw [show (3 : Int).toNat = 3 from rfl, sd _ (by omega)]
    unfold Stops
    omega
  · rw [show (3 : Int).toNat = 3 from rfl, sd _ (by omega)]
    unfold Stops
    omega
theorem back_ask {l : List I7} {k : Nat} (hk : k < l.length) : AskOk l 3 (k : Int) 1 := ⟨by omega, by omega, by omega, by
  show (k : Int) ≤ sdim l 3
  unfold sdim
  rw [if_pos rfl]
  omega, .inr rfl⟩
set_option maxHeartbeats 4000000 in
theorem cback_yes (K : TreeQ T) (C : CAt T w b c a l h (k + 1)) : Calls Try.prog 30 #[.pointer (some ⟨b, 0, none⟩)] w fun e w' => e = .returned (.bool true) ∧ CAt T w' b c a l h k ∧ Off b b w w' := by
  have hk : k < l.length := C.le
  have CS := Lib.hid (cstart_any C)
  have CP : Hid (∀ W, Below w.heap.size w W → Calls Try.prog 29 #[.pointer (some ⟨b, 0, none⟩), .int .i64 3, .int .i64 k, .int .i64 1] W fun e w' => e = .returned (.int .i64 0) ∧ CAt T w' b c a l h k ∧ Off b b w w') := fun W hW => (cto_yes K (C.keep hW) 3 k 1 (back_ask hk)).mono fun _ _ ⟨m, hf, he, hc, ho⟩ => by
    obtain rfl := back_find hk hf
    exact ⟨he, hc, (Off.of hW).trans ho⟩
  have tf := fld_n6
  unfold scs at CS
  rw [C.n] at CS
  have g1 : ¬ (((k + 1 : Nat) : Int) = 0) := by omega
  have g2 : IntKind.i64.wrap (((k + 1 : Nat) : Int) - 1) = (k : Int) := by rw [show ((k + 1 : Nat) : Int) - 1 = (k : Int) from by omega]; exact IntWalk.i64_in _ (by have := C.len; omega)
  clear C
  generalize sall (l.take (k + 1)) = s at *
  generalize ((k + 1 : Nat) : Int) = q at *
  go_enter Try.func30, Try.ntmps30
  go_wp2_with fail
  refine CS.out.mono ?_
  rintro e w1 ⟨rfl, hb1⟩
  go_wp2_with fail
  refine (CP.out _ hb1).mono ?_
  rintro e w2 ⟨rfl, hc, ho⟩
  go_wp2
  go_ret
  exact ⟨rfl, hc, ho⟩
set_option maxHeartbeats 4000000 in
set_option maxRecDepth 100000 in
theorem cend_no (K : TreeQ T) (C : CAt T w b c a l h k) (hk : ¬ k < l.length) : Calls Try.prog 26 #[.pointer (some ⟨b, 0, none⟩)] w fun e w' => e = .returned (.agg (scs (sall (l.take k)))) ∧ Below w.heap.size w w' := by
  have CI := Lib.hid fun (W : World) (hW : Below w.heap.size w W) => citem_no K (C.keep hW) hk
  have CS := Lib.hid fun (W : World) (hW : Below w.heap.size w W) => cstart_any (C.keep hW)
  clear C
  unfold ics at CI
  generalize sall (l.take k) = s at *
  unfold scs at CS
  have h0 : Below w.heap.size w (w.alloc (.cells (scs s0) 52)) := (Below.refl _ _).alloc (Nat.le_refl _) _
  have R0 := Lib.hid (show RawAt 52 (w.alloc (.cells (scs s0) 52)) w.heap.size (scs s0) from heap_alloc_new w _)
  obtain ⟨W0, hW0⟩ : ∃ W0, W0 = w.alloc (.cells (scs s0) 52) := ⟨_, rfl⟩
  rw [← hW0] at h0 R0
  unfold scs s0 at hW0
  go_enter Try.func26, Try.ntmps26
  go_wp2_with fail
  rw [← hW0]
  clear hW0
  refine (CI.out _ h0).mono ?_
  rintro e w1 ⟨rfl, hb1⟩
  have q1 := hb1.alloc hb1.size (.cells (ics ⟨0, 0, 0, 0, 0, 0, ⟨#[]⟩⟩) 54)
  have a1 := h0.trans (q1.mono h0.size)
  unfold ics at q1 a1
  go_wp2_with fail
  refine (CS.out _ a1).mono ?_
  rintro e w2 ⟨rfl, hb2⟩
  have a2 := a1.trans (hb2.mono a1.size)
  have R2 := RawAt.below R0.out (q1.trans (hb2.mono q1.size)) (RawAt.lt R0.out)
  have y0 := RawAt.free R2 0
  have y1 := RawAt.free R2 1
  have y2 := RawAt.free R2 2
  have y3 := RawAt.free R2 3
  have y4 := RawAt.free R2 4
  have y5 := RawAt.free R2 5
  obtain ⟨z0, z1, z2, z3, z4, z5⟩ := raw_scs R2
  clear R2 R0 hb1 hb2 q1 a1 h0
  go_wp2
  refine bodyPost_ret (v := .agg #[.int .i64 s.n, .int .i64 s.d0, .int .i64 s.d1, .int .i64 s.d2, .int .i64 s.mx, .int .i64 s.pl]) (by simp [results, Try.results26, go_sem, z0, z1, z2, z3, z4, z5]) rfl ⟨rfl, ?_⟩
  (repeat' (first | (with_reducible exact a2) | (with_reducible refine Below.setCell ?_ ?_ _) | (with_reducible refine Below.drew ?_))) <;> first | exact Nat.le_refl _ | (simp; done)
set_option maxHeartbeats 4000000 in
set_option maxRecDepth 100000 in
theorem cend_yes (K : TreeQ T) (C : CAt T w b c a l h k) (hk : k < l.length) : Calls Try.prog 26 #[.pointer (some ⟨b, 0, none⟩)] w fun e w' => e = .returned (.agg (scs (sall (l.take (k + 1))))) ∧ Below w.heap.size w w' := by
  have CI := Lib.hid fun (W : World) (hW : Below w.heap.size w W) => citem_yes K (C.keep hW) hk
  have hr := C.raw
  have hbs := C.lt
  have hsum := sall_take l hk
  have hso := sof_ok (C.ok _ (ith_mem l hk))
  have CA := Lib.hid fun (W : World) => iadd_any (sall (l.take k)) (sof (ith l k)) (sall (l.take (k + 1))) k 1 C.sok hso (by have := C.len; omega) (by omega) hsum.symm W
  have CO := Lib.hid fun (W : World) => iof_any (ith l k) W
  have HR := Lib.hid fun (W : World) (hW : Below w.heap.size w W) => RawAt.below hr hW hbs
  clear C hsum hso hr
  generalize sall (l.take (k + 1)) = u at *
  generalize sall (l.take k) = s at *
  generalize ith l k = x at *
  generalize sof x = f at *
  unfold ics at CI CO
  unfold scs at CO CA
  have h0 : Below w.heap.size w (w.alloc (.cells (scs s0) 52)) := (Below.refl _ _).alloc (Nat.le_refl _) _
  have R0 := Lib.hid (show RawAt 52 (w.alloc (.cells (scs s0) 52)) w.heap.size (scs s0) from heap_alloc_new w _)
  obtain ⟨W0, hW0⟩ : ∃ W0, W0 = w.alloc (.cells (scs s0) 52) := ⟨_, rfl⟩
  rw [← hW0] at h0 R0
  unfold scs s0 at hW0
  go_enter Try.func26, Try.ntmps26
  go_wp2_with fail
  rw [← hW0]
  clear hW0
  refine (CI.out _ h0).mono ?_
  rintro e w1 ⟨rfl, hb1⟩
  go_wp2_with fail
  have R1 := RawAt.below R0.out hb1 (RawAt.lt R0.out)
  have a1 := h0.trans (hb1.mono h0.size)
  have hsz1 : w.heap.size < w1.heap.size := RawAt.lt R1
  have q2 : Below w1.heap.size w1 (w1.alloc (.cells (ics x) 54)) := (Below.refl _ _).alloc (Nat.le_refl _) _
  have a2 := a1.trans (q2.mono a1.size)
  have R2 := Lib.hid (RawAt.below R1 q2 (RawAt.lt R1))
  have X2 := Lib.hid (show RawAt 54 (w1.alloc (.cells (ics x) 54)) w1.heap.size (ics x) from heap_alloc_new w1 _)
  unfold ics at q2 a2 R2 X2
  generalize (w1.alloc (.cells #[.int .i64 x.tag, .int .i64 x.id, .int .i64 x.d0, .int .i64 x.d1, .int .i64 x.d2, .int .i64 x.mx, .string x.tx] 54)) = W2 at *
  generalize w1.heap.size = bi at *
  clear hb1 h0 R0 R1 a1 CI q2
  have MK : Hid (∀ W, Below W2.heap.size W2 W → W.cell? ⟨b, 1, none⟩ = some (.int .i64 s.n) ∧ W.cell? ⟨b, 2, none⟩ = some (.int .i64 s.d0) ∧ W.cell? ⟨b, 3, none⟩ = some (.int .i64 s.d1) ∧ W.cell? ⟨b, 4, none⟩ = some (.int .i64 s.d2) ∧ W.cell? ⟨b, 5, none⟩ = some (.int .i64 s.mx) ∧ W.cell? ⟨b, 6, none⟩ = some (.int .i64 s.pl) ∧ W.cell? ⟨bi, 0, none⟩ = some (.int .i64 x.tag) ∧ W.cell? ⟨bi, 1, none⟩ = some (.int .i64 x.id) ∧ W.cell? ⟨bi, 2, none⟩ = some (.int .i64 x.d0) ∧ W.cell? ⟨bi, 3, none⟩ = some (.int .i64 x.d1) ∧ W.cell? ⟨bi, 4, none⟩ = some (.int .i64 x.d2) ∧ W.cell? ⟨bi, 5, none⟩ = some (.int .i64 x.mx) ∧ W.cell? ⟨bi, 6, none⟩ = some (.string x.tx) ∧ Below W2.heap.size W2 W) := fun W hW => by
    obtain ⟨z0, z1, z2, z3, z4, z5, z6⟩ := raw_ccs (HR.out W (a2.trans (hW.mono a2.size)))
    obtain ⟨p0, p1, p2, p3, p4, p5, p6⟩ := raw_ics (RawAt.below X2.out hW (RawAt.lt X2.out))
    exact ⟨z1, z2, z3, z4, z5, z6, p0, p1, p2, p3, p4, p5, p6, hW⟩
  have RR := Lib.hid fun (W : World) (hW : Below W2.heap.size W2 W) => RawAt.below R2.out hW (RawAt.lt R2.out)
  clear R2 X2 HR
  have hW2 : Below W2.heap.size W2 W2.drew := (Below.refl _ _).drew
  go_wp2_with fail
  obtain ⟨m1, m2, m3, m4, m5, m6, m7, m8, m9, m10, m11, m12, m13, _⟩ := MK.out W2 (Below.refl _ _)
  go_region_with (first
    | (go_at_call 69; ((with_reducible refine (CO.out _).mono ?_); rintro e w3 ⟨rfl, hb3⟩); have hW3 := hW2.trans (hb3.mono hW2.size); obtain ⟨n1, n2, n3, n4, n5, n6, _⟩ := MK.out _ hW3)
    | (go_at_call 68; ((with_reducible refine (CA.out _).mono ?_); rintro e w4 ⟨rfl, hb4⟩); have hW4 := hW3.trans (hb4.mono hW3.size); have R4 := RR.out _ hW4; have y0 := RawAt.free R4 0; have y1 := RawAt.free R4 1; have y2 := RawAt.free R4 2; have y3 := RawAt.free R4 3; have y4 := RawAt.free R4 4; have y5 := RawAt.free R4 5; obtain ⟨z0, z1, z2, z3, z4, z5⟩ := raw_scs R4))
  all_goals
    have a4 := a2.trans (hW4.mono a2.size)
    clear m1 m2 m3 m4 m5 m6 m7 m8 m9 m10 m11 m12 m13 hW2 hW3 hW4 hb3 hb4 R4 MK RR CO CA
    go_wp2
    refine bodyPost_ret (v := .agg #[.int .i64 u.n, .int .i64 u.d0, .int .i64 u.d1, .int .i64 u.d2, .int .i64 u.mx, .int .i64 u.pl]) (by simp [results, Try.results26, go_sem, z0, z1, z2, z3, z4, z5]) rfl ⟨rfl, ?_⟩
    (repeat' (first | (with_reducible exact a4) | (with_reducible refine Below.setCell ?_ ?_ _) | (with_reducible refine Below.drew ?_))) <;> first | exact Nat.le_refl _ | (simp; done)
end
/-- Where taking ends. -/
structure TakeIs (l : List I7) (dim : Nat) (v : Int) (k m : Nat) : Prop where
  ge : k ≤ m
  le : m ≤ l.length
  no : ∀ j, k ≤ j → j < m → sdim (l.take (j + 1)) dim ≤ v
  yes : m < l.length → v < sdim (l.take (m + 1)) dim
theorem own_off {w w' : World} {b base : Nat} {e : TypeId} {size : Nat} {v : Value} {n : Nat} {xs : List Value} (h : w.ownsRow base e size v n xs) (ho : Off b b w w') (hb : b < base) : w'.ownsRow base e size v n xs := by
  refine ⟨h.1, ?_⟩
  rcases h.2 with h2 | ⟨g, cap, cur, rfl, hB, c, h3⟩
  · exact .inl h2
  · exact .inr ⟨g, cap, cur, rfl, hB, (ho.rest g (block_lt c) (by omega) (by omega)).trans c, h3⟩
theorem Off.grown {b c : Nat} {a w w' : World} {row : Option Nat} (h : Off b c a w) (hg : w.grownBy w' row) (hr : ∀ k, row = some k → a.heap.size ≤ k) : Off b c a w' :=
  ⟨hg.os.trans h.os, hg.tape.trans h.tape, hg.output.trans h.output, Nat.le_trans h.size hg.size, fun k hk h1 h2 => (hg.block k (Nat.lt_of_lt_of_le hk h.size) (fun e => by have := hr k e.symm; omega)).trans (h.rest k hk h1 h2)⟩
theorem raw_grown {t : TypeId} {w w' : World} {b : Nat} {cs : Array Value} {row : Option Nat} (h : RawAt t w b cs) (hg : w.grownBy w' row) (hr : row ≠ some b) : RawAt t w' b cs := (hg.block b (RawAt.lt h) (fun e => hr e.symm)).trans h
section
variable {T : World → Addr → List I7 → Nat → Prop} {w : World} {b c : Nat} {a : Addr} {l : List I7} {h k : Nat}
set_option maxHeartbeats 4000000 in
set_option maxRecDepth 100000 in
theorem ctake_none (dim v : Int) (p : Option Addr) (hd : ¬ (0 ≤ dim ∧ dim ≤ 3)) (w : World) : Calls Try.prog 31 #[.pointer p, .int .i64 dim, .int .i64 v] w fun e w' => e = .returned (.slice none 0 0) ∧ Below w.heap.size w w' := by
  by_cases g1 : dim < 0
  · clear hd
    go_enter Try.func31, Try.ntmps31
    go_wp2
    go_step3
    go_wp2
    rw [Exit.noGoto_ret]
    go_ret
    exact ⟨rfl, Below.refl _ _⟩
  · have g2 : 3 < dim := by omega
    clear hd
    go_enter Try.func31, Try.ntmps31
    go_wp2
    go_step3
    go_wp2
    rw [Exit.noGoto_ret]
    go_ret
    exact ⟨rfl, Below.refl _ _⟩
set_option maxHeartbeats 4000000 in
set_option maxRecDepth 100000 in
theorem ssize_any (l : List I7) (hn : (sall l).n = l.length) (dim : Nat) (hd : dim ≤ 3) (w : World) : Calls Try.prog 72 #[.agg (scs (sall l)), .int .i64 dim] w fun e w' => e = .returned (.int .i64 (sdim l dim)) ∧ Below w.heap.size w w' := by
  have hb1 : Below w.heap.size w (w.alloc (.cells (scs (sall l)) 52)) := (Below.refl _ _).alloc (Nat.le_refl _) _
  have HD := Lib.hid (show sdim l 3 = l.length ∧ sdim l 0 = (sall l).d0 ∧ sdim l 1 = (sall l).d1 ∧ sdim l 2 = (sall l).d2 from ⟨rfl, rfl, rfl, rfl⟩)
  have HN := Lib.hid hn; clear hn
  generalize sall l = s at *
  have tf := fld_n6
  obtain rfl | rfl | rfl | rfl : dim = 3 ∨ dim = 0 ∨ dim = 1 ∨ dim = 2 := by omega
  · unfold scs at *
    go_enter Try.func72, Try.ntmps72
    go_wp2
    go_ret
    exact ⟨ret_int (by rw [HD.out.1, HN.out]), hb1⟩
  all_goals
    have hx0 := fun W => idx3_0 s.d0 s.d1 s.d2 W
    have hx1 := fun W => idx3_1 s.d0 s.d1 s.d2 W
    have hx2 := fun W => idx3_2 s.d0 s.d1 s.d2 W
    unfold scs at *
    go_enter Try.func72, Try.ntmps72
    go_wp2
    go_ret
    exact ⟨ret_int (by first | exact HD.out.2.1.symm | exact HD.out.2.2.1.symm | exact HD.out.2.2.2.symm), hb1⟩
set_option maxHeartbeats 4000000 in
set_option maxRecDepth 100000 in
theorem ctake_any (K : TreeQ T) (C : CAt T w b c a l h k) (dim : Nat) (v : Int) (hd : dim ≤ 3) : Calls Try.prog 31 #[.pointer (some ⟨b, 0, none⟩), .int .i64 dim, .int .i64 v] w fun e w' => ∃ (m : Nat) (A : Option Addr) (c' : Nat), TakeIs l dim v k m ∧ e = .returned (.slice A (m - k) c') ∧ ItsAt w' A ((l.drop k).take (m - k)) ∧ Caps A (m - k) c' ∧ CAt T w' b c a l h m ∧ Off b b w w' := by
  obtain ⟨i0, hi0, hz0, hz1, hz2⟩ := info_parts item_info
  have HC := Lib.hid C
  have hbs := C.lt
  have hkl := C.le
  have hlen := C.len
  have HOL := Lib.hid C.ok
  have hg : ¬ (3 : Int) < (dim : Int) := by omega
  have R0 := Lib.hid C.raw
  clear C
  go_enter Try.func31, Try.ntmps31
  go_wp2
  go_step3
  go_wp2
  go_step3
  go_wp2
  go_loopg [7] (l.length + 1) (fun g vv wr => ∃ j : Nat, k + j ≤ l.length ∧ l.length + 1 - j ≤ g ∧ Off b b w wr ∧ Hid (RawAt 97 wr b (ccs a (sall (l.take (k + j))))) ∧ Hid (wr.ownsRow w.heap.size 54 7 vv j (iflat ((l.drop k).take j))) ∧ Hid (∀ i, k ≤ i → i < k + j → sdim (l.take (i + 1)) dim ≤ v))
  case atStart => exact ⟨0, by omega, by omega, Off.refl _ _ _, R0, World.ownsRow_nil _ _ _ _, fun i h1 h2 => by omega⟩
  case round =>
    obtain ⟨j, g1, g2, ho, hr, hown, hno⟩ := hrel
    have Cj := HC.out.move ho.left hr.out g1
    by_cases hk : k + j < l.length
    · have CI := Lib.hid (citem_yes K Cj hk)
      have CE := Lib.hid fun (W : World) (hW : Below wr.heap.size wr W) => cend_yes K (Cj.keep hW) hk
      have CZ := Lib.hid fun (W : World) => ssize_any (l.take (k + j + 1)) (by rw [(sall_ok _ _ rfl (HOL.out.take_ (k + j + 1))).1]) dim hd W
      have CP := Lib.hid fun (W : World) (hW : Off b b w W) (hraw : RawAt 97 W b (ccs a (sall (l.take (k + j))))) => cpass_any (HC.out.move hW.left hraw g1) hk
      have HT : Hid ((l.drop k).take (j + 1) = (l.drop k).take j ++ [ith l (k + j)]) := by
        have hd : j < (l.drop k).length := by rw [List.length_drop]; omega
        rw [take_ith _ hd]
        congr 2
        simp [ith, List.getD]
      clear Cj
      have HRAW : Hid (∀ W, RawAt 97 W b (ccs a (sall (l.take (k + j)))) → Off b b w W → CAt T W b c a l h (k + j)) := fun W h1 h2 => HC.out.move h2.left h1 g1
      generalize sall (l.take (k + j)) = s at *
      generalize ith l (k + j) = x at *
      unfold ics at CI CP
      unfold scs at CE CZ
      generalize hu : sall (l.take (k + j + 1)) = u at *
      have HU := Lib.hid hu; clear hu
      generalize hs : sdim (l.take (k + j + 1)) dim = sd at *
      have HS := Lib.hid hs; clear hs
      go_wp2_with fail
      refine CI.out.mono ?_
      rintro e w1 ⟨rfl, hb1⟩
      have a1 := hb1.alloc hb1.size (.cells (ics x) 54)
      have X1 : RawAt 54 (w1.alloc (.cells (ics x) 54)) w1.heap.size (ics x) := heap_alloc_new w1 _
      unfold ics at a1
      go_wp2_with fail
      refine (CE.out _ a1).mono ?_
      rintro e w2 ⟨rfl, hb2⟩
      have a2 := a1.trans (hb2.mono a1.size)
      have X2 := RawAt.below X1 hb2 (by simp)
      go_wp2_with fail
      refine (CZ.out _).mono ?_
      rintro e w3 ⟨rfl, hb3⟩
      have a3 := a2.trans (hb3.mono a2.size)
      have X3 := RawAt.below X2 hb3 (RawAt.lt X2)
      obtain ⟨x0, x1, x2, x3, x4, x5, x6⟩ := raw_ics X3
      have HBI := Lib.hid hb1.size
      generalize w1.heap.size = bi at *
      by_cases hv : v < sd
      · have HTK : Hid (TakeIs l dim v k (k + j)) := ⟨by omega, g1, hno.out, fun _ => by rw [HS.out]; exact hv⟩
        obtain ⟨A2, c2, rfl, hI, hl2, hcap⟩ := its_of_own hown.out
        clear CP
        go_wp2
        rw [Exit.noGoto_ret]
        go_ret
        exact ⟨k + j, A2, c2, HTK.out, by rw [Nat.add_sub_cancel_left]; rfl, by rw [Nat.add_sub_cancel_left]; exact hI.below a3, by rw [Nat.add_sub_cancel_left]; exact hcap, HRAW.out _ (RawAt.below hr.out a3 (RawAt.lt hr.out)) (ho.trans (Off.of a3)), ho.trans (Off.of a3)⟩
      · have hown3 := own_below hown.out a3
        have hlt4 := fun q hq => hown.out.lt q hq
        have hsz := ho.size
        have hsz3 := a3.size
        have hR3 := RawAt.below hr.out a3 (RawAt.lt hr.out)
        have HR3 := Lib.hid (RawAt.below hR3 ((Below.refl _ _).alloc (Nat.le_refl _) (.cells (ics x) 54)) (RawAt.lt hR3))
        have HX3 := Lib.hid (RawAt.below X3 ((Below.refl _ _).alloc (Nat.le_refl _) (.cells (ics x) 54)) (RawAt.lt X3))
        have HO3 := Lib.hid ((ho.trans (Off.of a3)).trans (Off.of ((Below.refl _ _).alloc (Nat.le_refl _) (.cells (ics x) 54))))
        have hlv := Int.not_lt.mp hv
        have HNO : Hid (∀ i, k ≤ i → i < k + (j + 1) → sdim (l.take (i + 1)) dim ≤ v) := fun i h1 h2 => by
          by_cases e : i = k + j
          · subst e; rw [HS.out]; exact hlv
          · exact hno.out i h1 (by omega)
        have hjl : j < 30000 := by omega
        have hbi : wr.heap.size ≤ bi := HBI.out
        clear hR3
        unfold ics at HX3 HR3 HO3
        go_wp2_with (at_builtin; refine wpList_append_own _ rfl (.tmp 31) (.tmp 33) _ rfl w.heap.size 54 i0 _ 7 64 Try.underlying22 hi0 hz0 hz1 hz2 rfl (by omega) _ j (iflat ((l.drop k).take j)) rfl (hown3.alloc _) ⟨w3.heap.size, 0, none⟩ 1 1 (iflat [x]) rfl (by simp [iflat]) (news_new w3 _ x) (iflat_one _) (by simp only [maxLen]; omega) (by omega) (by simp; omega) ?_; intro v4 w4 hown4 hg4 hnil4; clear hnil4; have X4 := raw_grown HX3.out hg4 (fun e => by have := (hlt4 _ e).2; omega); obtain ⟨t0, t1, t2, t3, t4, t5, t6⟩ := raw_ics X4)
        have hsz4 := hg4.size
        have HO4 : Off b b w w4 := Off.grown HO3.out hg4 (fun q hq => (hlt4 q hq).1)
        have HR4 := raw_grown HR3.out hg4 (fun e => by have := (hlt4 _ e).1; omega)
        refine (CP.out _ HO4 HR4).mono ?_
        rintro e w5 ⟨rfl, hC5, hO5⟩
        have hown5 := own_off hown4 hO5 hbs
        rw [← iflat_append, ← HT.out] at hown5
        have HOWN := Lib.hid hown5
        have HR5 := Lib.hid hC5.raw
        have HO6 := HO4.trans hO5
        clear hown4 hown5 hC5 HR4 X4 hlt4
        go_wp2
        go_roundg (gk - 1)
        case measure => omega
        case rel => exact ⟨j + 1, by omega, by omega, HO6, HR5, HOWN, HNO⟩
    · have CI := Lib.hid (citem_no K Cj hk)
      have HRAW : Hid (∀ W, RawAt 97 W b (ccs a (sall (l.take (k + j)))) → Off b b w W → CAt T W b c a l h (k + j)) := fun W h1 h2 => HC.out.move h2.left h1 g1
      clear Cj
      unfold ics at CI
      go_wp2_with fail
      refine CI.out.mono ?_
      rintro e w1 ⟨rfl, hb1⟩
      have a1 := hb1.alloc hb1.size (.cells (ics ⟨0, 0, 0, 0, 0, 0, ⟨#[]⟩⟩) 54)
      unfold ics at a1
      have HTK : Hid (TakeIs l dim v k (k + j)) := ⟨by omega, g1, hno.out, fun h => absurd h hk⟩
      obtain ⟨A2, c2, rfl, hI, hl2, hcap⟩ := its_of_own hown.out
      go_wp2
      rw [Exit.noGoto_ret]
      go_ret
      exact ⟨k + j, A2, c2, HTK.out, by rw [Nat.add_sub_cancel_left]; rfl, by rw [Nat.add_sub_cancel_left]; exact hI.below a1, by rw [Nat.add_sub_cancel_left]; exact hcap, HRAW.out _ (RawAt.below hr.out a1 (RawAt.lt hr.out)) (ho.trans (Off.of a1)), ho.trans (Off.of a1)⟩
end
theorem fld_d6 (n a b c m p : Int) (w : World) : (Instr.field 52 (.agg #[.int .i64 n, .int .i64 a, .int .i64 b, .int .i64 c, .int .i64 m, .int .i64 p]) 1).run Try.prog w = .ok (.agg #[.int .i64 a, .int .i64 b, .int .i64 c]) w := by kernel_rfl
/-- The three items of the laws' small case. -/
def m3 : List I7 := [⟨0, 0, 1, 0, 0, 0, ⟨#[]⟩⟩, ⟨0, 0, 2, 0, 0, 0, ⟨#[]⟩⟩, ⟨0, 7, 3, 0, 0, 0, ⟨#[]⟩⟩]
theorem m3_ok : Okl m3 := by
  intro i hi
  simp only [m3, List.mem_cons, List.not_mem_nil, or_false] at hi
  rcases hi with rfl | rfl | rfl <;> (unfold Oki Okd Okn; simp only; omega)
theorem m3_find {k : Nat} (h : FindIs m3 ((0 : Int).toNat) 1 1 k) : k = 1 := h.unique ⟨by decide, fun j hj => by
  obtain rfl : j = 0 := by omega
  show ¬ ((1 : Int) < 1 ∨ ((1 : Int) = 0 ∧ (1 : Int) = 1))
  omega, fun _ => .inl (by show (1 : Int) < 3; omega)⟩
theorem m3_ask : AskOk m3 0 1 1 := ⟨by omega, by omega, by omega, by show (1 : Int) ≤ 6; omega, .inr rfl⟩
theorem m3_take {m : Nat} (h : TakeIs m3 0 3 1 m) : m = 2 := by
  have h1 := h.ge
  have h2 : m ≤ 3 := h.le
  obtain rfl | rfl | rfl : m = 1 ∨ m = 2 ∨ m = 3 := by omega
  · have := h.yes (by decide)
    exact absurd (show (3 : Int) < 3 from this) (by omega)
  · rfl
  · have := h.no 2 (by omega) (by omega)
    exact absurd (show (6 : Int) ≤ 3 from this) (by omega)
section
variable {T : World → Addr → List I7 → Nat → Prop}
set_option maxHeartbeats 4000000 in
set_option maxRecDepth 100000 in
theorem third_yes (K : TreeQ T) (w : World) : Calls Try.prog 19 #[] w fun e w' => e = .returned (.bool true) ∧ Below w.heap.size w w' := by
  have hfd := fld_d6
  have hx0 := fun a b c W => idx3_0 a b c W
  go_enter Try.func19, Try.ntmps19
  go_wp2_with fail
  refine (K.new (some ⟨w.heap.size, 0, none⟩) 3 3 m3 _ (ItsAt.of_cells (by simp) (fun j u hu => ?_)) rfl ⟨Nat.le_refl _, fun h => by cases h⟩ (by omega) m3_ok).mono ?_
  · rw [cell_of_row _ _ _ _ _ _ (heap_alloc_new w _), ← Array.getElem?_toList, Nat.zero_add]
    exact hu
  rintro e w1 ⟨a, h, rfl, hT, hb1⟩
  have hbw : Below w.heap.size w w1 := ((Below.refl _ _).alloc (Nat.le_refl _) _).trans (hb1.mono (by simp))
  clear hb1
  have HT := Lib.hid hT; clear hT
  go_wp2_with fail
  refine (seeknew_any a w1).mono ?_
  rintro e w2 ⟨rfl, hr2, hb2⟩
  have C2 : CAt T w2 w1.heap.size w1.heap.size a m3 h 0 := ⟨hr2, fun W hW => K.below HT.out (hb2.trans (hW.below (Nat.le_refl _) (Nat.le_refl _) hb2.size)), by decide, m3_ok, by decide⟩
  have hsz := hbw.size
  generalize w1.heap.size = b at *
  have CT := Lib.hid (cto_yes K C2 0 1 1 m3_ask)
  clear C2 hr2 HT
  go_wp2_with fail
  refine CT.out.mono ?_
  rintro e w3 ⟨k, hf, rfl, C3, ho3⟩
  obtain rfl := m3_find hf
  clear hf CT
  have CK := Lib.hid (ctake_any K C3 0 3 (by omega))
  clear C3
  go_wp2_with fail
  refine CK.out.mono ?_
  rintro e w4 ⟨m, A4, c4, ht, rfl, _, _, C4, ho4⟩
  obtain rfl := m3_take ht
  clear ht CK
  have CI := Lib.hid (citem_yes K C4 (by decide))
  have CS := Lib.hid fun (W : World) (hW : Below w4.heap.size w4 W) => cstart_any (C4.keep hW)
  have CE := Lib.hid fun (W : World) (hW : Below w4.heap.size w4 W) => cend_yes K (C4.keep hW) (by decide)
  rw [show ith m3 2 = ⟨0, 7, 3, 0, 0, 0, ⟨#[]⟩⟩ from rfl] at CI
  rw [show sall (m3.take 2) = ⟨2, 3, 0, 0, 0, 0⟩ from S6.ext_ (by decide) (by decide) (by decide) (by decide) (by decide) (by decide)] at CS
  rw [show sall (m3.take (2 + 1)) = ⟨3, 6, 0, 0, 0, 0⟩ from S6.ext_ (by decide) (by decide) (by decide) (by decide) (by decide) (by decide)] at CE
  unfold ics at CI
  unfold scs at CS CE
  clear C4
  go_wp2_with fail
  refine CI.out.mono ?_
  rintro e w5 ⟨rfl, hb5⟩
  have a5 := hb5.alloc hb5.size (.cells (ics ⟨0, 7, 3, 0, 0, 0, ⟨#[]⟩⟩) 54)
  unfold ics at a5
  go_wp2_with fail
  refine (CS.out _ a5).mono ?_
  rintro e w6 ⟨rfl, hb6⟩
  have a6 := a5.trans (hb6.mono a5.size)
  go_wp2_with fail
  refine (CE.out _ a6).mono ?_
  rintro e w7 ⟨rfl, hb7⟩
  have a7 := a6.trans (hb7.mono a6.size)
  have e2 : Below w.heap.size w w2 := hbw.trans (hb2.mono hsz)
  have e3 := e2.trans (ho3.below hsz hsz e2.size)
  have e4 := e3.trans (ho4.below hsz hsz e3.size)
  have e7 := e4.trans (a7.mono e4.size)
  go_wp2
  go_ret
  exact ⟨rfl, e7⟩
end
section
variable {T : World → Addr → List I7 → Nat → Prop}
theorem right6_yes (A : Option Addr) (n c : Nat) (l : List I7) (w : World) (hA : ItsAt w A l) (hl : l.length = n) (hn : n ≤ maxLen) (h : n ≤ 300 ∧ Okl l) :
    Calls Try.prog 18 #[.slice A n c] w fun e w' => e = .returned (.bool true) ∧ Below w.heap.size w w' :=
  right6_any A n c l w hA hl (by unfold maxLen at hn; omega) true ⟨fun _ => h, fun _ => rfl⟩
theorem right6_no (A : Option Addr) (n c : Nat) (l : List I7) (w : World) (hA : ItsAt w A l) (hl : l.length = n) (hn : n ≤ maxLen) (h : ¬ (n ≤ 300 ∧ Okl l)) :
    Calls Try.prog 18 #[.slice A n c] w fun e w' => e = .returned (.bool false) ∧ Below w.heap.size w w' :=
  right6_any A n c l w hA hl (by unfold maxLen at hn; omega) false ⟨fun e => absurd e (by simp), fun e => absurd e h⟩
theorem to_find {l : List I7} {k m : Nat} (hk : k ≤ l.length) (h : FindIs l ((3 : Int).toNat) (k : Int) 1 m) : m = k := by
  have sd : ∀ j, j ≤ l.length → sdim (l.take j) 3 = (j : Int) := fun j hj => by
    unfold sdim
    rw [if_pos rfl, List.length_take, Nat.min_eq_left hj]
  refine h.unique ⟨hk, fun j hj => ?_, fun _ => ?_⟩
  · rw [show (3 : Int).toNat = 3 from rfl, sd _ (by omega)]
    unfold Stops
    omega
  · rw [show (3 : Int).toNat = 3 from rfl, sd _ (by omega)]
    unfold Stops
    omega
theorem to_ask {l : List I7} {k : Nat} (hk : k ≤ l.length) : AskOk l 3 (k : Int) 1 := ⟨by omega, by omega, by omega, by
  show (k : Int) ≤ sdim l 3
  unfold sdim
  rw [if_pos rfl]
  omega, .inr rfl⟩
/-- A cursor made of a tree. -/
theorem CAt.make (K : TreeQ T) {w w' : World} {a : Addr} {l : List I7} {h : Nat} (ht : T w a l h) (hb : Below w.heap.size w w') (hr : RawAt 97 w' w.heap.size (ccs a s0)) (c : Nat) (hc : w.heap.size ≤ c) : CAt T w' w.heap.size c a l h 0 :=
  ⟨hr, fun _ hW => K.below ht (hb.trans (hW.below (Nat.le_refl _) hc hb.size)), Nat.zero_le _, (K.ok ht).1, (K.ok ht).2⟩
end
end Go.Proofs.Ytbbplppcabeojaa
