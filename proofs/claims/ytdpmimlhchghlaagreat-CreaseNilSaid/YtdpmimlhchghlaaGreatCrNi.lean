/- Creases: Update of no crease. -/
import Derived.Test.YtdpmimlhchghlaaGreatCrG
import Derived.Test.YtdpmimlhchghlaaGreatCrF
import Derived.Test.YtdpmimlhchghlaaGreatCrD
import Derived.Test.YtdpmimlhchghlaaGreatCrQ
import Derived.Test.YtdpmimlhchghlaaGreatTreeR
import Derived.Deep.QuietTactic
import Derived.BigQuiet
namespace Go.Proofs.YtdpmimlhchghlaaGreat
open Go.RowKit
set_option linter.unusedVariables false
theorem crNone (w : World) : CrAt w none [] 0 := .inl ⟨rfl, rfl, rfl⟩
set_option maxHeartbeats 8000000 in
set_option maxRecDepth 100000 in
theorem cIndexF0 (A : Option Addr) (c : Nat) (K : Value) (w : World) : Calls Tryz.prog 91 #[.slice A 0 c, K] w fun e w' => e = .returned (.int .i64 (-1)) ∧ w' = w := by
  go_enter Tryz.func91, Tryz.ntmps91
  go_wp2_with fail
  go_loopg [8] 0 (fun g i wr => i = .int .i64 0 ∧ wr = w)
  case atStart => exact ⟨rfl, rfl⟩
  case round =>
    obtain ⟨rfl, rfl⟩ := hrel
    go_wp2
    go_ret
    exact ⟨rfl, rfl⟩
set_option maxHeartbeats 8000000 in
set_option maxRecDepth 100000 in
theorem cDelete0 (A : Option Addr) (c : Nat) (K : Value) (w : World) : Calls Tryz.prog 58 #[.slice A 0 c, K] w fun e w' => e = .returned (.slice A 0 c) ∧ w' = w := by
  have CI := Lib.hid (cIndexF0 A c K w)
  go_enter Tryz.func58, Tryz.ntmps58
  go_wp2_with fail
  with_reducible refine (CI.out).mono ?_
  rintro e1 w1 ⟨rfl, rfl⟩
  go_wp2
  go_ret
  exact ⟨rfl, rfl⟩
set_option maxHeartbeats 8000000 in
set_option maxRecDepth 100000 in
theorem cContains0 (A : Option Addr) (c : Nat) (K : Value) (w : World) : Calls Tryz.prog 89 #[.slice A 0 c, K] w fun e w' => e = .returned (.bool false) ∧ w' = w := by
  have CI := Lib.hid (cIndexF0 A c K w)
  have k0 : decide ((0 : Int) ≤ -1) = false := rfl
  go_enter Tryz.func89, Tryz.ntmps89
  go_wp2_with fail
  with_reducible refine (CI.out).mono ?_
  rintro e1 w1 ⟨rfl, rfl⟩
  go_wp2
  go_ret
  exact ⟨rfl, rfl⟩
set_option maxHeartbeats 8000000 in
set_option maxRecDepth 100000 in
theorem cAcross0 (A : Option Addr) (c : Nat) (p : Int) (w : World) : Calls Tryz.prog 57 #[.slice A 0 c, .int .i64 p] w fun e w' => e = .returned (.bool false) ∧ Below w.heap.size w w' := by
  have CC := Lib.hid fun (K : Value) (W : World) => cContains0 A c K W
  have x1 := Lib.hid ((Below.refl w.heap.size w).alloc (Nat.le_refl _) (.cells #[.int .i64 p] 3))
  go_enter Tryz.func57, Tryz.ntmps57
  go_wp2_with fail
  with_reducible refine (CC.out _ _).mono ?_
  rintro e1 w1 ⟨rfl, rfl⟩
  go_wp2
  go_ret
  exact ⟨rfl, x1.out⟩
set_option maxHeartbeats 8000000 in
set_option maxRecDepth 100000 in
theorem cSpans0 (w : World) : Calls Tryz.prog 55 #[.agg #[.int .i64 0, .int .i64 0], .int .i64 0] w fun e w' => e = .returned (.bool true) ∧ Below w.heap.size w w' := by
  have x1 := Lib.hid ((Below.refl w.heap.size w).alloc (Nat.le_refl _) (.cells #[.int .i64 0, .int .i64 0] 47))
  go_enter Tryz.func55, Tryz.ntmps55
  go_wp2
  go_ret
  exact ⟨rfl, x1.out⟩
set_option maxHeartbeats 8000000 in
set_option maxRecDepth 100000 in
theorem cHides0 (w : World) : Calls Tryz.prog 56 #[.pointer none, .int .i64 0] w fun e w' => e = .returned (.bool false) ∧ Below w.heap.size w w' := by
  have CO := Lib.hid (crOut_yes (crNone w) 0 ⟨Int.le_refl 0, Int.le_refl 0⟩)
  have CI := Lib.hid fun W => crIn_yes (crNone W) 0 ⟨Int.le_refl 0, Int.le_refl 0⟩
  rw [coutP_nil] at CO
  rw [cinP_nil] at CI
  go_enter Tryz.func56, Tryz.ntmps56
  go_wp2_with fail
  with_reducible refine (CO.out).mono ?_
  rintro e w1 ⟨rfl, b1⟩
  have HB1 := Lib.hid b1
  clear b1
  go_wp2_with fail
  with_reducible refine (CI.out _).mono ?_
  rintro e w2 ⟨rfl, b2⟩
  have HB2 := Lib.hid (HB1.out.trans (b2.mono HB1.out.size))
  clear b2
  go_wp2
  go_ret
  exact ⟨rfl, HB2.out⟩
set_option maxHeartbeats 8000000 in
set_option maxRecDepth 100000 in
theorem cAhead0 (w : World) : Calls Tryz.prog 60 #[.pointer none, .int .i64 0] w fun e w' => e = .returned (.tuple #[.int .i64 0, .int .i64 0]) ∧ Below w.heap.size w w' := by
  have hq : ∀ W : World, TP W none [] 0 := fun W => .inl ⟨rfl, rfl, rfl⟩
  have hol := (hq w).okl.1
  have CK := Lib.hid fun W => crkept_nil W
  have CS := Lib.hid (tfind_any none [] 0 ((0 : Nat) : Int) 0 1 w (hq w) ((wv_ask hol (by omega) 0 1).2 ⟨⟨Int.le_refl 0, Int.le_refl 0⟩, .inr rfl⟩))
  have HFI := Lib.hid (wfnd_is hol (show 0 < 2 by omega) 0 1)
  have CA := Lib.hid fun W => tat_bad none [] 0 (-1) W (hq W) (by simp)
  rw [show ics ⟨0, 0, 0, 0, 0, 0, ⟨#[]⟩⟩ = #[.int .i64 0, .int .i64 0, .int .i64 0, .int .i64 0, .int .i64 0, .int .i64 0, .string ⟨#[]⟩] from rfl] at CA
  have ww : IntKind.i64.wrap ((0 : Int) - 1) = -1 := by decide
  have ww0 : IntKind.i64.wrap (-1 : Int) = -1 := by decide
  clear hq hol
  go_enter Tryz.func60, Tryz.ntmps60
  go_wp2_with fail
  with_reducible refine (CK.out _).mono ?_
  rintro e w1 ⟨rfl, hw1⟩
  have hw1 := hw1.symm
  subst hw1
  go_wp2_with fail
  refine CS.out.mono ?_
  rintro e w2 ⟨k, z, hf, hz1, hz2, rfl, b2⟩
  obtain rfl := hf.unique HFI.out
  have hk0 : wfnd 0 [] 0 1 = 0 := rfl
  rw [hk0]
  have hs : sall (([] : List I7).take 0) = ⟨0, 0, 0, 0, 0, 0⟩ := rfl
  rw [hs]
  unfold vcs
  simp only
  have R3 : RawAt 99 (w2.alloc (.cells #[.int .i64 ((0 : Nat) : Int), .int .i64 0, .int .i64 0, .int .i64 0, .int .i64 0, .int .i64 0, .int .i64 0, .int .i64 z] 99)) w2.heap.size #[.int .i64 ((0 : Nat) : Int), .int .i64 0, .int .i64 0, .int .i64 0, .int .i64 0, .int .i64 0, .int .i64 0, .int .i64 z] := heap_alloc_new w2 _
  have x3 : Below w2.heap.size w2 (w2.alloc (.cells #[.int .i64 ((0 : Nat) : Int), .int .i64 0, .int .i64 0, .int .i64 0, .int .i64 0, .int .i64 0, .int .i64 0, .int .i64 z] 99)) := (Below.refl _ _).alloc (Nat.le_refl _) _
  have HB3 := Lib.hid (b2.trans (x3.mono b2.size))
  have g0 := RawAt.cell R3 0
  have g2 := RawAt.cell R3 2
  simp at g0 g2
  clear b2 CS HFI hf R3 x3
  go_wp2_with fail
  go_quiet (fail)
  have HB4 := Lib.hid (drewN_below HB3.out nq)
  clear g0 g2
  generalize World.drewN _ nq = W4 at *
  go_wp2_with fail
  go_loopg [8, 9] 1 (fun g v i wr => v = .int .i64 0 ∧ i = .int .i64 0 ∧ Hid (Below w.heap.size w wr))
  case atStart => exact ⟨rfl, rfl, HB4⟩
  case round =>
    obtain ⟨rfl, rfl, hb⟩ := hrel
    go_wp2_with fail
    with_reducible refine (CK.out _).mono ?_
    rintro e w5 ⟨rfl, hw5⟩
    have hw5 := hw5.symm
    subst hw5
    go_wp2_with fail
    with_reducible refine (CA.out _).mono ?_
    rintro e w6 ⟨rfl, b6⟩
    have x7 := (Below.refl w6.heap.size w6).alloc (Nat.le_refl _) (.cells #[.int .i64 0, .int .i64 0, .int .i64 0, .int .i64 0, .int .i64 0, .int .i64 0, .string ⟨#[]⟩] 104)
    have HB6 := Lib.hid (hb.out.trans (b6.mono hb.out.size))
    have HB7 := Lib.hid (HB6.out.trans (x7.mono HB6.out.size))
    clear b6 x7
    go_wp2
    go_ret2
    exact ⟨rfl, HB7.out⟩
set_option maxHeartbeats 8000000 in
set_option maxRecDepth 100000 in
theorem cBehind0 (w : World) : Calls Tryz.prog 61 #[.pointer none, .int .i64 0] w fun e w' => e = .returned (.tuple #[.int .i64 0, .int .i64 0]) ∧ Below w.heap.size w w' := by
  have hq : ∀ W : World, TP W none [] 0 := fun W => .inl ⟨rfl, rfl, rfl⟩
  have hol := (hq w).okl.1
  have CK := Lib.hid fun W => crkept_nil W
  have CS := Lib.hid (tfind_any none [] 0 ((0 : Nat) : Int) 0 1 w (hq w) ((wv_ask hol (by omega) 0 1).2 ⟨⟨Int.le_refl 0, Int.le_refl 0⟩, .inr rfl⟩))
  have HFI := Lib.hid (wfnd_is hol (show 0 < 2 by omega) 0 1)
  have CA := Lib.hid fun W => tat_bad none [] 0 (0) W (hq W) (by simp)
  rw [show ics ⟨0, 0, 0, 0, 0, 0, ⟨#[]⟩⟩ = #[.int .i64 0, .int .i64 0, .int .i64 0, .int .i64 0, .int .i64 0, .int .i64 0, .string ⟨#[]⟩] from rfl] at CA
  have ww : IntKind.i64.wrap ((0 : Int) - 1) = -1 := by decide
  have ww0 : IntKind.i64.wrap (-1 : Int) = -1 := by decide
  clear hq hol
  go_enter Tryz.func61, Tryz.ntmps61
  go_wp2_with fail
  with_reducible refine (CK.out _).mono ?_
  rintro e w1 ⟨rfl, hw1⟩
  have hw1 := hw1.symm
  subst hw1
  go_wp2_with fail
  refine CS.out.mono ?_
  rintro e w2 ⟨k, z, hf, hz1, hz2, rfl, b2⟩
  obtain rfl := hf.unique HFI.out
  have hk0 : wfnd 0 [] 0 1 = 0 := rfl
  rw [hk0]
  have hs : sall (([] : List I7).take 0) = ⟨0, 0, 0, 0, 0, 0⟩ := rfl
  rw [hs]
  unfold vcs
  simp only
  have R3 : RawAt 99 (w2.alloc (.cells #[.int .i64 ((0 : Nat) : Int), .int .i64 0, .int .i64 0, .int .i64 0, .int .i64 0, .int .i64 0, .int .i64 0, .int .i64 z] 99)) w2.heap.size #[.int .i64 ((0 : Nat) : Int), .int .i64 0, .int .i64 0, .int .i64 0, .int .i64 0, .int .i64 0, .int .i64 0, .int .i64 z] := heap_alloc_new w2 _
  have x3 : Below w2.heap.size w2 (w2.alloc (.cells #[.int .i64 ((0 : Nat) : Int), .int .i64 0, .int .i64 0, .int .i64 0, .int .i64 0, .int .i64 0, .int .i64 0, .int .i64 z] 99)) := (Below.refl _ _).alloc (Nat.le_refl _) _
  have HB3 := Lib.hid (b2.trans (x3.mono b2.size))
  have g0 := RawAt.cell R3 0
  have g2 := RawAt.cell R3 2
  simp at g0 g2
  clear b2 CS HFI hf R3 x3
  go_wp2_with fail
  go_quiet (fail)
  have HB4 := Lib.hid (drewN_below HB3.out nq)
  clear g0 g2
  generalize World.drewN _ nq = W4 at *
  go_wp2_with fail
  go_loopg [8, 9] 1 (fun g v i wr => v = .int .i64 0 ∧ i = .int .i64 0 ∧ Hid (Below w.heap.size w wr))
  case atStart => exact ⟨rfl, rfl, HB4⟩
  case round =>
    obtain ⟨rfl, rfl, hb⟩ := hrel
    go_wp2_with fail
    with_reducible refine (CK.out _).mono ?_
    rintro e w5 ⟨rfl, hw5⟩
    have hw5 := hw5.symm
    subst hw5
    go_wp2_with fail
    with_reducible refine (CA.out _).mono ?_
    rintro e w6 ⟨rfl, b6⟩
    have x7 := (Below.refl w6.heap.size w6).alloc (Nat.le_refl _) (.cells #[.int .i64 0, .int .i64 0, .int .i64 0, .int .i64 0, .int .i64 0, .int .i64 0, .string ⟨#[]⟩] 104)
    have HB6 := Lib.hid (hb.out.trans (b6.mono hb.out.size))
    have HB7 := Lib.hid (HB6.out.trans (x7.mono HB6.out.size))
    clear b6 x7
    go_wp2
    go_ret2
    exact ⟨rfl, HB7.out⟩
set_option maxHeartbeats 16000000 in
set_option maxRecDepth 100000 in
theorem crUpd0 (w : World) : Calls Tryz.prog 26 #[.pointer none, .agg #[.int .i64 0, .int .i64 0], .agg #[.int .i64 0, .int .i64 0], .pointer none, .slice none 0 0] w fun e w' => ∃ a h, e = .returned (.tuple #[.pointer (some a), .int .i64 0]) ∧ CrAt w' (some a) [] h ∧ Below w.heap.size w w' := by
  have hwv : Wv 0 [] ((0 : Nat) : Int) := ⟨List.Pairwise.nil, fun a h => (by cases h), fun a h => (by cases h), Int.le_refl 0, fun a h => (by cases h), fun a h => (by cases h), List.Pairwise.nil⟩
  have hwn : ∀ W : World, WvAt W none (wvP 0 [] ((0 : Nat) : Int)) 0 := fun W => .inl ⟨rfl, rfl, rfl⟩
  have CWO := Lib.hid fun (W : World) => cWoven_any none 0 0 [] W (hwn W) hwv (fun h => absurd h (Nat.lt_irrefl 0)) rfl (by omega)
  have CZ := Lib.hid fun W => crSizes (crNone W)
  have CZW := Lib.hid fun W => wvSizes (hwn W)
  rw [show wdsum 0 ([] : List I7) = 0 from rfl, show wdsum 1 ([] : List I7) = 0 from rfl] at CZ
  rw [show wdsum 0 (wvP 0 [] ((0 : Nat) : Int)) = 0 from rfl, show wdsum 1 (wvP 0 [] ((0 : Nat) : Int)) = 0 from rfl] at CZW
  have CS := Lib.hid fun W => cSpans0 W
  have CH := Lib.hid fun W => cHides0 W
  have CA := Lib.hid fun (A : Option Addr) (c : Nat) (W : World) => cAcross0 A c 0 W
  have CD := Lib.hid fun (A : Option Addr) (c : Nat) (K : Value) (W : World) => cDelete0 A c K W
  have CAH := Lib.hid fun W => cAhead0 W
  have CBH := Lib.hid fun W => cBehind0 W
  have CK := Lib.hid fun W => crkept_nil W
  have hp0 : crP 0 [] 0 = [] := by rw [crP_nil]; rfl
  have CP := Lib.hid fun (A : Option Addr) (c : Nat) (W : World) => cPieces_any A 0 c [] 0 0 W (fun h => absurd h (Nat.lt_irrefl 0)) rfl (by omega) (by omega) (by omega) (fun x hx => by cases hx)
  rw [hp0, List.length_nil] at CP
  have hok : Okl ([] : List I7) := by
    have := crP_ok (l := []) (f := 0) (t := 0) (Int.le_refl 0) (Int.le_refl 0) (by omega)
    rwa [hp0] at this
  have CR := Lib.hid fun (A : Option Addr) (c : Nat) (W : World) (hc : Caps A 0 c) => trepl_any none [] [] 0 0 0 A 0 c W (.inl ⟨rfl, rfl, rfl⟩) (Nat.le_refl _) (Nat.le_refl _) (fun h => absurd h (Nat.lt_irrefl 0)) rfl hc (by simp) hok
  rw [show ((0 : Nat) : Int) = 0 from rfl] at CR
  have w00 : IntKind.i64.wrap ((0 : Int) - 0) = 0 := by decide
  have w01 : IntKind.i64.wrap ((0 : Int) + 0) = 0 := by decide
  have w02 : IntKind.i64.wrap (0 : Int) = 0 := by decide
  obtain ⟨W1, hW1⟩ : ∃ W1, W1 = (w.alloc (.cells #[.int .i64 0, .int .i64 0] 47)).alloc (.cells #[.int .i64 0, .int .i64 0] 47) := ⟨_, rfl⟩
  obtain ⟨n1, n2, n3, n4⟩ := new2 w 47 47 #[.int .i64 0, .int .i64 0] #[.int .i64 0, .int .i64 0]
  rw [← hW1] at n1 n2 n3 n4
  have HW1 := Lib.hid hW1
  have HN1 := Lib.hid n1
  have HN2 := Lib.hid n2
  have X1 := Lib.hid n3
  have MK : Hid (∀ V : World, Below W1.heap.size W1 V → (fun V : World => (V.cell? ⟨w.heap.size, 0, none⟩ = some (.int .i64 0) ∧ V.cell? ⟨w.heap.size, 1, none⟩ = some (.int .i64 0)) ∧ V.cell? ⟨w.heap.size + 1, 0, none⟩ = some (.int .i64 0) ∧ V.cell? ⟨w.heap.size + 1, 1, none⟩ = some (.int .i64 0)) V) := Lib.hid fun V hV => by
    have q := RawAt.below HN1.out hV HN1.out.lt
    have q2 := RawAt.below HN2.out hV HN2.out.lt
    exact ⟨⟨RawAt.cell q 0, RawAt.cell q 1⟩, RawAt.cell q2 0, RawAt.cell q2 1⟩
  clear n1 n2 n3 n4 hW1 hwv hwn hp0 hok
  go_enter Tryz.func26, Tryz.ntmps26
  go_wp2_with fail
  rw [← HW1.out]
  with_reducible refine (CWO.out W1).mono ?_
  rintro e w2 ⟨hc, b2⟩
  rcases hc with ⟨_, v2, rfl, o2⟩ | ⟨hno, _⟩
  rotate_left
  · exact absurd trivial hno
  obtain ⟨A2, c2, rfl, _, _, _⟩ := rows_of_own wencS_len (by omega) o2
  have HQ2 := Lib.hid b2
  clear b2 o2 CWO
  go_wp2_with fail
  with_reducible refine (CZ.out _).mono ?_
  rintro e w3 ⟨rfl, b3⟩
  have HQ3 := Lib.hid (HQ2.out.trans (b3.mono HQ2.out.size))
  clear b3
  go_wp2_with fail
  with_reducible refine (CZW.out _).mono ?_
  rintro e w4 ⟨rfl, b4⟩
  have HQ4 := Lib.hid (HQ3.out.trans (b4.mono HQ3.out.size))
  obtain ⟨⟨p0, p1⟩, p2, p3⟩ := MK.out _ HQ4.out
  clear b4
  go_wp2_with fail
  with_reducible refine (CS.out _).mono ?_
  rintro e w5 ⟨rfl, b5⟩
  have HQ5 := Lib.hid (HQ4.out.trans (b5.mono HQ4.out.size))
  clear b5 p0 p1 p2 p3
  obtain ⟨⟨p0, p1⟩, p2, p3⟩ := MK.out _ HQ5.out
  go_wp2_with fail
  with_reducible refine (CS.out _).mono ?_
  rintro e w6 ⟨rfl, b6⟩
  have HQ6 := Lib.hid (HQ5.out.trans (b6.mono HQ5.out.size))
  clear b6 p0 p1 p2 p3
  obtain ⟨⟨p0, p1⟩, p2, p3⟩ := MK.out _ HQ6.out
  go_wp2_with fail
  with_reducible refine (CH.out _).mono ?_
  rintro e w7 ⟨rfl, b7⟩
  have HQ7 := Lib.hid (HQ6.out.trans (b7.mono HQ6.out.size))
  clear b7 p0 p1 p2 p3
  obtain ⟨⟨p0, p1⟩, p2, p3⟩ := MK.out _ HQ7.out
  go_wp2_with fail
  with_reducible refine (CH.out _).mono ?_
  rintro e w8 ⟨rfl, b8⟩
  have HQ8 := Lib.hid (HQ7.out.trans (b8.mono HQ7.out.size))
  clear b8 p0 p1 p2 p3
  obtain ⟨⟨p0, p1⟩, p2, p3⟩ := MK.out _ HQ8.out
  go_wp2_with fail
  with_reducible refine (CA.out _ _ _).mono ?_
  rintro e w9 ⟨rfl, b9⟩
  have HQ9 := Lib.hid (HQ8.out.trans (b9.mono HQ8.out.size))
  clear b9 p0 p1 p2 p3
  obtain ⟨⟨p0, p1⟩, p2, p3⟩ := MK.out _ HQ9.out
  go_wp2_with fail
  with_reducible refine (CA.out _ _ _).mono ?_
  rintro e w10 ⟨rfl, b10⟩
  have HQ10 := Lib.hid (HQ9.out.trans (b10.mono HQ9.out.size))
  clear b10 p0 p1 p2 p3
  obtain ⟨⟨p0, p1⟩, p2, p3⟩ := MK.out _ HQ10.out
  go_wp2_with fail
  with_reducible refine (CD.out _ _ _ _).mono ?_
  rintro e w11 ⟨rfl, hw11⟩
  have hw11 := hw11.symm
  subst hw11
  go_wp2_with fail
  with_reducible refine (CAH.out _).mono ?_
  rintro e w12 ⟨rfl, b12⟩
  have HQ12 := Lib.hid (HQ10.out.trans (b12.mono HQ10.out.size))
  clear b12 p0 p1 p2 p3
  obtain ⟨⟨p0, p1⟩, p2, p3⟩ := MK.out _ HQ12.out
  go_wp2_with fail
  with_reducible refine (CBH.out _).mono ?_
  rintro e w13 ⟨rfl, b13⟩
  have HQ13 := Lib.hid (HQ12.out.trans (b13.mono HQ12.out.size))
  clear b13 p0 p1 p2 p3
  have hW2 : Below W1.heap.size W1 w13.drew := HQ13.out.drew
  go_wp2_with fail
  refine wp_region_noPanic ?_
  refine wp_region_held_drew (S := (fun V => (V.cell? ⟨w.heap.size, 0, none⟩ = some (.int .i64 0) ∧ V.cell? ⟨w.heap.size, 1, none⟩ = some (.int .i64 0)) ∧ V.cell? ⟨w.heap.size + 1, 0, none⟩ = some (.int .i64 0) ∧ V.cell? ⟨w.heap.size + 1, 1, none⟩ = some (.int .i64 0))) (by kernel_rfl) (MK.out _ hW2) (fun hHeld => ?_)
  refine wpAnyH_take (i := 0) (v := ?_) rfl (by kernel_rfl) (by kernel_rfl) (by kernel_rfl) (fun _ _ _ h => h) (Or.inl ⟨by rfl, ?_⟩) hHeld ?_
  rotate_left
  · intro w hSw
    (try dsimp only at hSw)
    go_simp
    try with_reducible rfl
  go_simp
  refine wpAnyH_take (i := 2) (v := ?_) rfl (by kernel_rfl) (by kernel_rfl) (by kernel_rfl) (fun _ _ _ h => h) (Or.inl ⟨by rfl, ?_⟩) hHeld ?_
  rotate_left
  · intro w hSw
    (try dsimp only at hSw)
    go_simp
    try with_reducible rfl
  go_simp
  refine wpAnyH_take (i := 3) (v := ?_) rfl (by kernel_rfl) (by kernel_rfl) (by kernel_rfl) (fun _ _ _ h => h) (Or.inl ⟨by rfl, ?_⟩) hHeld ?_
  rotate_left
  · intro w hSw
    (try dsimp only at hSw)
    go_simp
    try with_reducible rfl
  go_simp
  refine wpAnyH_take (i := 4) (v := ?_) rfl (by kernel_rfl) (by kernel_rfl) (by kernel_rfl) (fun _ _ _ h => h) (Or.inl ⟨by rfl, ?_⟩) hHeld ?_
  rotate_left
  · intro w hSw
    (try dsimp only at hSw)
    go_simp
    try with_reducible rfl
  go_simp
  refine wpAnyH_take (i := 5) (v := ?_) rfl (by kernel_rfl) (by kernel_rfl) (by kernel_rfl) (fun _ _ _ h => h) (Or.inl ⟨by rfl, ?_⟩) hHeld ?_
  rotate_left
  · intro w hSw
    (try dsimp only at hSw)
    go_simp
    try with_reducible rfl
  go_simp
  refine wpAnyH_take (i := 6) (v := ?_) rfl (by kernel_rfl) (by kernel_rfl) (by kernel_rfl) (fun _ _ _ h => h) (Or.inl ⟨by rfl, ?_⟩) hHeld ?_
  rotate_left
  · intro w hSw
    (try dsimp only at hSw)
    go_simp
    try with_reducible rfl
  go_simp
  refine wpAnyH_take (i := 7) (v := ?_) rfl (by kernel_rfl) (by kernel_rfl) (by kernel_rfl) (fun _ _ _ h => h) (Or.inl ⟨by rfl, ?_⟩) hHeld ?_
  rotate_left
  · intro w hSw
    (try dsimp only at hSw)
    go_simp
    try with_reducible rfl
  go_simp
  refine wpAnyH_take (i := 8) (v := ?_) rfl (by kernel_rfl) (by kernel_rfl) (by kernel_rfl) (fun _ _ _ h => h) (Or.inl ⟨by rfl, ?_⟩) hHeld ?_
  rotate_left
  · intro w hSw
    (try dsimp only at hSw)
    go_simp
    try with_reducible rfl
  go_simp
  refine wpAnyH_take (i := 9) (v := ?_) rfl (by kernel_rfl) (by kernel_rfl) (by kernel_rfl) (fun _ _ _ h => h) (Or.inl ⟨by rfl, ?_⟩) hHeld ?_
  rotate_left
  · intro w hSw
    (try dsimp only at hSw)
    go_simp
    try with_reducible rfl
  go_simp
  refine wpAnyH_take (i := 10) (v := ?_) rfl (by kernel_rfl) (by kernel_rfl) (by kernel_rfl) (fun _ _ _ h => h) (Or.inl ⟨by rfl, ?_⟩) hHeld ?_
  rotate_left
  · intro w hSw
    (try dsimp only at hSw)
    go_simp
    try with_reducible rfl
  go_simp
  refine wpAnyH_take (i := 11) (v := ?_) rfl (by kernel_rfl) (by kernel_rfl) (by kernel_rfl) (fun _ _ _ h => h) (Or.inl ⟨by rfl, ?_⟩) hHeld ?_
  rotate_left
  · intro w hSw
    (try dsimp only at hSw)
    go_simp
    try with_reducible rfl
  go_simp
  refine wpAnyH_take (i := 12) (v := ?_) rfl (by kernel_rfl) (by kernel_rfl) (by kernel_rfl) (fun _ _ _ h => h) (Or.inl ⟨by rfl, ?_⟩) hHeld ?_
  rotate_left
  · intro w hSw
    (try dsimp only at hSw)
    go_simp
    try with_reducible rfl
  go_simp
  refine wpAnyH_ready (rs := [1]) (by kernel_rfl) (by simp) ?_
  refine AllReadyH.cons rfl (fun K hK => ?_) ?_
  rotate_left
  · exact AllReadyH.nil
  go_simp
  go_wp2_with (first | (go_at_call 45; ((with_reducible refine (CK.out _).mono ?_); rintro e wK ⟨rfl, hwK⟩); have hwK := hwK.symm; subst hwK) | (go_at_call 40; ((with_reducible refine (CP.out _ _ _).mono ?_); rintro e wP ⟨vP, rfl, oP, bP⟩); obtain ⟨AP, cP, rfl, _, _, hcP⟩ := rows_of_own encIt_len (by omega) oP; have hW2 := hW2.trans (bP.mono hW2.size); clear oP) | (go_at_call 62; ((with_reducible refine (CR.out AP cP _ hcP).mono ?_); rintro e wR ⟨aR, hR, rfl, hTR, bR⟩); have hW2 := hW2.trans (bR.mono hW2.size)))
  refine hK.out _ _ (by with_reducible exact MK.out _ hW2) (fun hHeld => ?_)
  clear hK K
  go_simp
  refine wpAnyH_ready (rs := [13]) (by kernel_rfl) (by simp) ?_
  refine AllReadyH.cons rfl (fun K hK => ?_) ?_
  rotate_left
  · exact AllReadyH.nil
  go_simp
  go_wp2_with (first | (go_at_call 45; ((with_reducible refine (CK.out _).mono ?_); rintro e wK ⟨rfl, hwK⟩); have hwK := hwK.symm; subst hwK) | (go_at_call 40; ((with_reducible refine (CP.out _ _ _).mono ?_); rintro e wP ⟨vP, rfl, oP, bP⟩); obtain ⟨AP, cP, rfl, _, _, hcP⟩ := rows_of_own encIt_len (by omega) oP; have hW2 := hW2.trans (bP.mono hW2.size); clear oP) | (go_at_call 62; ((with_reducible refine (CR.out AP cP _ hcP).mono ?_); rintro e wR ⟨aR, hR, rfl, hTR, bR⟩); have hW2 := hW2.trans (bR.mono hW2.size)))
  refine hK.out _ _ (by with_reducible exact MK.out _ hW2) (fun hHeld => ?_)
  clear hK K
  go_simp
  refine wpAnyH_ready (rs := [14]) (by kernel_rfl) (by simp) ?_
  refine AllReadyH.cons rfl (fun K hK => ?_) ?_
  rotate_left
  · exact AllReadyH.nil
  go_simp
  go_wp2_with (first | (go_at_call 45; ((with_reducible refine (CK.out _).mono ?_); rintro e wK ⟨rfl, hwK⟩); have hwK := hwK.symm; subst hwK) | (go_at_call 40; ((with_reducible refine (CP.out _ _ _).mono ?_); rintro e wP ⟨vP, rfl, oP, bP⟩); obtain ⟨AP, cP, rfl, _, _, hcP⟩ := rows_of_own encIt_len (by omega) oP; have hW2 := hW2.trans (bP.mono hW2.size); clear oP) | (go_at_call 62; ((with_reducible refine (CR.out AP cP _ hcP).mono ?_); rintro e wR ⟨aR, hR, rfl, hTR, bR⟩); have hW2 := hW2.trans (bR.mono hW2.size)))
  refine hK.out _ _ (by with_reducible exact MK.out _ hW2) (fun hHeld => ?_)
  clear hK K
  go_simp
  refine wpAnyH_take (i := 15) (v := ?_) rfl (by kernel_rfl) (by kernel_rfl) (by kernel_rfl) (fun _ _ _ h => h) (Or.inl ⟨by rfl, ?_⟩) hHeld ?_
  rotate_left
  · intro w hSw
    (try dsimp only at hSw)
    go_simp
    try with_reducible rfl
  go_simp
  refine wpAnyH_take (i := 16) (v := ?_) rfl (by kernel_rfl) (by kernel_rfl) (by kernel_rfl) (fun _ _ _ h => h) (Or.inl ⟨by rfl, ?_⟩) hHeld ?_
  rotate_left
  · intro w hSw
    (try dsimp only at hSw)
    go_simp
    try with_reducible rfl
  go_simp
  refine wpAnyH_take (i := 17) (v := ?_) rfl (by kernel_rfl) (by kernel_rfl) (by kernel_rfl) (fun _ _ _ h => h) (Or.inl ⟨by rfl, ?_⟩) hHeld ?_
  rotate_left
  · intro w hSw
    (try dsimp only at hSw)
    go_simp
    try with_reducible rfl
  go_simp
  refine wpAnyH_take (i := 18) (v := ?_) rfl (by kernel_rfl) (by kernel_rfl) (by kernel_rfl) (fun _ _ _ h => h) (Or.inl ⟨by rfl, ?_⟩) hHeld ?_
  rotate_left
  · intro w hSw
    (try dsimp only at hSw)
    go_simp
    try with_reducible rfl
  go_simp
  refine wpAnyH_take (i := 19) (v := ?_) rfl (by kernel_rfl) (by kernel_rfl) (by kernel_rfl) (fun _ _ _ h => h) (Or.inl ⟨by rfl, ?_⟩) hHeld ?_
  rotate_left
  · intro w hSw
    (try dsimp only at hSw)
    go_simp
    try with_reducible rfl
  go_simp
  refine wpAnyH_done (by kernel_rfl) ?_ _
  refine NoPanic.normal ?_
  have HB5 := Lib.hid (X1.out.trans (hW2.mono X1.out.size))
  have x5 : Below wR.heap.size wR (wR.alloc (.cells #[.pointer (some aR)] 85)) := (Below.refl _ _).alloc (Nat.le_refl _) _
  have HF : Hid (CrAt (wR.alloc (.cells #[.pointer (some aR)] 85)) (some ⟨wR.heap.size, 0, none⟩) [] hR) := Lib.hid (.inr ⟨wR.heap.size, some aR, rfl, heap_alloc_new wR _, hTR.below x5⟩)
  have HB6 := Lib.hid (HB5.out.trans (x5.mono HB5.out.size))
  clear hTR hW2 MK x5 bR bP
  go_wp2
  go_ret2
  exact ⟨_, hR, rfl, HF.out, HB6.out⟩
end Go.Proofs.YtdpmimlhchghlaaGreat
