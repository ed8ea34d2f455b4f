/- Creases: the law CreaseNew, walked. -/
import Derived.Test.YtdpmimlhchghlaaGreatCrW
import Derived.Test.YtdpmimlhchghlaaGreatCrX
import Derived.Test.YtdpmimlhchghlaaGreatCrR
import Derived.Test.YtdpmimlhchghlaaGreatTxO
namespace Go.Proofs.YtdpmimlhchghlaaGreat
open Go.RowKit Go.Sort
set_option linter.unusedVariables false
set_option maxHeartbeats 16000000 in
set_option maxRecDepth 100000 in
theorem creaseNew_walk (t : Txt) (w : World) (hT : TxtOk w t) :
    Calls Tryz.prog 3 #[.agg #[.int .i64 t.n, .slice t.A t.m t.c, .slice t.B t.k t.d]] w fun e w' => e = .returned (.bool true) ∧ Below w.heap.size w w' := by
  obtain ⟨n, A, m, c, l, B, k, d, o⟩ := t
  obtain ⟨wf, la, mx, caps, rows, ok, lb, mxb, capsb, rowsb, okb⟩ := hT
  simp only at wf la mx caps rows ok lb mxb capsb rowsb okb ⊢
  have x1 : Below w.heap.size w (w.alloc (.cells #[.int .i64 n, .slice A m c, .slice B k d] 25)) := (Below.refl _ _).alloc (Nat.le_refl _) _
  have r1 : RawAt 25 (w.alloc (.cells #[.int .i64 n, .slice A m c, .slice B k d] 25)) w.heap.size #[.int .i64 n, .slice A m c, .slice B k d] := heap_alloc_new w _
  obtain ⟨W1, hW1⟩ : ∃ W1, W1 = w.alloc (.cells #[.int .i64 n, .slice A m c, .slice B k d] 25) := ⟨_, rfl⟩
  rw [← hW1] at x1 r1
  have HW1 := Lib.hid hW1
  have X1 := Lib.hid x1
  have R1 := Lib.hid r1
  have y0 : W1.cell? ⟨w.heap.size, 0, none⟩ = some (.int .i64 n) := RawAt.cell r1 0
  have y1 : W1.cell? ⟨w.heap.size, 1, none⟩ = some (.slice A m c) := RawAt.cell r1 1
  have y2 : W1.cell? ⟨w.heap.size, 2, none⟩ = some (.slice B k d) := RawAt.cell r1 2
  clear hW1 x1 r1
  have CLO := Lib.hid fun (b : Bool) (hb : b = true ↔ ¬ Short16 n l o) => long16_any n A m c l B k d o b W1 (rows.below X1.out) caps la mx (fun x hx => (ok x hx).2.2.2.2) lb mxb hb
  have C6 := Lib.hid fun W => csix_any W
  by_cases g : Short16 n l o
  · have CLF := Lib.hid (CLO.out false ⟨fun h => absurd h (by simp), fun h => absurd g h⟩)
    obtain ⟨g0, g1, g2, g3, g4, g5⟩ := g
    obtain ⟨N, rfl⟩ : ∃ N : Nat, n = N := ⟨n.toNat, by omega⟩
    have hx : Tx16 W1 N A m c l B k o := ⟨rows.below X1.out, caps, la, g4, g5, by omega, by rw [← la]; exact g2, rowsb.below X1.out, lb, by rw [← lb]; exact g3⟩
    have HWF := Lib.hid fun (a : In) (ha : a ∈ l) => (ok a ha).1
    have HX := Lib.hid hx
    have k1 := hx.k1
    have hzi := hx.zis
    have HZ := Lib.hid hzi.1
    have CW := Lib.hid fun (W : World) (hW : Below W1.heap.size W1 W) => woven16_any d (hx.below hW) HWF.out
    have CN := Lib.hid fun (a : Addr) (h : Nat) (W : World) (hT : WvAt W (some a) (wvP 0 (oI l) N) h) (hW : Below W1.heap.size W1 W) => cNew_any B k d o W hT hx.set.wv (hx.below hW).hB lb (by omega) (by rw [← hzi.1]; omega)
    have CR := Lib.hid fun (b : Bool) (hb : b = true ↔ RtOk 0 o N) (W : World) (hW : Below W1.heap.size W1 W) => rRight16 N B k d o b hb W (hx.below hW).hB lb (by omega)
    clear CLO rows rowsb ok okb caps capsb g2 g3 g4 g5 hx hzi wf
    by_cases hr : RtOk 0 o N
    · have CRT := Lib.hid (CR.out true ⟨fun _ => hr, fun _ => rfl⟩)
      have CI := Lib.hid fun (a : Addr) (h : Nat) (W : World) (hW : Below W1.heap.size W1 W) (ht : CrAt W (some a) (crP 0 (o.map (cpl (oI l))) (zI N l)) h) => is16_yes d (HX.out.below hW) hr ht
      have HR := Lib.hid hr
      clear hr CR
      go_enter Tryz.func3, Tryz.ntmps3
      go_wp2_with fail
      rw [← HW1.out]
      go_wp2_with fail
      with_reducible refine (CLF.out).mono ?_
      rintro e w2 ⟨rfl, b2⟩
      have HQ2 := Lib.hid b2
      have R2 := Lib.hid (RawAt.below R1.out HQ2.out R1.out.lt)
      have z0 : w2.cell? ⟨w.heap.size, 0, none⟩ = some (.int .i64 N) := RawAt.cell R2.out 0
      have z1 : w2.cell? ⟨w.heap.size, 1, none⟩ = some (.slice A m c) := RawAt.cell R2.out 1
      have z2 : w2.cell? ⟨w.heap.size, 2, none⟩ = some (.slice B k d) := RawAt.cell R2.out 2
      clear b2
      go_wp2_with fail
      with_reducible refine (CW.out _ HQ2.out).mono ?_
      rintro e w3 ⟨a3, h3, rfl, hT3, b3⟩
      have HQ3 := Lib.hid (HQ2.out.trans (b3.mono HQ2.out.size))
      have R3 := Lib.hid (RawAt.below R1.out HQ3.out R1.out.lt)
      have u0 : w3.cell? ⟨w.heap.size, 0, none⟩ = some (.int .i64 N) := RawAt.cell R3.out 0
      have u1 : w3.cell? ⟨w.heap.size, 1, none⟩ = some (.slice A m c) := RawAt.cell R3.out 1
      have u2 : w3.cell? ⟨w.heap.size, 2, none⟩ = some (.slice B k d) := RawAt.cell R3.out 2
      have CN3 := Lib.hid (CN.out a3 h3 w3 hT3 HQ3.out)
      clear b3 hT3 CN
      go_wp2_with fail
      with_reducible refine (CN3.out).mono ?_
      rintro e w4 ⟨hn, b4⟩
      have R4 := Lib.hid (RawAt.below R1.out (HQ3.out.trans (b4.mono HQ3.out.size)) R1.out.lt)
      have v0 : w4.cell? ⟨w.heap.size, 0, none⟩ = some (.int .i64 N) := RawAt.cell R4.out 0
      have v2 : w4.cell? ⟨w.heap.size, 2, none⟩ = some (.slice B k d) := RawAt.cell R4.out 2
      clear CN3
      rcases hn with ⟨_, a4, h4, rfl, hC⟩ | ⟨hno, _⟩
      rotate_left
      · exact absurd HR.out hno
      rw [← HZ.out] at hC
      have HC := Lib.hid hC
      have hb4' := Lib.hid b4
      have HQ4 := Lib.hid (HQ3.out.trans (b4.mono HQ3.out.size))
      clear hC b4
      go_wp2_with fail
      with_reducible refine (CRT.out _ HQ4.out).mono ?_
      rintro e w5 ⟨rfl, b5⟩
      have HQ5 := Lib.hid (HQ4.out.trans (b5.mono HQ4.out.size))
      have HC5 := Lib.hid (HC.out.below b5)
      have R5 := Lib.hid (RawAt.below R1.out HQ5.out R1.out.lt)
      have z0 : w5.cell? ⟨w.heap.size, 0, none⟩ = some (.int .i64 N) := RawAt.cell R5.out 0
      have z1 : w5.cell? ⟨w.heap.size, 1, none⟩ = some (.slice A m c) := RawAt.cell R5.out 1
      have z2 : w5.cell? ⟨w.heap.size, 2, none⟩ = some (.slice B k d) := RawAt.cell R5.out 2
      clear b5
      go_wp2_with fail
      with_reducible refine (CI.out a4 h4 _ HQ5.out HC5.out).mono ?_
      rintro e w6 ⟨rfl, b6⟩
      have HQ6 := Lib.hid (HQ5.out.trans (b6.mono HQ5.out.size))
      clear b6
      go_wp2_with fail
      with_reducible refine (C6.out _).mono ?_
      rintro e w7 ⟨rfl, b7⟩
      have HQ7 := Lib.hid (X1.out.trans ((HQ6.out.trans (b7.mono HQ6.out.size)).mono X1.out.size))
      clear b7
      go_wp2
      go_ret
      exact ⟨rfl, HQ7.out⟩
    · have CRF := Lib.hid (CR.out false ⟨fun h => absurd h (by simp), fun h => absurd h hr⟩)
      have HR := Lib.hid hr
      clear hr CR
      go_enter Tryz.func3, Tryz.ntmps3
      go_wp2_with fail
      rw [← HW1.out]
      go_wp2_with fail
      with_reducible refine (CLF.out).mono ?_
      rintro e w2 ⟨rfl, b2⟩
      have HQ2 := Lib.hid b2
      have R2 := Lib.hid (RawAt.below R1.out HQ2.out R1.out.lt)
      have z0 : w2.cell? ⟨w.heap.size, 0, none⟩ = some (.int .i64 N) := RawAt.cell R2.out 0
      have z1 : w2.cell? ⟨w.heap.size, 1, none⟩ = some (.slice A m c) := RawAt.cell R2.out 1
      have z2 : w2.cell? ⟨w.heap.size, 2, none⟩ = some (.slice B k d) := RawAt.cell R2.out 2
      clear b2
      go_wp2_with fail
      with_reducible refine (CW.out _ HQ2.out).mono ?_
      rintro e w3 ⟨a3, h3, rfl, hT3, b3⟩
      have HQ3 := Lib.hid (HQ2.out.trans (b3.mono HQ2.out.size))
      have R3 := Lib.hid (RawAt.below R1.out HQ3.out R1.out.lt)
      have u0 : w3.cell? ⟨w.heap.size, 0, none⟩ = some (.int .i64 N) := RawAt.cell R3.out 0
      have u1 : w3.cell? ⟨w.heap.size, 1, none⟩ = some (.slice A m c) := RawAt.cell R3.out 1
      have u2 : w3.cell? ⟨w.heap.size, 2, none⟩ = some (.slice B k d) := RawAt.cell R3.out 2
      have CN3 := Lib.hid (CN.out a3 h3 w3 hT3 HQ3.out)
      clear b3 hT3 CN
      go_wp2_with fail
      with_reducible refine (CN3.out).mono ?_
      rintro e w4 ⟨hn, b4⟩
      have R4 := Lib.hid (RawAt.below R1.out (HQ3.out.trans (b4.mono HQ3.out.size)) R1.out.lt)
      have v0 : w4.cell? ⟨w.heap.size, 0, none⟩ = some (.int .i64 N) := RawAt.cell R4.out 0
      have v2 : w4.cell? ⟨w.heap.size, 2, none⟩ = some (.slice B k d) := RawAt.cell R4.out 2
      clear CN3
      rcases hn with ⟨hyes, _⟩ | ⟨_, rfl⟩
      · exact absurd hyes HR.out
      have HQ4 := Lib.hid (HQ3.out.trans (b4.mono HQ3.out.size))
      clear b4
      go_wp2_with fail
      with_reducible refine (CRF.out _ HQ4.out).mono ?_
      rintro e w5 ⟨rfl, b5⟩
      have HQ5 := Lib.hid (HQ4.out.trans (b5.mono HQ4.out.size))
      clear b5
      go_wp2_with fail
      with_reducible refine (C6.out _).mono ?_
      rintro e w7 ⟨rfl, b7⟩
      have HQ7 := Lib.hid (X1.out.trans ((HQ5.out.trans (b7.mono HQ5.out.size)).mono X1.out.size))
      clear b7
      go_wp2
      go_ret
      exact ⟨rfl, HQ7.out⟩
  · have CLT := Lib.hid (CLO.out true ⟨fun _ => g, fun _ => rfl⟩)
    clear CLO
    go_enter Tryz.func3, Tryz.ntmps3
    go_wp2_with fail
    rw [← HW1.out]
    go_wp2_with fail
    with_reducible refine (CLT.out).mono ?_
    rintro e w2 ⟨rfl, b2⟩
    have HQ2 := Lib.hid (X1.out.trans (b2.mono X1.out.size))
    clear b2
    go_wp2_with fail
    with_reducible refine (C6.out _).mono ?_
    rintro e w3 ⟨rfl, b3⟩
    have HQ3 := Lib.hid (HQ2.out.trans (b3.mono HQ2.out.size))
    clear b3
    go_wp2
    go_ret
    exact ⟨rfl, HQ3.out⟩
end Go.Proofs.YtdpmimlhchghlaaGreat
