/- Creases: the law CreaseThere, walked. -/
import Derived.Test.YtdpmimlhchghlaaGreatCrW
import Derived.Test.YtdpmimlhchghlaaGreatCrZ
import Derived.Test.YtdpmimlhchghlaaGreatCrS
import Derived.Test.YtdpmimlhchghlaaGreatCrR
import Derived.Test.YtdpmimlhchghlaaGreatTxO
namespace Go.Proofs.YtdpmimlhchghlaaGreat
open Go.RowKit Go.Sort
set_option linter.unusedVariables false
theorem wnt_take (at_ : Int) (l : List (Int × Int)) {j : Nat} (h : j < l.length) : wnt at_ at_ (l.take (j + 1)) = if l[j].1 < at_ ∧ at_ < l[j].2 then l[j].1 else wnt at_ at_ (l.take j) := by
  rw [List.take_succ_eq_append_getElem h, wnt_snoc]
set_option maxHeartbeats 16000000 in
set_option maxRecDepth 100000 in
theorem creaseThere_walk (t : Txt) (w : World) (hT : TxtOk w t) :
    Calls Tryz.prog 5 #[.agg #[.int .i64 t.n, .slice t.A t.m t.c, .slice t.B t.k t.d]] w fun e w' => e = .returned (.bool true) ∧ Below w.heap.size w w' := by
  obtain ⟨n, A, m, c, l, B, k, d, o⟩ := t
  obtain ⟨wf, la, mx, caps, rows, ok, lb, mxb, capsb, rowsb, okb⟩ := hT
  simp only at wf la mx caps rows ok lb mxb capsb rowsb okb ⊢
  have x1 : Below w.heap.size w (w.alloc (.cells #[.int .i64 n, .slice A m c, .slice B k d] 25)) := (Below.refl _ _).alloc (Nat.le_refl _) _
  have r1 : RawAt 25 (w.alloc (.cells #[.int .i64 n, .slice A m c, .slice B k d] 25)) w.heap.size #[.int .i64 n, .slice A m c, .slice B k d] := heap_alloc_new w _
  obtain ⟨W1, hW1⟩ : ∃ W1, W1 = w.alloc (.cells #[.int .i64 n, .slice A m c, .slice B k d] 25) := ⟨_, rfl⟩
  rw [← hW1] at x1 r1
  have HW1 := Lib.hid hW1
  have X1 := Lib.hid x1
  have R1 := Lib.hid r1
  have y0 : W1.cell? ⟨w.heap.size, 0, none⟩ = some (.int .i64 n) := RawAt.cell r1 0
  have y1 : W1.cell? ⟨w.heap.size, 1, none⟩ = some (.slice A m c) := RawAt.cell r1 1
  have y2 : W1.cell? ⟨w.heap.size, 2, none⟩ = some (.slice B k d) := RawAt.cell r1 2
  clear hW1 x1 r1
  have CLO := Lib.hid fun (b : Bool) (hb : b = true ↔ ¬ Short16 n l o) => long16_any n A m c l B k d o b W1 (rows.below X1.out) caps la mx (fun x hx => (ok x hx).2.2.2.2) lb mxb hb
  have C6 := Lib.hid fun W => csix_any W
  by_cases g : Short16 n l o
  · have CLF := Lib.hid (CLO.out false ⟨fun h => absurd h (by simp), fun h => absurd g h⟩)
    obtain ⟨g0, g1, g2, g3, g4, g5⟩ := g
    obtain ⟨N, rfl⟩ : ∃ N : Nat, n = N := ⟨n.toNat, by omega⟩
    have hx : Tx16 W1 N A m c l B k o := ⟨rows.below X1.out, caps, la, g4, g5, by omega, by rw [← la]; exact g2, rowsb.below X1.out, lb, by rw [← lb]; exact g3⟩
    have HWF := Lib.hid fun (a : In) (ha : a ∈ l) => (ok a ha).1
    have HX := Lib.hid hx
    have k1 := hx.k1
    have hzi := hx.zis
    have HZ := Lib.hid hzi.1
    have hzb := hzi.2
    have CW := Lib.hid fun (W : World) (hW : Below W1.heap.size W1 W) => woven16_any d (hx.below hW) HWF.out
    have CN := Lib.hid fun (a : Addr) (h : Nat) (W : World) (hT : WvAt W (some a) (wvP 0 (oI l) N) h) (hW : Below W1.heap.size W1 W) => cNew_any B k d o W hT hx.set.wv (hx.below hW).hB lb (by omega) (by rw [← hzi.1]; omega)
    have CR := Lib.hid fun (b : Bool) (hb : b = true ↔ RtOk 0 o N) (W : World) (hW : Below W1.heap.size W1 W) => rRight16 N B k d o b hb W (hx.below hW).hB lb (by omega)
    have CSZ := Lib.hid fun (W : World) (hW : Below W1.heap.size W1 W) => size16_any d (hx.below hW)
    clear CLO rows rowsb ok okb caps capsb g2 g3 g4 g5 hzi wf
    by_cases hr : RtOk 0 o N
    · have CRT := Lib.hid (CR.out true ⟨fun _ => hr, fun _ => rfl⟩)
      have CPL := Lib.hid fun (W : World) (hW : Below W1.heap.size W1 W) => places16_any d (HX.out.below hW) hr
      have hcr := hx.cr hr
      have hLk : (o.map (cpl (oI l))).length = k := by rw [List.length_map]; exact lb
      have HR := Lib.hid hr
      rw [← HZ.out] at CN
      obtain ⟨d1, d2, d3, d4⟩ := cr_doc hcr
      rw [← d2] at d4
      obtain ⟨K, hK⟩ : ∃ K : Nat, K = (cstS (o.map (cpl (oI l))) (zI N l)).length := ⟨_, rfl⟩
      rw [← hK] at d2 d4
      have HIO := Lib.hid fun (v : Int) (h0 : 0 ≤ v) (h1 : v ≤ K) => cr_in_out _ 0 _ v hcr h0 (by omega)
      have HCE := Lib.hid (ci_end _ 0 _ hcr)
      have HLT := Lib.hid fun (v : Int) (h0 : 0 ≤ v) (h1 : v + 1 ≤ K) => ci_lt _ 0 _ v hcr h0 (by omega)
      have HOI := Lib.hid fun (v : Int) (h0 : 0 ≤ v) (h1 : v ≤ zI N l) => cr_out_in _ 0 _ v hcr h0 (by omega)
      have HOE := Lib.hid (co_end _ 0 _ hcr)
      have HLE := Lib.hid fun (v : Int) (h0 : 0 ≤ v) (h1 : v + 1 ≤ zI N l) => co_le _ 0 _ v hcr h0 (by omega)
      have hKz : K ≤ zI N l := by have := cstS_len (o.map (cpl (oI l))) (zI N l); omega
      simp only [Int.sub_zero, Int.add_zero, ← d2] at HIO HCE HLT HOI HOE HLE
      clear hx hr CR d1 d2 hcr hK CSZ
      generalize o.map (cpl (oI l)) = L at *
      generalize zI N l = z at *
      generalize crP 0 L z = P at *
      have X1L := Lib.hid (Below.refl W1.heap.size W1)
      have HL := Lib.hid hLk
      clear hLk
      go_enter Tryz.func5, Tryz.ntmps5
      go_wp2_with fail
      rw [← HW1.out]
      go_wp2_with fail
      with_reducible refine (CLF.out).mono ?_
      rintro e w2 ⟨rfl, b2⟩
      have HQ2 := Lib.hid b2
      have R2 := Lib.hid (RawAt.below R1.out HQ2.out R1.out.lt)
      have z0 : w2.cell? ⟨w.heap.size, 0, none⟩ = some (.int .i64 N) := RawAt.cell R2.out 0
      have z1 : w2.cell? ⟨w.heap.size, 1, none⟩ = some (.slice A m c) := RawAt.cell R2.out 1
      have z2 : w2.cell? ⟨w.heap.size, 2, none⟩ = some (.slice B k d) := RawAt.cell R2.out 2
      clear b2
      go_wp2_with fail
      with_reducible refine (CRT.out _ HQ2.out).mono ?_
      rintro e w3 ⟨rfl, b3⟩
      have HQ3 := Lib.hid (HQ2.out.trans (b3.mono HQ2.out.size))
      clear b3
      have MK : Hid (∀ V : World, Below W1.heap.size W1 V → (fun V : World => V.cell? ⟨w.heap.size, 0, none⟩ = some (.int .i64 N) ∧ V.cell? ⟨w.heap.size, 1, none⟩ = some (.slice A m c) ∧ V.cell? ⟨w.heap.size, 2, none⟩ = some (.slice B k d)) V) := Lib.hid fun V hV => by
        have q := RawAt.below R1.out hV R1.out.lt
        exact ⟨RawAt.cell q 0, RawAt.cell q 1, RawAt.cell q 2⟩
      have hW2 : Below W1.heap.size W1 w3.drew := HQ3.out.drew
      clear CLF CRT z0 z1 z2
      go_wp2_with fail
      refine wp_region_noPanic ?_
      refine wp_region_held_drew (S := (fun V => V.cell? ⟨w.heap.size, 0, none⟩ = some (.int .i64 N) ∧ V.cell? ⟨w.heap.size, 1, none⟩ = some (.slice A m c) ∧ V.cell? ⟨w.heap.size, 2, none⟩ = some (.slice B k d))) (by kernel_rfl) (MK.out _ hW2) (fun hHeld => ?_)
      refine wpAnyH_take (i := 0) (v := ?_) rfl (by kernel_rfl) (by kernel_rfl) (by kernel_rfl) (fun _ _ _ h => h) (Or.inl ⟨by rfl, ?_⟩) hHeld ?_
      rotate_left
      · intro w hSw
        (try dsimp only at hSw)
        go_simp
        try with_reducible rfl
      go_simp
      refine wpAnyH_take (i := 2) (v := ?_) rfl (by kernel_rfl) (by kernel_rfl) (by kernel_rfl) (fun _ _ _ h => h) (Or.inl ⟨by rfl, ?_⟩) hHeld ?_
      rotate_left
      · intro w hSw
        (try dsimp only at hSw)
        go_simp
        try with_reducible rfl
      go_simp
      refine wpAnyH_take (i := 3) (v := ?_) rfl (by kernel_rfl) (by kernel_rfl) (by kernel_rfl) (fun _ _ _ h => h) (Or.inl ⟨by rfl, ?_⟩) hHeld ?_
      rotate_left
      · intro w hSw
        (try dsimp only at hSw)
        go_simp
        try with_reducible rfl
      go_simp
      refine wpAnyH_ready (rs := [1]) (by kernel_rfl) (by simp) ?_
      refine AllReadyH.cons rfl (fun K hK => ?_) ?_
      rotate_left
      · exact AllReadyH.nil
      go_simp
      go_wp2_with (first | (go_at_call 11; ((with_reducible refine (CW.out _ hW2).mono ?_); rintro e w4 ⟨a4, h4, rfl, hT4, b4⟩); have hW2 := hW2.trans (b4.mono hW2.size)) | (go_at_call 12; ((with_reducible refine (CN.out a4 h4 _ hT4 hW2).mono ?_); rintro e w5 ⟨hn, b5⟩); rcases hn with ⟨_, a5, h5, rfl, hC⟩ | ⟨hno, _⟩; rotate_left; exact absurd HR.out hno; have hW2 := hW2.trans (b5.mono hW2.size)))
      refine hK.out _ _ (by with_reducible exact MK.out _ hW2) (fun hHeld => ?_)
      clear hK K
      go_simp
      refine wpAnyH_ready (rs := [4]) (by kernel_rfl) (by simp) ?_
      refine AllReadyH.cons rfl (fun K hK => ?_) ?_
      rotate_left
      · exact AllReadyH.nil
      go_simp
      go_wp2_with (first | (go_at_call 11; ((with_reducible refine (CW.out _ hW2).mono ?_); rintro e w4 ⟨a4, h4, rfl, hT4, b4⟩); have hW2 := hW2.trans (b4.mono hW2.size)) | (go_at_call 12; ((with_reducible refine (CN.out a4 h4 _ hT4 hW2).mono ?_); rintro e w5 ⟨hn, b5⟩); rcases hn with ⟨_, a5, h5, rfl, hC⟩ | ⟨hno, _⟩; rotate_left; exact absurd HR.out hno; have hW2 := hW2.trans (b5.mono hW2.size)))
      refine hK.out _ _ (by with_reducible exact MK.out _ hW2) (fun hHeld => ?_)
      clear hK K
      go_simp
      refine wpAnyH_take (i := 5) (v := ?_) rfl (by kernel_rfl) (by kernel_rfl) (by kernel_rfl) (fun _ _ _ h => h) (Or.inl ⟨by rfl, ?_⟩) hHeld ?_
      rotate_left
      · intro w hSw
        (try dsimp only at hSw)
        go_simp
        try with_reducible rfl
      go_simp
      refine wpAnyH_take (i := 6) (v := ?_) rfl (by kernel_rfl) (by kernel_rfl) (by kernel_rfl) (fun _ _ _ h => h) (Or.inl ⟨by rfl, ?_⟩) hHeld ?_
      rotate_left
      · intro w hSw
        (try dsimp only at hSw)
        go_simp
        try with_reducible rfl
      go_simp
      refine wpAnyH_take (i := 7) (v := ?_) rfl (by kernel_rfl) (by kernel_rfl) (by kernel_rfl) (fun _ _ _ h => h) (Or.inl ⟨by rfl, ?_⟩) hHeld ?_
      rotate_left
      · intro w hSw
        (try dsimp only at hSw)
        go_simp
        try with_reducible rfl
      go_simp
      refine wpAnyH_take (i := 8) (v := ?_) rfl (by kernel_rfl) (by kernel_rfl) (by kernel_rfl) (fun _ _ _ h => h) (Or.inl ⟨by rfl, ?_⟩) hHeld ?_
      rotate_left
      · intro w hSw
        (try dsimp only at hSw)
        go_simp
        try with_reducible rfl
      go_simp
      refine wpAnyH_take (i := 9) (v := ?_) rfl (by kernel_rfl) (by kernel_rfl) (by kernel_rfl) (fun _ _ _ h => h) (Or.inl ⟨by rfl, ?_⟩) hHeld ?_
      rotate_left
      · intro w hSw
        (try dsimp only at hSw)
        go_simp
        try with_reducible rfl
      go_simp
      refine wpAnyH_done (by kernel_rfl) ?_ _
      refine NoPanic.normal ?_
      have HC := Lib.hid hC
      have HQ5 := Lib.hid hW2
      have CZZ := Lib.hid (crSizes HC.out)
      rw [d3, d4] at CZZ
      clear hC hW2 b4 b5 hT4 CW CN MK
      go_wp2_with fail
      with_reducible refine (CZZ.out).mono ?_
      rintro e w6 ⟨rfl, b6⟩
      have HQ6 := Lib.hid (HQ5.out.trans (b6.mono HQ5.out.size))
      have HC6 := Lib.hid (HC.out.below b6)
      have CI := Lib.hid fun (v : Int) (h0 : 0 ≤ v) (h1 : v ≤ K) (W : World) (hW : Below w6.heap.size w6 W) => crIn_yes (HC6.out.below hW) v ⟨h0, by rw [d4]; exact h1⟩
      have CO := Lib.hid fun (v : Int) (h0 : 0 ≤ v) (h1 : v ≤ z) (W : World) (hW : Below w6.heap.size w6 W) => crOut_yes (HC6.out.below hW) v ⟨h0, by rw [d3]; exact h1⟩
      clear b6 HC HQ5 CZZ d3 d4
      go_wp2_with fail
      go_loopg [7, 8] (K + 1) (fun g v i wr => ∃ (j : Nat) (u : Int), v = .int .i64 u ∧ i = .int .i64 j ∧ j ≤ K + 1 ∧ K + 1 - j ≤ g ∧ Hid ((j = 0 ∧ u = -1) ∨ (0 < j ∧ u = cinP P ((j : Int) - 1))) ∧ Hid (Below w6.heap.size w6 wr))
      case atStart => exact ⟨0, -1, rfl, rfl, by omega, by omega, Lib.hid (.inl ⟨rfl, rfl⟩), Lib.hid (Below.refl _ _)⟩
      case round =>
        obtain ⟨j, u, rfl, rfl, j1, j2, hu, hb⟩ := hrel
        by_cases hlt : j ≤ K
        · have kj : decide ((j : Int) ≤ (K : Int)) = true := decide_eq_true (by omega)
          obtain ⟨⟨y1, y2⟩, y3⟩ := HIO.out j (by omega) (by omega)
          have hku : ¬ cinP P (j : Int) ≤ u := by
            rcases hu.out with ⟨_, rfl⟩ | ⟨h0, rfl⟩
            · omega
            · have := HLT.out ((j : Int) - 1) (by omega) (by omega)
              rw [show (j : Int) - 1 + 1 = j from by omega] at this
              omega
          have CI1 := Lib.hid fun (W : World) (hW : Below w6.heap.size w6 W) => CI.out j (by omega) (by omega) W hW
          have CO1 := Lib.hid fun (W : World) (hW : Below w6.heap.size w6 W) => CO.out (cinP P j) y1 y2 W hW
          rw [y3] at CO1
          have HU2 : Hid ((j + 1 = 0 ∧ cinP P (j : Int) = -1) ∨ (0 < j + 1 ∧ cinP P (j : Int) = cinP P (((j + 1 : Nat) : Int) - 1))) := Lib.hid (.inr ⟨by omega, by rw [show (((j + 1 : Nat) : Int) - 1) = (j : Int) from by omega]⟩)
          have kk : decide (cinP P (j : Int) ≤ u) = false := decide_eq_false hku
          have kb : ((j : Int) != (j : Int)) = false := by simp
          clear hu hku y3 y1 y2
          generalize cinP P (j : Int) = x at *
          go_wp2_with fail
          with_reducible refine (CI1.out _ hb.out).mono ?_
          rintro e w7 ⟨rfl, b7⟩
          have HB7 := Lib.hid (hb.out.trans (b7.mono hb.out.size))
          clear b7 hb
          go_wp2_with fail
          with_reducible refine (CO1.out _ HB7.out).mono ?_
          rintro e w8 ⟨rfl, b8⟩
          have HB8 := Lib.hid (HB7.out.trans (b8.mono HB7.out.size))
          clear b8 HB7 CI1 CO1
          go_wp2
          go_roundg (gk - 1)
          case measure => omega
          case rel => exact ⟨j + 1, x, rfl, by go_num, by omega, by omega, HU2, HB8⟩
        · obtain rfl : j = K + 1 := by omega
          have hz : u = z := by
            rcases hu.out with ⟨h0, _⟩ | ⟨h0, rfl⟩
            · omega
            · rw [show (((K + 1 : Nat) : Int) - 1) = (K : Int) from by omega]
              exact HCE.out
          subst hz
          have kj : decide (((K : Int) + 1) ≤ (K : Int)) = false := decide_eq_false (by omega)
          have kz : ((z : Int) != (z : Int)) = false := by simp
          have HQ9 := Lib.hid (HQ6.out.trans (hb.out.mono HQ6.out.size))
          have R9 := Lib.hid (RawAt.below R1.out HQ9.out R1.out.lt)
          have z0 : wr.cell? ⟨w.heap.size, 0, none⟩ = some (.int .i64 N) := RawAt.cell R9.out 0
          have z1 : wr.cell? ⟨w.heap.size, 1, none⟩ = some (.slice A m c) := RawAt.cell R9.out 1
          have z2 : wr.cell? ⟨w.heap.size, 2, none⟩ = some (.slice B k d) := RawAt.cell R9.out 2
          clear hu
          go_wp2_with fail
          with_reducible refine (CPL.out _ HQ9.out).mono ?_
          rintro e w10 ⟨v10, rfl, o10, b10⟩
          obtain ⟨A10, c10, rfl, hR10, _, _⟩ := rows_of_own wencS_len (by omega) o10
          have HB10 := Lib.hid (hb.out.trans (b10.mono hb.out.size))
          have HR10 := Lib.hid hR10
          clear b10 o10 hR10 CPL R9 HQ9 z0 z1 z2 hb
          go_wp2_with fail
          go_loopg [7, 14] (z + 1) (fun g v i wr => ∃ (j : Nat) (u : Int), v = .int .i64 u ∧ i = .int .i64 j ∧ j ≤ z + 1 ∧ z + 1 - j ≤ g ∧ Hid ((j = 0 ∧ u = 0) ∨ (0 < j ∧ u = coutP P ((j : Int) - 1))) ∧ Hid (Below w10.heap.size w10 wr))
          case atStart => exact ⟨0, 0, rfl, rfl, by omega, by omega, Lib.hid (.inl ⟨rfl, rfl⟩), Lib.hid (Below.refl _ _)⟩
          case round =>
            obtain ⟨j, u, rfl, rfl, j1, j2, hu, hb⟩ := hrel
            by_cases hlt2 : j ≤ z
            · have kj : decide ((j : Int) ≤ (z : Int)) = true := decide_eq_true (by omega)
              obtain ⟨gO, hgO⟩ : ∃ g, g = gk := ⟨_, rfl⟩
              subst hgO
              go_wp2_with fail
              go_loopg [15, 99] k (fun g v i wr' => ∃ (r : Nat) (q : Int), v = .int .i64 q ∧ i = .int .i64 r ∧ r ≤ k ∧ k - r ≤ g ∧ Hid (q = wnt j j (L.take r)) ∧ Hid (Below w10.heap.size w10 wr'))
              case atStart => exact ⟨0, j, rfl, rfl, by omega, by omega, Lib.hid rfl, hb⟩
              case round =>
                obtain ⟨r, q, rfl, rfl, r1, r2, hq, hb2⟩ := hrel
                by_cases hr2 : r < k
                · have hrl : r < L.length := by rw [HL.out]; exact hr2
                  obtain ⟨bA, off, rfl, hbA, d0, d1⟩ := wrowsS (HR10.out.below hb2.out) hrl
                  have HT := Lib.hid (wnt_take (j : Int) L hrl)
                  generalize L[r] = x at *
                  obtain ⟨x1, x2⟩ := x
                  simp only at d0 d1 HT
                  have i1 : (0 : Int) ≤ r := by omega
                  have i2 : (r : Int) < k := by omega
                  have HB3 := Lib.hid (hb2.out.trans (((Below.refl _ _).alloc (Nat.le_refl _) (.cells #[.int .i64 x1, .int .i64 x2] 47)).mono hb2.out.size))
                  by_cases g1 : x1 < (j : Int)
                  · have k1' : decide (x1 < (j : Int)) = true := decide_eq_true g1
                    by_cases g2 : (j : Int) < x2
                    · have k2' : decide ((j : Int) < x2) = true := decide_eq_true g2
                      have HQQ : Hid (x1 = wnt j j (L.take (r + 1))) := Lib.hid (by rw [HT.out, if_pos ⟨g1, g2⟩])
                      clear HT hq
                      go_wp2
                      go_roundg (gk - 1)
                      case measure => omega
                      case rel => exact ⟨r + 1, x1, rfl, by go_num, by omega, by omega, HQQ, HB3⟩
                    · have k2' : decide ((j : Int) < x2) = false := decide_eq_false g2
                      have HQQ : Hid (q = wnt j j (L.take (r + 1))) := Lib.hid (by rw [HT.out, if_neg (fun h => g2 h.2)]; exact hq.out)
                      clear HT hq
                      go_wp2
                      go_roundg (gk - 1)
                      case measure => omega
                      case rel => exact ⟨r + 1, q, rfl, by go_num, by omega, by omega, HQQ, HB3⟩
                  · have k1' : decide (x1 < (j : Int)) = false := decide_eq_false g1
                    have HQQ : Hid (q = wnt j j (L.take (r + 1))) := Lib.hid (by rw [HT.out, if_neg (fun h => g1 h.1)]; exact hq.out)
                    clear HT hq
                    go_wp2
                    go_roundg (gk - 1)
                    case measure => omega
                    case rel => exact ⟨r + 1, q, rfl, by go_num, by omega, by omega, HQQ, HB3⟩
                · obtain rfl : r = k := by omega
                  have hq2 := hq.out
                  rw [List.take_of_length_le (by rw [HL.out]; exact Nat.le_refl _)] at hq2
                  have kr : decide ((r : Int) < (r : Int)) = false := decide_eq_false (by omega)
                  obtain ⟨⟨y1, y2⟩, y3⟩ := HOI.out j (by omega) (by omega)
                  rw [← hq2] at y3
                  have hku : ¬ coutP P (j : Int) < u := by
                    rcases hu.out with ⟨_, rfl⟩ | ⟨h0, rfl⟩
                    · omega
                    · have := HLE.out ((j : Int) - 1) (by omega) (by omega)
                      rw [show (j : Int) - 1 + 1 = j from by omega] at this
                      omega
                  have HB11 := Lib.hid (HB10.out.trans (hb2.out.mono HB10.out.size))
                  have CO1 := Lib.hid (CO.out j (by omega) (by omega) _ HB11.out)
                  have CI1 := Lib.hid fun (W : World) (hW : Below w6.heap.size w6 W) => CI.out (coutP P j) y1 y2 W hW
                  rw [y3] at CI1
                  have HU2 : Hid ((j + 1 = 0 ∧ coutP P (j : Int) = 0) ∨ (0 < j + 1 ∧ coutP P (j : Int) = coutP P (((j + 1 : Nat) : Int) - 1))) := Lib.hid (.inr ⟨by omega, by rw [show (((j + 1 : Nat) : Int) - 1) = (j : Int) from by omega]⟩)
                  have kk : decide (coutP P (j : Int) < u) = false := decide_eq_false hku
                  have kb : (q != q) = false := by simp
                  clear hu hku y3 y1 y2 hq hq2
                  generalize coutP P (j : Int) = x at *
                  go_wp2_with fail
                  with_reducible refine (CO1.out).mono ?_
                  rintro e w12 ⟨rfl, b12⟩
                  have HB12 := Lib.hid (HB11.out.trans (b12.mono HB11.out.size))
                  have HB12' := Lib.hid (hb2.out.trans (b12.mono hb2.out.size))
                  clear b12 CO1
                  go_wp2_with fail
                  with_reducible refine (CI1.out _ HB12.out).mono ?_
                  rintro e w13 ⟨rfl, b13⟩
                  have HB13 := Lib.hid (HB12'.out.trans (b13.mono HB12'.out.size))
                  clear b13 CI1 HB12 HB12' hb2 hb
                  go_wp2
                  go_roundg (gO - 1)
                  case measure => omega
                  case rel => exact ⟨j + 1, x, rfl, by go_num, by omega, by omega, HU2, HB13⟩
            · obtain rfl : j = z + 1 := by omega
              have hz : u = K := by
                rcases hu.out with ⟨h0, _⟩ | ⟨h0, rfl⟩
                · omega
                · rw [show (((z + 1 : Nat) : Int) - 1) = (z : Int) from by omega]
                  exact HOE.out
              subst hz
              have kj : decide (((z : Int) + 1) ≤ (z : Int)) = false := decide_eq_false (by omega)
              have kK : ((K : Int) == (K : Int)) = true := by simp
              have HQ20 := Lib.hid (HQ6.out.trans ((HB10.out.trans (hb.out.mono HB10.out.size)).mono HQ6.out.size))
              clear hu hb
              go_wp2_with fail
              with_reducible refine (C6.out _).mono ?_
              rintro e w9 ⟨rfl, b9⟩
              have HQ9 := Lib.hid (X1.out.trans ((HQ20.out.trans (b9.mono HQ20.out.size)).mono X1.out.size))
              clear b9
              go_wp2
              go_ret
              exact ⟨rfl, HQ9.out⟩
    · have CRF := Lib.hid (CR.out false ⟨fun h => absurd h (by simp), fun h => absurd h hr⟩)
      clear hr CR hx
      go_enter Tryz.func5, Tryz.ntmps5
      go_wp2_with fail
      rw [← HW1.out]
      go_wp2_with fail
      with_reducible refine (CLF.out).mono ?_
      rintro e w2 ⟨rfl, b2⟩
      have HQ2 := Lib.hid b2
      have R2 := Lib.hid (RawAt.below R1.out HQ2.out R1.out.lt)
      have z0 : w2.cell? ⟨w.heap.size, 0, none⟩ = some (.int .i64 N) := RawAt.cell R2.out 0
      have z1 : w2.cell? ⟨w.heap.size, 1, none⟩ = some (.slice A m c) := RawAt.cell R2.out 1
      have z2 : w2.cell? ⟨w.heap.size, 2, none⟩ = some (.slice B k d) := RawAt.cell R2.out 2
      clear b2
      go_wp2_with fail
      with_reducible refine (CRF.out _ HQ2.out).mono ?_
      rintro e w3 ⟨rfl, b3⟩
      have HQ3 := Lib.hid (HQ2.out.trans (b3.mono HQ2.out.size))
      clear b3
      go_wp2_with fail
      with_reducible refine (C6.out _).mono ?_
      rintro e w9 ⟨rfl, b9⟩
      have HQ9 := Lib.hid (X1.out.trans ((HQ3.out.trans (b9.mono HQ3.out.size)).mono X1.out.size))
      clear b9
      go_wp2
      go_ret
      exact ⟨rfl, HQ9.out⟩
  · have CLT := Lib.hid (CLO.out true ⟨fun _ => g, fun _ => rfl⟩)
    clear CLO
    go_enter Tryz.func5, Tryz.ntmps5
    go_wp2_with fail
    rw [← HW1.out]
    go_wp2_with fail
    with_reducible refine (CLT.out).mono ?_
    rintro e w2 ⟨rfl, b2⟩
    have HQ2 := Lib.hid b2
    clear b2
    go_wp2_with fail
    with_reducible refine (C6.out _).mono ?_
    rintro e w9 ⟨rfl, b9⟩
    have HQ9 := Lib.hid (X1.out.trans ((HQ2.out.trans (b9.mono HQ2.out.size)).mono X1.out.size))
    clear b9
    go_wp2
    go_ret
    exact ⟨rfl, HQ9.out⟩
end Go.Proofs.YtdpmimlhchghlaaGreat
