/- Batches: the document's inverse: the contract of bodkinref09.Invert. -/
import Derived.Test.YtglalmhpgdgeeaaGreatRef9
import Derived.Test.YtglalmhpgdgeeaaGreatRDec
import Derived.Deep.AppendLies
namespace Go.Proofs.YtglalmhpgdgeeaaGreat
open Go.RowKit
theorem cut_hd9 {P : Program} {t e : TypeId} (ht : P.underlying t = some (.slice e)) {i : TypeInfo} (hi : P.info? e = some i) (A : Option Addr) (n c k : Nat) (hk : k ≤ c) (w : World) :
    (Instr.slice t (.slice A n c) none (some (.int .i64 k)) none).run P w = .ok (.slice A k c) w := by
  have he : P.elem t = e := by simp [Program.elem, ht]
  subst he
  rw [run_slice_h _ _ _ _ _ ht _ _ (by omega) (by omega), run_sizeOf _ hi]
  have h0 : (A.map fun x => x.add 0) = A := by cases A <;> simp [Addr.add]
  simp [Result.andThen, sliced, h0]
set_option maxHeartbeats 8000000 in
set_option maxRecDepth 100000 in
theorem rfInvert_any (A B : Option Addr) (n c m d : Nat) (r : List Int) (l : List E3) (w : World) (hA : IntsAt .i32 w A r) (hr : r.length = n) (hc : Caps A n c) (hn : n ≤ 20000) (hB : EdsAt w B l) (hl : l.length = m) (hd : Caps B m d) (hE : ERis n 0 l) (hm64 : m ≤ 64) (hs : ∀ e ∈ l, e.x.size ≤ 100000) :
    Calls Tryz.prog 31 #[.slice A n c, .slice B m d] w fun e w' => ∃ (A' : Option Addr) (c' : Nat), e = .returned (.slice A' m c') ∧ EdsAt w' A' (einv r 0 l) ∧ Caps A' m c' ∧ Below w.heap.size w w' := by
  have HAt := Lib.hid fun (j : Nat) (hj : j < l.length) => ris_at hE hj
  have HGB := Lib.hid fun j => egrow_small hE (by omega) (by omega) (fun e he => by have := hs e he; omega) j
  have HS := Lib.hid hs
  have HA := Lib.hid hA
  have HB := Lib.hid hB
  have HL := Lib.hid hl
  have HR := Lib.hid hr
  have hc1 := hc.1
  have hd1 := hd.1
  have HIL := Lib.hid (einv_len r 0 l)
  obtain ⟨i0, hi0, hz0, hz1, hz2⟩ := info_parts edit_info
  obtain ⟨j0_, hj0, _, _, _⟩ := info_parts i32_info
  clear hA hB hl hr hc hd hE hs
  go_enter Tryz.func31, Tryz.ntmps31
  go_wp2_with fail
  go_loopg [5, 13] m (fun g v i wr => ∃ (j : Nat), i = .int .i64 j ∧ j ≤ m ∧ m - j ≤ g ∧ Below w.heap.size w wr ∧ Hid (wr.ownsRow w.heap.size 64 3 v j (eflat ((einv r 0 l).take j))))
  case atStart => exact ⟨0, rfl, by omega, by omega, Below.refl _ _, Lib.hid (World.ownsRow_nil _ _ _ _)⟩
  case round =>
    obtain ⟨j, rfl, h1, h2, hb, hown⟩ := hrel
    have hlt4 := hown.out.lt
    have hszw := hb.size
    by_cases hlt : j < m
    · have hjl : j < l.length := by rw [HL.out]; exact hlt
      obtain ⟨a, b, k1, k2, k3, k4, k5⟩ := HAt.out j hjl
      obtain ⟨q, rfl⟩ : ∃ q, b = a + q := ⟨b - a, by omega⟩
      obtain ⟨bA, off, rfl, hbA, d0, d1, d2⟩ := (HB.out.below hb).drop1 hjl
      rw [k1] at d0
      rw [k2, show ((a + q : Nat) : Int) = (a : Int) + (q : Int) from by omega] at d1
      have hxs := HS.out _ (eth_mem hjl)
      have hei := Lib.hid (einv_eth r 0 l hjl)
      rw [k1, k2, Int.toNat_natCast, Int.toNat_natCast, Int.zero_add, show (r.take (a + q)).drop a = (r.drop a).take q from by rw [List.drop_take, Nat.add_sub_cancel_left]] at hei
      clear k1 k2 k3 k4
      generalize hxx : (eth l j).x = xx at *
      have hdl := dec_len xx
      have i1 : (0 : Int) ≤ j := by omega
      have i2 : (j : Int) < m := by omega
      have hcj : j ≤ d := by omega
      have hs1 := fun W => cut_hd9 (P := Tryz.prog) Tryz.underlying52 hi0 (some ⟨bA, off, none⟩) m d j hcj W
      have x6 : Below wr.heap.size wr (wr.alloc (.cells #[.int .i64 (a : Int), .int .i64 ((a : Int) + (q : Int)), .string xx] 64)) := (Below.refl _ _).alloc (Nat.le_refl _) _
      have R6 : RawAt 64 (wr.alloc (.cells #[.int .i64 (a : Int), .int .i64 ((a : Int) + (q : Int)), .string xx] 64)) wr.heap.size #[.int .i64 (a : Int), .int .i64 ((a : Int) + (q : Int)), .string xx] := heap_alloc_new wr _
      have HR6 := Lib.hid R6
      obtain ⟨xb, hxb⟩ : ∃ xb, xb = wr.heap.size := ⟨_, rfl⟩
      rw [← hxb] at HR6
      have HXB := Lib.hid hxb
      clear hxb R6 hxx
      go_wp2_with fail
      rw [← HXB.out]
      generalize wr.alloc (.cells #[.int .i64 (a : Int), .int .i64 ((a : Int) + (q : Int)), .string xx] 64) = W6 at *
      have hb6 := hb.trans (x6.mono hszw)
      have hown6 := Lib.hid (own_below hown.out x6)
      obtain ⟨gO, hgO⟩ : ∃ g, g = gk := ⟨_, rfl⟩
      subst hgO
      obtain ⟨wo, hwo⟩ : ∃ x, x = wr := ⟨_, rfl⟩
      subst hwo
      go_loopg [8, 24] j (fun g at_ i w2 => ∃ (k : Nat), i = .int .i64 k ∧ k ≤ j ∧ j - k ≤ g ∧ Below W6.heap.size W6 w2 ∧ Hid (at_ = .int .i64 ((a : Int) + egrow (l.take k))))
      case atStart => exact ⟨0, rfl, by omega, by omega, Below.refl _ _, Lib.hid (by simp [egrow])⟩
      case round =>
        obtain ⟨k, rfl, k1, k2, hbk, hat⟩ := hrel
        have hat := hat.out
        obtain ⟨zv, hzv⟩ : ∃ zv, zv = egrow (l.take k) := ⟨_, rfl⟩
        rw [← hzv] at hat
        subst hat
        have hzb := HGB.out k
        rw [← hzv] at hzb
        have HZ := Lib.hid hzv
        clear hzv
        obtain ⟨hzb1, hzb2⟩ := hzb
        by_cases hkj : k < j
        · have hkl : k < l.length := by rw [HL.out]; omega
          obtain ⟨a2, b2, g1, g2, g3, g4, g5⟩ := HAt.out k hkl
          obtain ⟨bA2, off2, hAA, hbA2, e0, e1, e2⟩ := (HB.out.below (hb6.trans (hbk.mono hb6.size))).drop1 hkl
          injection hAA with hAA
          injection hAA with hAA1 hAA2
          subst hAA1 hAA2
          rw [g1] at e0
          rw [g2] at e1
          have hst := Lib.hid (egrow_take hkl)
          have hxs2 := HS.out _ (eth_mem hkl)
          have heg : egro (eth l k) = ((dec (eth l k).x).length : Int) - ((b2 : Int) - (a2 : Int)) := by unfold egro; rw [g1, g2]
          have HEG := Lib.hid heg
          clear heg g1 g2 g3
          generalize hyy : (eth l k).x = yy at *
          have hdl2 := dec_len yy
          have CD2 := Lib.hid fun W => (rdecode_any yy W (by omega)).mono fun e w' ⟨A, c, he, hb, _⟩ => (⟨A, c, he, hb⟩ : ∃ A c, e = Ending.returned (.slice A (dec yy).length c) ∧ Below W.heap.size W w')
          generalize (dec yy).length = cn at *
          clear hyy
          have f1 : (0 : Int) ≤ k := by omega
          have f2 : (k : Int) < j := by omega
          have hw1 : IntKind.i64.wrap ((a : Int) + zv + (cn : Int)) = (a : Int) + zv + (cn : Int) := IntWalk.i64_in _ (by omega)
          have hw2 : IntKind.i64.wrap ((b2 : Int) - (a2 : Int)) = (b2 : Int) - (a2 : Int) := IntWalk.i64_in _ (by omega)
          have hw3 : IntKind.i64.wrap ((a : Int) + zv + (cn : Int) - ((b2 : Int) - (a2 : Int))) = (a : Int) + zv + (cn : Int) - ((b2 : Int) - (a2 : Int)) := IntWalk.i64_in _ (by omega)
          have y6 : Below wr.heap.size wr (wr.alloc (.cells #[.int .i64 (a2 : Int), .int .i64 (b2 : Int), .string yy] 64)) := (Below.refl _ _).alloc (Nat.le_refl _) _
          have S6 : RawAt 64 (wr.alloc (.cells #[.int .i64 (a2 : Int), .int .i64 (b2 : Int), .string yy] 64)) wr.heap.size #[.int .i64 (a2 : Int), .int .i64 (b2 : Int), .string yy] := heap_alloc_new wr _
          have HS6 := Lib.hid S6
          obtain ⟨yb, hyb⟩ : ∃ yb, yb = wr.heap.size := ⟨_, rfl⟩
          rw [← hyb] at HS6
          have HYB := Lib.hid hyb
          clear hyb S6
          have hbk6 := hbk.trans (y6.mono hbk.size)
          go_wp2_with fail
          rw [← HYB.out]
          generalize wr.alloc (.cells #[.int .i64 (a2 : Int), .int .i64 (b2 : Int), .string yy] 64) = W7 at *
          have MK : Hid (∀ W : World, Below W7.heap.size W7 W → (fun W => W.cell? ⟨yb, 0, none⟩ = some (.int .i64 (a2 : Int)) ∧ W.cell? ⟨yb, 1, none⟩ = some (.int .i64 (b2 : Int)) ∧ W.cell? ⟨yb, 2, none⟩ = some (.string yy) ∧ Below W7.heap.size W7 W) W) := fun W hW => ⟨RawAt.cell (RawAt.below HS6.out hW (RawAt.lt HS6.out)) 0, RawAt.cell (RawAt.below HS6.out hW (RawAt.lt HS6.out)) 1, RawAt.cell (RawAt.below HS6.out hW (RawAt.lt HS6.out)) 2, hW⟩
          have hW2 : Below W7.heap.size W7 W7.drew := (Below.refl _ _).drew
          clear e0 e1 e2
          refine wp_region_noPanic ?_
          refine wp_region_held_drew (S := (fun W => W.cell? ⟨yb, 0, none⟩ = some (.int .i64 (a2 : Int)) ∧ W.cell? ⟨yb, 1, none⟩ = some (.int .i64 (b2 : Int)) ∧ W.cell? ⟨yb, 2, none⟩ = some (.string yy) ∧ Below W7.heap.size W7 W)) (by kernel_rfl) (MK.out _ hW2) (fun hHeld => ?_)
          refine wpAnyH_take (i := 0) (v := ?_) rfl (by kernel_rfl) (by kernel_rfl) (by kernel_rfl) (fun _ _ _ h => h) (Or.inl ⟨by rfl, ?_⟩) hHeld ?_
          rotate_left
          · intro w hSw
            (try dsimp only at hSw)
            go_simp
            try with_reducible rfl
          go_simp
          refine wpAnyH_take (i := 1) (v := ?_) rfl (by kernel_rfl) (by kernel_rfl) (by kernel_rfl) (fun _ _ _ h => h) (Or.inl ⟨by rfl, ?_⟩) hHeld ?_
          rotate_left
          · intro w hSw
            (try dsimp only at hSw)
            go_simp
            try with_reducible rfl
          go_simp
          refine wpAnyH_take (i := 2) (v := ?_) rfl (by kernel_rfl) (by kernel_rfl) (by kernel_rfl) (fun _ _ _ h => h) (Or.inl ⟨by rfl, ?_⟩) hHeld ?_
          rotate_left
          · intro w hSw
            (try dsimp only at hSw)
            go_simp
            try with_reducible rfl
          go_simp
          refine wpAnyH_take (i := 6) (v := ?_) rfl (by kernel_rfl) (by kernel_rfl) (by kernel_rfl) (fun _ _ _ h => h) (Or.inl ⟨by rfl, ?_⟩) hHeld ?_
          rotate_left
          · intro w hSw
            (try dsimp only at hSw)
            go_simp
            try with_reducible rfl
          go_simp
          refine wpAnyH_take (i := 7) (v := ?_) rfl (by kernel_rfl) (by kernel_rfl) (by kernel_rfl) (fun _ _ _ h => h) (Or.inl ⟨by rfl, ?_⟩) hHeld ?_
          rotate_left
          · intro w hSw
            (try dsimp only at hSw)
            go_simp
            try with_reducible rfl
          go_simp
          refine wpAnyH_take (i := 8) (v := ?_) rfl (by kernel_rfl) (by kernel_rfl) (by kernel_rfl) (fun _ _ _ h => h) (Or.inl ⟨by rfl, ?_⟩) hHeld ?_
          rotate_left
          · intro w hSw
            (try dsimp only at hSw)
            go_simp
            try with_reducible rfl
          go_simp
          refine wpAnyH_take (i := 9) (v := ?_) rfl (by kernel_rfl) (by kernel_rfl) (by kernel_rfl) (fun _ _ _ h => h) (Or.inl ⟨by rfl, ?_⟩) hHeld ?_
          rotate_left
          · intro w hSw
            (try dsimp only at hSw)
            go_simp
            try with_reducible rfl
          go_simp
          refine wpAnyH_take (i := 10) (v := ?_) rfl (by kernel_rfl) (by kernel_rfl) (by kernel_rfl) (fun _ _ _ h => h) (Or.inl ⟨by rfl, ?_⟩) hHeld ?_
          rotate_left
          · intro w hSw
            (try dsimp only at hSw)
            go_simp
            try with_reducible rfl
          go_simp
          refine wpAnyH_ready (rs := [3]) (by kernel_rfl) (by simp) ?_
          refine AllReadyH.cons rfl (fun K hK => ?_) ?_
          rotate_left
          · exact AllReadyH.nil
          go_simp
          go_wp2_with (first | (go_at_call 12; ((with_reducible refine (CD2.out _).mono ?_); rintro e w8 ⟨A8, c8, rfl, hb8⟩); have hW2 := hW2.trans (hb8.mono hW2.size)))
          refine hK.out _ _ (MK.out _ hW2) (fun hHeld => ?_)
          clear hK K
          go_simp
          refine wpAnyH_take (i := 4) (v := ?_) rfl (by kernel_rfl) (by kernel_rfl) (by kernel_rfl) (fun _ _ _ h => h) (Or.inl ⟨by rfl, ?_⟩) hHeld ?_
          rotate_left
          · intro w hSw
            (try dsimp only at hSw)
            go_simp
            try with_reducible rfl
          go_simp
          refine wpAnyH_take (i := 5) (v := ?_) rfl (by kernel_rfl) (by kernel_rfl) (by kernel_rfl) (fun _ _ _ h => h) (Or.inl ⟨by rfl, ?_⟩) hHeld ?_
          rotate_left
          · intro w hSw
            (try dsimp only at hSw)
            go_simp
            try with_reducible rfl
          go_simp
          refine wpAnyH_take (i := 11) (v := ?_) rfl (by kernel_rfl) (by kernel_rfl) (by kernel_rfl) (fun _ _ _ h => h) (Or.inl ⟨by rfl, ?_⟩) hHeld ?_
          rotate_left
          · intro w hSw
            (try dsimp only at hSw)
            go_simp
            try with_reducible rfl
          go_simp
          refine wpAnyH_take (i := 12) (v := ?_) rfl (by kernel_rfl) (by kernel_rfl) (by kernel_rfl) (fun _ _ _ h => h) (Or.inl ⟨by rfl, ?_⟩) hHeld ?_
          rotate_left
          · intro w hSw
            (try dsimp only at hSw)
            go_simp
            try with_reducible rfl
          go_simp
          refine wpAnyH_done (by kernel_rfl) ?_ _
          refine NoPanic.normal ?_
          go_wp2
          go_roundg (gk - 1)
          case measure => omega
          case rel => exact ⟨k + 1, by go_num, by omega, by omega, hbk6.trans (hW2.mono hbk6.size), Lib.hid (by rw [hst.out, HEG.out, ← HZ.out]; congr 1; omega)⟩
        · have hkj2 : k = j := by omega
          subst hkj2
          rw [← HZ.out] at hei
          obtain ⟨cn, hcn⟩ : ∃ cn : Nat, cn = (dec xx).length := ⟨_, rfl⟩
          rw [← hcn] at hei
          have CD := Lib.hid fun W => (rdecode_any xx W (by omega)).mono fun e w' ⟨A, c, he, hb, _⟩ => (⟨A, c, by rw [hcn]; exact he, hb⟩ : ∃ A c, e = Ending.returned (.slice A cn c) ∧ Below W.heap.size W w')
          have b2 := hb6.trans (hbk.mono hb6.size)
          have CE := Lib.hid fun (W : World) (hW : Below wr.heap.size wr W) => (by
            have := rencode_any (cutA A c a) q (c - a) ((r.drop a).take q) W ((HA.out.below (b2.trans (hW.mono b2.size))).cut HR.out hc1 a q (by omega)) (by rw [List.length_take, List.length_drop, HR.out]; omega) (by omega)
            exact this : Calls Tryz.prog 17 #[.slice (cutA A c a) q (c - a)] W fun e w' => e = .returned (.string (txt ((r.drop a).take q))) ∧ Below W.heap.size W w')
          have hs2 := fun W => cut_both (P := Tryz.prog) Tryz.underlying27 hj0 (by kernel_rfl) A n c a q (by omega) W
          generalize txt ((r.drop a).take q) = sg at *
          generalize cutA A c a = cA at *
          have hw1 : IntKind.i64.wrap ((a : Int) + zv + (cn : Int)) = (a : Int) + zv + (cn : Int) := IntWalk.i64_in _ (by omega)
          have hsf := Lib.hid (show eflat ((einv r 0 l).take (k + 1)) = eflat ((einv r 0 l).take k) ++ [.int .i64 ((a : Int) + zv), .int .i64 ((a : Int) + zv + (cn : Int)), .string sg] from by
            rw [eth_take (by rw [HIL.out]; exact hjl), eflat_append, hei.out]; rfl)
          have HR2 := Lib.hid (RawAt.below HR6.out hbk (RawAt.lt HR6.out))
          have hownk := Lib.hid (own_below hown6.out hbk)
          have hxbr : wo.heap.size ≤ xb := by rw [HXB.out]; exact Nat.le_refl _
          have MK : Hid (∀ W : World, RawAt 64 W xb #[.int .i64 (a : Int), .int .i64 ((a : Int) + (q : Int)), .string xx] → (fun W => W.cell? ⟨xb, 0, none⟩ = some (.int .i64 (a : Int)) ∧ W.cell? ⟨xb, 1, none⟩ = some (.int .i64 ((a : Int) + (q : Int))) ∧ W.cell? ⟨xb, 2, none⟩ = some (.string xx)) W) := fun W hW => ⟨RawAt.cell hW 0, RawAt.cell hW 1, RawAt.cell hW 2⟩
          have hW2 : Below wr.heap.size wr wr.drew := (Below.refl _ _).drew
          have hxlt := RawAt.lt HR2.out
          have b2s := b2.size
          clear d0 d1 d2 hei hcn
          go_wp2_with fail
          refine wp_region_noPanic ?_
          refine wp_region_held_drew (S := (fun W => W.cell? ⟨xb, 0, none⟩ = some (.int .i64 (a : Int)) ∧ W.cell? ⟨xb, 1, none⟩ = some (.int .i64 ((a : Int) + (q : Int))) ∧ W.cell? ⟨xb, 2, none⟩ = some (.string xx))) (by kernel_rfl) (MK.out _ (RawAt.below HR2.out hW2 hxlt)) (fun hHeld => ?_)
          refine wpAnyH_take (i := 0) (v := ?_) rfl (by kernel_rfl) (by kernel_rfl) (by kernel_rfl) (fun _ _ _ h => h) (Or.inl ⟨by rfl, ?_⟩) hHeld ?_
          rotate_left
          · intro w hSw
            (try dsimp only at hSw)
            go_simp
            try with_reducible rfl
          go_simp
          refine wpAnyH_take (i := 1) (v := ?_) rfl (by kernel_rfl) (by kernel_rfl) (by kernel_rfl) (fun _ _ _ h => h) (Or.inl ⟨by rfl, ?_⟩) hHeld ?_
          rotate_left
          · intro w hSw
            (try dsimp only at hSw)
            go_simp
            try with_reducible rfl
          go_simp
          refine wpAnyH_take (i := 2) (v := ?_) rfl (by kernel_rfl) (by kernel_rfl) (by kernel_rfl) (fun _ _ _ h => h) (Or.inl ⟨by rfl, ?_⟩) hHeld ?_
          rotate_left
          · intro w hSw
            (try dsimp only at hSw)
            go_simp
            try with_reducible rfl
          go_simp
          refine wpAnyH_take (i := 3) (v := ?_) rfl (by kernel_rfl) (by kernel_rfl) (by kernel_rfl) (fun _ _ _ h => h) (Or.inl ⟨by rfl, ?_⟩) hHeld ?_
          rotate_left
          · intro w hSw
            (try dsimp only at hSw)
            go_simp
            try with_reducible rfl
          go_simp
          refine wpAnyH_take (i := 4) (v := ?_) rfl (by kernel_rfl) (by kernel_rfl) (by kernel_rfl) (fun _ _ _ h => h) (Or.inl ⟨by rfl, ?_⟩) hHeld ?_
          rotate_left
          · intro w hSw
            (try dsimp only at hSw)
            go_simp
            try with_reducible rfl
          go_simp
          refine wpAnyH_take (i := 8) (v := ?_) rfl (by kernel_rfl) (by kernel_rfl) (by kernel_rfl) (fun _ _ _ h => h) (Or.inl ⟨by rfl, ?_⟩) hHeld ?_
          rotate_left
          · intro w hSw
            (try dsimp only at hSw)
            go_simp
            try with_reducible rfl
          go_simp
          refine wpAnyH_take (i := 9) (v := ?_) rfl (by kernel_rfl) (by kernel_rfl) (by kernel_rfl) (fun _ _ _ h => h) (Or.inl ⟨by rfl, ?_⟩) hHeld ?_
          rotate_left
          · intro w hSw
            (try dsimp only at hSw)
            go_simp
            try with_reducible rfl
          go_simp
          refine wpAnyH_take (i := 10) (v := ?_) rfl (by kernel_rfl) (by kernel_rfl) (by kernel_rfl) (fun _ _ _ h => h) (Or.inl ⟨by rfl, ?_⟩) hHeld ?_
          rotate_left
          · intro w hSw
            (try dsimp only at hSw)
            go_simp
            try with_reducible rfl
          go_simp
          refine wpAnyH_take (i := 11) (v := ?_) rfl (by kernel_rfl) (by kernel_rfl) (by kernel_rfl) (fun _ _ _ h => h) (Or.inl ⟨by rfl, ?_⟩) hHeld ?_
          rotate_left
          · intro w hSw
            (try dsimp only at hSw)
            go_simp
            try with_reducible rfl
          go_simp
          refine wpAnyH_take (i := 12) (v := ?_) rfl (by kernel_rfl) (by kernel_rfl) (by kernel_rfl) (fun _ _ _ h => h) (Or.inl ⟨by rfl, ?_⟩) hHeld ?_
          rotate_left
          · intro w hSw
            (try dsimp only at hSw)
            go_simp
            try with_reducible rfl
          go_simp
          refine wpAnyH_take (i := 13) (v := ?_) rfl (by kernel_rfl) (by kernel_rfl) (by kernel_rfl) (fun _ _ _ h => h) (Or.inl ⟨by rfl, ?_⟩) hHeld ?_
          rotate_left
          · intro w hSw
            (try dsimp only at hSw)
            go_simp
            try with_reducible rfl
          go_simp
          refine wpAnyH_ready (rs := [5]) (by kernel_rfl) (by simp) ?_
          refine AllReadyH.cons rfl (fun K hK => ?_) ?_
          rotate_left
          · exact AllReadyH.nil
          go_simp
          go_wp2_with (first | (go_at_call 12; ((with_reducible refine (CD.out _).mono ?_); rintro e w8 ⟨A8, c8, rfl, hb8⟩); have hW2 := hW2.trans (hb8.mono hW2.size)) | (go_at_call 17; ((with_reducible refine (CE.out _ hW2).mono ?_); rintro e w9 ⟨rfl, hb9⟩); have hW2 := hW2.trans (hb9.mono hW2.size)))
          refine hK.out _ _ (MK.out _ (RawAt.below HR2.out hW2 hxlt)) (fun hHeld => ?_)
          clear hK K
          go_simp
          refine wpAnyH_take (i := 6) (v := ?_) rfl (by kernel_rfl) (by kernel_rfl) (by kernel_rfl) (fun _ _ _ h => h) (Or.inl ⟨by rfl, ?_⟩) hHeld ?_
          rotate_left
          · intro w hSw
            (try dsimp only at hSw)
            go_simp
            try with_reducible rfl
          go_simp
          refine wpAnyH_take (i := 7) (v := ?_) rfl (by kernel_rfl) (by kernel_rfl) (by kernel_rfl) (fun _ _ _ h => h) (Or.inl ⟨by rfl, ?_⟩) hHeld ?_
          rotate_left
          · intro w hSw
            (try dsimp only at hSw)
            go_simp
            try with_reducible rfl
          go_simp
          refine wpAnyH_ready (rs := [14]) (by kernel_rfl) (by simp) ?_
          refine AllReadyH.cons rfl (fun K hK => ?_) ?_
          rotate_left
          · exact AllReadyH.nil
          go_simp
          go_wp2_with (first | (go_at_call 12; ((with_reducible refine (CD.out _).mono ?_); rintro e w8 ⟨A8, c8, rfl, hb8⟩); have hW2 := hW2.trans (hb8.mono hW2.size)) | (go_at_call 17; ((with_reducible refine (CE.out _ hW2).mono ?_); rintro e w9 ⟨rfl, hb9⟩); have hW2 := hW2.trans (hb9.mono hW2.size)))
          refine hK.out _ _ (MK.out _ (RawAt.below HR2.out hW2 hxlt)) (fun hHeld => ?_)
          clear hK K
          go_simp
          refine wpAnyH_take (i := 15) (v := ?_) rfl (by kernel_rfl) (by kernel_rfl) (by kernel_rfl) (fun _ _ _ h => h) (Or.inl ⟨by rfl, ?_⟩) hHeld ?_
          rotate_left
          · intro w hSw
            (try dsimp only at hSw)
            go_simp
            try with_reducible rfl
          go_simp
          refine wpAnyH_ready (rs := [16]) (by kernel_rfl) (by simp) ?_
          refine AllReadyH.cons rfl (fun K hK => ?_) ?_
          rotate_left
          · exact AllReadyH.nil
          go_simp
          go_wp2_with fail
          have W0s := hW2.size
          refine hK.out _ _ (MK.out _ (RawAt.below HR2.out (hW2.alloc W0s (.cells #[.int .i64 ((a : Int) + zv), .int .i64 ((a : Int) + zv + (cn : Int)), .string sg] 64)) hxlt)) (fun hHeld => ?_)
          clear hK K
          go_simp
          refine wpAnyH_ready (rs := [17]) (by kernel_rfl) (by simp) ?_
          refine AllReadyH.cons rfl (fun K hK => ?_) ?_
          rotate_left
          · exact AllReadyH.nil
          have hW3 := hW2.alloc W0s (.cells #[.int .i64 ((a : Int) + zv), .int .i64 ((a : Int) + zv + (cn : Int)), .string sg] 64)
          have hown9 := own_below hownk.out hW3
          refine step_append_lies _ (by rfl) _ _ _ (by rfl) w.heap.size 64 i0 _ 3 32 Tryz.underlying52 hi0 hz0 hz1 hz2 rfl (by omega) _ k (eflat ((einv r 0 l).take k)) (by rfl) hown9 ⟨_, 0, none⟩ 1 1 [.int .i64 ((a : Int) + zv), .int .i64 ((a : Int) + zv + (cn : Int)), .string sg] (by rfl) (by rfl) (World.news_of_block (cs := #[.int .i64 ((a : Int) + zv), .int .i64 ((a : Int) + zv + (cn : Int)), .string sg]) (t := 64) (fr := (0, 0)) (heap_alloc_new _ _)) (by simp [Value.oneCell']) (by omega) (by simp only [maxLen]; omega) (by omega) (by have := hW3.size; omega) _ rfl ?_
          intro gg cap w10 hown10 hg10 hat10 hlt10
          have HR10 := Lib.hid (show RawAt 64 w10 xb _ from (hg10.block xb (by have := hW3.size; omega) (fun e => by have := (hlt4 xb e.symm).2; omega)).trans (RawAt.below HR2.out hW3 hxlt))
          refine hK.out _ _ (MK.out _ HR10.out) (fun hHeld => ?_)
          clear hK K
          go_simp
          refine wpAnyH_take (i := 18) (v := ?_) rfl (by kernel_rfl) (by kernel_rfl) (by kernel_rfl) (fun _ _ _ h => h) (Or.inl ⟨by rfl, ?_⟩) hHeld ?_
          rotate_left
          · intro w hSw
            (try dsimp only at hSw)
            go_simp
            try with_reducible rfl
          go_simp
          refine wpAnyH_done (by kernel_rfl) ?_ _
          refine NoPanic.normal ?_
          have b3 := b2.trans (hW3.mono b2s)
          have b10 : Below w.heap.size w w10 := b3.grown hg10 (by have := hW3.size; omega) (fun k hk => (hlt4 k hk).1)
          have HO10 := Lib.hid hown10
          clear hown10 hg10 hat10 hown9 hW3 hHeld MK
          go_wp2
          go_roundg (gO - 1)
          case measure => omega
          case rel => exact ⟨k + 1, by go_num, by omega, by omega, b10, Lib.hid (by rw [hsf.out]; exact HO10.out)⟩
    · have hj : j = m := by omega
      subst hj
      have hta : (einv r 0 l).take j = einv r 0 l := List.take_of_length_le (by rw [HIL.out, HL.out]; exact Nat.le_refl _)
      rw [hta] at hown
      obtain ⟨A7, c7, e7, hI7, hl7, hC7⟩ := eds_of_own hown.out
      have HI7 := Lib.hid hI7
      have HC7 := Lib.hid hC7
      subst e7
      clear hown hI7 hC7 hl7 hlt4
      go_wp2
      go_ret
      exact ⟨A7, c7, rfl, HI7.out, HC7.out, hb⟩
end Go.Proofs.YtglalmhpgdgeeaaGreat
