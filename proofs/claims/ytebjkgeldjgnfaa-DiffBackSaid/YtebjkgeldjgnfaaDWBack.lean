/- The law DiffBack: its walk. -/
import Derived.Test.YtebjkgeldjgnfaaDfK
import Derived.Test.YtebjkgeldjgnfaaDfJ
import Derived.Deep.DeepCutAuto
namespace Go.Proofs.Ytebjkgeldjgnfaa
open Go.RowKit
set_option linter.unusedVariables false
set_option maxHeartbeats 8000000 in
set_option maxRecDepth 100000 in
theorem diffBack_walk (A : Option Addr) (n c : Nat) (l : List Rw) (B : Option Addr) (m d : Nat) (o : List Rw) (p : Rp) (w : World) (hA : RowsAt encR 7 w A l) (hl : l.length = n) (hn : n * 64 ≤ reachBytes) (hc : Caps A n c) (okl : ∀ s ∈ l, RwOkW w s) (hB : RowsAt encR 7 w B o) (hy : o.length = m) (hm : m * 64 ≤ reachBytes) (hd : Caps B m d) (oko : ∀ s ∈ o, RwOkW w s) (hp : RpOk p) :
    Calls Try.prog 8 #[.slice A n c, .slice B m d, .agg #[.int .i64 p.a, .int .i64 p.b, .int .i64 p.c, .int .i64 p.d]] w fun e w' => e = .returned (.bool true) ∧ Below w.heap.size w w' := by
  have R0 : Hid (RawAt 28 (w.alloc (.cells #[.int .i64 p.a, .int .i64 p.b, .int .i64 p.c, .int .i64 p.d] 28)) w.heap.size #[.int .i64 p.a, .int .i64 p.b, .int .i64 p.c, .int .i64 p.d]) := Lib.hid (heap_alloc_new w _)
  have HB0 : Hid (Below w.heap.size w (w.alloc (.cells #[.int .i64 p.a, .int .i64 p.b, .int .i64 p.c, .int .i64 p.d] 28))) := Lib.hid ((Below.refl _ _).alloc (Nat.le_refl _) _)
  clear hp
  have hn9 : n ≤ maxLen := by simp only [maxLen, reachBytes] at *; omega
  have hm9 : m ≤ maxLen := by simp only [maxLen, reachBytes] at *; omega
  obtain ⟨b1, hb1⟩ : ∃ b, rlg 0 l = b := ⟨_, rfl⟩
  obtain ⟨b2, hb2⟩ : ∃ b, rlg 0 o = b := ⟨_, rfl⟩
  have CL1 := Lib.hid fun W (hW : Below w.heap.size w W) => dLong_any A n c l b1 hb1 W (hA.below hW) hl hn9
  have CL2 := Lib.hid fun W (hW : Below w.heap.size w W) => dLong_any B m d o b2 hb2 W (hB.below hW) hy hm9
  clear hn9 hm9
  go_enter Try.func8, Try.ntmps8
  go_wp2_with fail
  with_reducible refine (CL1.out _ HB0.out).mono ?_
  rintro e w1 ⟨rfl, hq1⟩
  have HB1 := Lib.hid (HB0.out.trans (hq1.mono HB0.out.size))
  have R1 := Lib.hid (RawAt.below R0.out hq1 (RawAt.lt R0.out))
  clear R0 hq1 CL1
  cases b1
  · go_wp2_with fail
    with_reducible refine (CL2.out _ HB1.out).mono ?_
    rintro e w2 ⟨rfl, hq2⟩
    have HB2 := Lib.hid (HB1.out.trans (hq2.mono HB1.out.size))
    have R2 := Lib.hid (RawAt.below R1.out hq2 (RawAt.lt R1.out))
    clear hq2 CL2
    cases b2
    · skip
      obtain ⟨hn4, okl2⟩ := small_of hl okl hb1
      obtain ⟨hm4, oko2⟩ := small_of hy oko hb2
      clear hb1 hb2 hn hm okl oko
      have okl3 : ∀ s ∈ l, RwOk w s ∧ s.n ≤ 9223372036854775807 := fun s hs => ⟨(okl2 s hs).1, by have := (okl2 s hs).2; omega⟩
      have oko3 : ∀ s ∈ o, RwOk w s ∧ s.n ≤ 9223372036854775807 := fun s hs => ⟨(oko2 s hs).1, by have := (oko2 s hs).2; omega⟩
      by_cases hsnd : Snd l o p
      · have CSD := Lib.hid fun W (hW : Below w.heap.size w W) => dSound_any A B n c m d l o p true ⟨fun _ => hsnd, fun _ => rfl⟩ W (hA.below hW) hl (hB.below hW) hy (fun s hs => ⟨(okl3 s hs).1.below hW, (okl3 s hs).2⟩) (fun s hs => ⟨(oko3 s hs).1.below hW, (oko3 s hs).2⟩) (by omega) (by omega)
        clear okl3 oko3
        obtain ⟨pa, pb, pc, pd⟩ := p
        simp only at R2 CSD
        have p0 := RawAt.cell R2.out 0
        have p1 := RawAt.cell R2.out 1
        have p2 := RawAt.cell R2.out 2
        have p3 := RawAt.cell R2.out 3
        simp at p0 p1 p2 p3
        go_wp2_with fail
        with_reducible refine (CSD.out _ HB2.out).mono ?_
        rintro e wz ⟨rfl, hqz⟩
        have HBz := Lib.hid (HB2.out.trans (hqz.mono HB2.out.size))
        have Rz := Lib.hid (RawAt.below R2.out hqz (RawAt.lt R2.out))
        clear hqz CSD p0 p1 p2 p3 R2 R1
        have hfit := hsnd.1
        rw [hl, hy] at hfit
        obtain ⟨⟨f1, f2, f3⟩, ⟨f4, f5, f6⟩, f7⟩ := hfit
        simp only at f1 f2 f3 f4 f5 f6 f7
        obtain ⟨ka, rfl⟩ : ∃ k : Nat, pa = k := ⟨pa.toNat, by omega⟩
        obtain ⟨kb, rfl⟩ : ∃ k : Nat, pb = k := ⟨pb.toNat, by omega⟩
        obtain ⟨kd, rfl⟩ : ∃ k : Nat, pd = k := ⟨pd.toNat, by omega⟩
        subst f4
        have hback := hsnd.back
        simp only [Int.toNat_natCast] at hback
        have hkd : ka ≤ kd ∧ kd ≤ m ∧ ka ≤ kb ∧ kb ≤ n ∧ n - kb = m - kd := ⟨by omega, by omega, by omega, by omega, by omega⟩
        obtain ⟨z1, z2, z3, z4, z5⟩ := hkd
        have hr3 : RowsAt encR 7 w (cutK B d 7 ka) ((o.drop ka).take (kd - ka)) := hB.cut hy hd.1 (j := ka) (m := kd - ka) (by omega)
        have hc3 : Caps (cutK B d 7 ka) (kd - ka) (d - ka) := by
          obtain ⟨h1, h2⟩ := caps_cut7 hd ka (by omega)
          exact ⟨by omega, h2⟩
        have hl3 : ((o.drop ka).take (kd - ka)).length = kd - ka := by rw [List.length_take, List.length_drop]; omega
        have CY := Lib.hid fun W (hW : Below w.heap.size w W) => dApply_yes A (cutK B d 7 ka) n c (kd - ka) (d - ka) l ((o.drop ka).take (kd - ka)) ka kb kd ⟨by omega, by omega⟩ ⟨⟨by simp only; omega, by simp only; omega, by simp only; omega⟩, ⟨rfl, by simp only; omega, by simp only; omega⟩, by simp only; omega⟩ W (hA.below hW) hl hc (hr3.below hW) hl3 hc3 (fun s hs => ⟨(okl2 s hs).1.below hW, by have := (okl2 s hs).2; omega⟩) (fun s hs => ⟨(oko2 s (List.mem_of_mem_drop (List.mem_of_mem_take hs))).1.below hW, by have := (oko2 s (List.mem_of_mem_drop (List.mem_of_mem_take hs))).2; omega⟩) (by omega) (by omega)
        have hqm : n - (kb - ka) + (kd - ka) = m := by omega
        rw [hqm] at CY
        have cut : ∀ W : World, (Instr.slice 30 (.slice B m d) (some (.int .i64 (ka : Int))) (some (.int .i64 (kd : Int))) none).run Try.prog W = .ok (.slice (cutK B d 7 ka) (kd - ka) (d - ka)) W := fun W => cutK_run row_slt B m d ka kd z1 (by have := hd.1; omega) W
        obtain ⟨Q, hQ⟩ : ∃ Q, Q = putR l ⟨ka, kb, ka, kd⟩ ((o.drop ka).take (kd - ka)) := ⟨_, rfl⟩
        rw [← hQ] at CY hback
        have HBK := Lib.hid hback
        have HB := Lib.hid hB
        have HO := Lib.hid hy
        have HKO : Hid (∀ s ∈ o, RwOk w s ∧ s.n ≤ 400) := Lib.hid oko2
        have HKL : Hid (∀ s ∈ l, s.n ≤ 400) := Lib.hid (fun s hs => (okl2 s hs).2)
        have k1 : decide ((ka : Int) < 0) = false := decide_eq_false (by omega)
        have k2 : decide ((kd : Int) < (ka : Int)) = false := decide_eq_false (by omega)
        have k2n : decide (kd < ka) = false := decide_eq_false (by omega)
        have k3 : decide ((m : Int) < (kd : Int)) = false := decide_eq_false (by omega)
        have k3n : decide (m < kd) = false := decide_eq_false (by omega)
        have kmm : ((m : Int) == (m : Int)) = true := by simp
        generalize cutK B d 7 ka = BC at *
        generalize d - ka = cb at *
        generalize kd - ka = nb at *
        clear hQ hback hr3 hc3 hl3 hqm hsnd hA hl hc hB hy hd okl2 oko2 f1 f2 f3 f5 f6 f7 z1 z2 z3 z4 z5
        have p0 := RawAt.cell Rz.out 0
        have p1 := RawAt.cell Rz.out 1
        have p2 := RawAt.cell Rz.out 2
        have p3 := RawAt.cell Rz.out 3
        simp at p0 p1 p2 p3
        go_wp2_with fail
        clear p0 p1 p2 p3
        have MK : Hid (∀ W : World, Below wz.heap.size wz W → (fun W => (W.cell? ⟨w.heap.size, 0, none⟩ = some (.int .i64 ka) ∧ W.cell? ⟨w.heap.size, 1, none⟩ = some (.int .i64 kb) ∧ W.cell? ⟨w.heap.size, 2, none⟩ = some (.int .i64 ka) ∧ W.cell? ⟨w.heap.size, 3, none⟩ = some (.int .i64 kd)) ∧ Below wz.heap.size wz W) W) := fun W hW => ⟨⟨RawAt.cell (RawAt.below Rz.out hW (RawAt.lt Rz.out)) 0, RawAt.cell (RawAt.below Rz.out hW (RawAt.lt Rz.out)) 1, RawAt.cell (RawAt.below Rz.out hW (RawAt.lt Rz.out)) 2, RawAt.cell (RawAt.below Rz.out hW (RawAt.lt Rz.out)) 3⟩, hW⟩
        have hW2 : Below wz.heap.size wz wz.drew := (Below.refl _ _).drew
        refine wp_region_noPanic ?_
        refine wp_region_held_drew (S := (fun W => (W.cell? ⟨w.heap.size, 0, none⟩ = some (.int .i64 ka) ∧ W.cell? ⟨w.heap.size, 1, none⟩ = some (.int .i64 kb) ∧ W.cell? ⟨w.heap.size, 2, none⟩ = some (.int .i64 ka) ∧ W.cell? ⟨w.heap.size, 3, none⟩ = some (.int .i64 kd)) ∧ Below wz.heap.size wz W)) (by kernel_rfl) (MK.out _ hW2) (fun hHeld => ?_)
        refine wpAnyH_take (i := 0) (v := ?_) rfl (by kernel_rfl) (by kernel_rfl) (by kernel_rfl) (fun _ _ _ h => h) (Or.inl ⟨by rfl, ?_⟩) hHeld ?_
        rotate_left
        · intro w hSw
          (try dsimp only at hSw)
          go_simp
          try with_reducible rfl
        go_simp
        refine wpAnyH_take (i := 1) (v := ?_) rfl (by kernel_rfl) (by kernel_rfl) (by kernel_rfl) (fun _ _ _ h => h) (Or.inl ⟨by rfl, ?_⟩) hHeld ?_
        rotate_left
        · intro w hSw
          (try dsimp only at hSw)
          go_simp
          try with_reducible rfl
        go_simp
        refine wpAnyH_take (i := 2) (v := ?_) rfl (by kernel_rfl) (by kernel_rfl) (by kernel_rfl) (fun _ _ _ h => h) (Or.inl ⟨by rfl, ?_⟩) hHeld ?_
        rotate_left
        · intro w hSw
          (try dsimp only at hSw)
          go_simp
          try with_reducible rfl
        go_simp
        refine wpAnyH_take (i := 3) (v := ?_) rfl (by kernel_rfl) (by kernel_rfl) (by kernel_rfl) (fun _ _ _ h => h) (Or.inl ⟨by rfl, ?_⟩) hHeld ?_
        rotate_left
        · intro w hSw
          (try dsimp only at hSw)
          go_simp
          try with_reducible rfl
        go_simp
        refine wpAnyH_take (i := 4) (v := ?_) rfl (by kernel_rfl) (by kernel_rfl) (by kernel_rfl) (fun _ _ _ h => h) (Or.inl ⟨by rfl, ?_⟩) hHeld ?_
        rotate_left
        · intro w hSw
          (try dsimp only at hSw)
          go_simp
          try with_reducible rfl
        go_simp
        refine wpAnyH_take (i := 5) (v := ?_) rfl (by kernel_rfl) (by kernel_rfl) (by kernel_rfl) (fun _ _ _ h => h) (Or.inl ⟨by rfl, ?_⟩) hHeld ?_
        rotate_left
        · intro w hSw
          (try dsimp only at hSw)
          go_simp
          try with_reducible rfl
        go_simp
        refine wpAnyH_take (i := 6) (v := ?_) rfl (by kernel_rfl) (by kernel_rfl) (by kernel_rfl) (fun _ _ _ h => h) (Or.inl ⟨by rfl, ?_⟩) hHeld ?_
        rotate_left
        · intro w hSw
          (try dsimp only at hSw)
          go_simp
          try with_reducible rfl
        go_simp
        refine wpAnyH_take (i := 7) (v := ?_) rfl (by kernel_rfl) (by kernel_rfl) (by kernel_rfl) (fun _ _ _ h => h) (Or.inl ⟨by rfl, ?_⟩) hHeld ?_
        rotate_left
        · intro w hSw
          (try dsimp only at hSw)
          go_simp
          try with_reducible rfl
        go_simp
        refine wpAnyH_ready (rs := [8]) (by kernel_rfl) (by simp) ?_
        refine AllReadyH.cons rfl (fun K hK => ?_) ?_
        rotate_left
        · exact AllReadyH.nil
        go_simp
        go_wp2_with (first | (go_at_call 19; ((with_reducible refine (CY.out _ (HBz.out.trans (hW2.mono HBz.out.size))).mono ?_); rintro e w5 ⟨A', c', l', rfl, hr5, hrb5, hok5, hb5⟩); have hW2 := hW2.trans (hb5.mono hW2.size); have HR5 := Lib.hid hr5; have HRB := Lib.hid hrb5; have HOK := Lib.hid hok5; clear hr5 hrb5 hok5 hb5))
        refine hK.out _ _ (MK.out _ hW2) (fun hHeld => ?_)
        clear hK K
        go_simp
        refine wpAnyH_take (i := 9) (v := ?_) rfl (by kernel_rfl) (by kernel_rfl) (by kernel_rfl) (fun _ _ _ h => h) (Or.inl ⟨by rfl, ?_⟩) hHeld ?_
        rotate_left
        · intro w hSw
          (try dsimp only at hSw)
          go_simp
          try with_reducible rfl
        go_simp
        refine wpAnyH_take (i := 10) (v := ?_) rfl (by kernel_rfl) (by kernel_rfl) (by kernel_rfl) (fun _ _ _ h => h) (Or.inl ⟨by rfl, ?_⟩) hHeld ?_
        rotate_left
        · intro w hSw
          (try dsimp only at hSw)
          go_simp
          try with_reducible rfl
        go_simp
        refine wpAnyH_take (i := 11) (v := ?_) rfl (by kernel_rfl) (by kernel_rfl) (by kernel_rfl) (fun _ _ _ h => h) (Or.inl ⟨by rfl, ?_⟩) hHeld ?_
        rotate_left
        · intro w hSw
          (try dsimp only at hSw)
          go_simp
          try with_reducible rfl
        go_simp
        refine wpAnyH_take (i := 12) (v := ?_) rfl (by kernel_rfl) (by kernel_rfl) (by kernel_rfl) (fun _ _ _ h => h) (Or.inl ⟨by rfl, ?_⟩) hHeld ?_
        rotate_left
        · intro w hSw
          (try dsimp only at hSw)
          go_simp
          try with_reducible rfl
        go_simp
        refine wpAnyH_take (i := 13) (v := ?_) rfl (by kernel_rfl) (by kernel_rfl) (by kernel_rfl) (fun _ _ _ h => h) (Or.inl ⟨by rfl, ?_⟩) hHeld ?_
        rotate_left
        · intro w hSw
          (try dsimp only at hSw)
          go_simp
          try with_reducible rfl
        go_simp
        refine wpAnyH_done (by kernel_rfl) ?_ _
        refine NoPanic.normal ?_
        have HBV := Lib.hid (HBz.out.trans (hW2.mono HBz.out.size))
        have HLL : Hid (l'.length = m) := Lib.hid (by rw [HRB.out.1, HBK.out.1]; exact HO.out)
        have HRS : Hid (∀ i, i < m → RS (rth l' i) (rth o i)) := Lib.hid (fun i hi => RS.of_rb (HRB.out.2 i (by rw [HBK.out.1, HO.out]; exact hi)) (HBK.out.2 i (by rw [HO.out]; exact hi)))
        have HNL : Hid (∀ s ∈ l', s.n ≤ 9223372036854775807) := Lib.hid (fun s hs => by have := (HOK.out s hs).max; simpa only [maxLen] using this)
        clear hW2 MK CY HRB HBK
        obtain ⟨wv, hwv⟩ : ∃ x, x = w5 := ⟨w5, rfl⟩
        rw [← hwv] at HBV HR5 HOK
        rw [← hwv]
        clear hwv
        go_wp2_with fail
        go_loopg [66] m (fun g i wr => ∃ (j : Nat), i = .int .i64 j ∧ j ≤ m ∧ m - j ≤ g ∧ Hid (Below wv.heap.size wv wr))
        case atStart => exact ⟨0, rfl, by omega, by omega, Lib.hid (Below.refl _ _)⟩
        case round =>
          obtain ⟨j, rfl, h1, h2, hb⟩ := hrel
          have HBW := Lib.hid (HBV.out.trans (hb.out.mono HBV.out.size))
          by_cases hlt : j < m
          · have hpl : j < l'.length := by rw [HLL.out]; exact hlt
            have hql : j < o.length := by rw [HO.out]; exact hlt
            have hrs : RS l'[j] o[j] := by have := HRS.out j hlt; rw [rth_get hpl, rth_get hql] at this; exact this
            have CS := Lib.hid fun W (hW : Below wv.heap.size wv W) (hW2 : Below w.heap.size w W) => dRSame_any l'[j] o[j] true ⟨fun _ => hrs, fun _ => rfl⟩ W ((HOK.out _ (List.getElem_mem hpl)).below hW) ((HKO.out _ (List.getElem_mem hql)).1.below hW2) (HNL.out _ (List.getElem_mem hpl)) (by have := (HKO.out _ (List.getElem_mem hql)).2; omega)
            obtain ⟨bA, off, rfl, hbA, d0, d1, d2, d3, d4, d5, d6⟩ := (HR5.out.below hb.out).row7 hpl
            have x3 : Below wr.heap.size wr (wr.alloc (.cells #[.slice l'[j].A l'[j].n l'[j].c, .int .i64 l'[j].st, .int .i64 l'[j].en, .int .i64 l'[j].bu, .bool l'[j].wr, .bool l'[j].fo, .int .i64 l'[j].wd] 24)) := (Below.refl _ _).alloc (Nat.le_refl _) _
            have R3 : Hid (RawAt 24 (wr.alloc (.cells #[.slice l'[j].A l'[j].n l'[j].c, .int .i64 l'[j].st, .int .i64 l'[j].en, .int .i64 l'[j].bu, .bool l'[j].wr, .bool l'[j].fo, .int .i64 l'[j].wd] 24)) wr.heap.size #[.slice l'[j].A l'[j].n l'[j].c, .int .i64 l'[j].st, .int .i64 l'[j].en, .int .i64 l'[j].bu, .bool l'[j].wr, .bool l'[j].fo, .int .i64 l'[j].wd]) := Lib.hid (heap_alloc_new wr _)
            have HB3 := Lib.hid (HBW.out.trans (x3.mono HBW.out.size))
            have HV3 := Lib.hid (hb.out.trans (x3.mono hb.out.size))
            obtain ⟨bB, of2, hBe, hbB, hcB⟩ := (HB.out.below HB3.out).at1 hql
            subst hBe
            have HBB := Lib.hid hbB
            have HcB := Lib.hid hcB
            clear x3 hbB hcB hrs
            generalize l'[j] = x at *
            generalize o[j] = y at *
            have i1 : (0 : Int) ≤ j := by omega
            have i2 : (j : Int) < m := by omega
            obtain ⟨nw, hnw⟩ : ∃ nw, nw = wr.heap.size := ⟨_, rfl⟩
            rw [← hnw] at R3
            have HNW := Lib.hid hnw
            clear hnw
            go_wp2_with fail
            rw [← HNW.out]
            generalize hW3 : wr.alloc (.cells #[.slice x.A x.n x.c, .int .i64 x.st, .int .i64 x.en, .int .i64 x.bu, .bool x.wr, .bool x.fo, .int .i64 x.wd] 24) = W3 at *
            have HW3 := Lib.hid hW3
            clear hW3
            have MK : Hid (∀ W : World, Below W3.heap.size W3 W → (fun W => (W.cell? ⟨nw, 0, none⟩ = some (.slice x.A x.n x.c) ∧ W.cell? ⟨nw, 1, none⟩ = some (.int .i64 x.st) ∧ W.cell? ⟨nw, 2, none⟩ = some (.int .i64 x.en) ∧ W.cell? ⟨nw, 3, none⟩ = some (.int .i64 x.bu) ∧ W.cell? ⟨nw, 4, none⟩ = some (.bool x.wr) ∧ W.cell? ⟨nw, 5, none⟩ = some (.bool x.fo) ∧ W.cell? ⟨nw, 6, none⟩ = some (.int .i64 x.wd)) ∧ (W.cell? ⟨bB, of2 + j * 7, none⟩ = some (.slice y.A y.n y.c) ∧ W.cell? ⟨bB, of2 + j * 7 + 1, none⟩ = some (.int .i64 y.st) ∧ W.cell? ⟨bB, of2 + j * 7 + 2, none⟩ = some (.int .i64 y.en) ∧ W.cell? ⟨bB, of2 + j * 7 + 3, none⟩ = some (.int .i64 y.bu) ∧ W.cell? ⟨bB, of2 + j * 7 + 4, none⟩ = some (.bool y.wr) ∧ W.cell? ⟨bB, of2 + j * 7 + 5, none⟩ = some (.bool y.fo) ∧ W.cell? ⟨bB, of2 + j * 7 + 6, none⟩ = some (.int .i64 y.wd)) ∧ Below W3.heap.size W3 W) W) := fun W hW => by
              have r1 := RawAt.below R3.out hW (RawAt.lt R3.out)
              have r2 : ∀ f, f < 7 → W.cell? ⟨bB, of2 + j * 7 + f, none⟩ = (encR y)[f]? := fun f h => (hW.cell (p := ⟨bB, of2 + j * 7 + f, none⟩) HBB.out).trans (HcB.out f h)
              exact ⟨⟨RawAt.cell r1 0, RawAt.cell r1 1, RawAt.cell r1 2, RawAt.cell r1 3, RawAt.cell r1 4, RawAt.cell r1 5, RawAt.cell r1 6⟩, ⟨r2 0 (by omega), r2 1 (by omega), r2 2 (by omega), r2 3 (by omega), r2 4 (by omega), r2 5 (by omega), r2 6 (by omega)⟩, hW⟩
            have hW2 : Below W3.heap.size W3 W3.drew := (Below.refl _ _).drew
            refine wp_region_noPanic ?_
            refine wp_region_held_drew (S := (fun W => (W.cell? ⟨nw, 0, none⟩ = some (.slice x.A x.n x.c) ∧ W.cell? ⟨nw, 1, none⟩ = some (.int .i64 x.st) ∧ W.cell? ⟨nw, 2, none⟩ = some (.int .i64 x.en) ∧ W.cell? ⟨nw, 3, none⟩ = some (.int .i64 x.bu) ∧ W.cell? ⟨nw, 4, none⟩ = some (.bool x.wr) ∧ W.cell? ⟨nw, 5, none⟩ = some (.bool x.fo) ∧ W.cell? ⟨nw, 6, none⟩ = some (.int .i64 x.wd)) ∧ (W.cell? ⟨bB, of2 + j * 7, none⟩ = some (.slice y.A y.n y.c) ∧ W.cell? ⟨bB, of2 + j * 7 + 1, none⟩ = some (.int .i64 y.st) ∧ W.cell? ⟨bB, of2 + j * 7 + 2, none⟩ = some (.int .i64 y.en) ∧ W.cell? ⟨bB, of2 + j * 7 + 3, none⟩ = some (.int .i64 y.bu) ∧ W.cell? ⟨bB, of2 + j * 7 + 4, none⟩ = some (.bool y.wr) ∧ W.cell? ⟨bB, of2 + j * 7 + 5, none⟩ = some (.bool y.fo) ∧ W.cell? ⟨bB, of2 + j * 7 + 6, none⟩ = some (.int .i64 y.wd)) ∧ Below W3.heap.size W3 W)) (by kernel_rfl) (MK.out _ hW2) (fun hHeld => ?_)
            refine wpAnyH_take (i := 0) (v := ?_) rfl (by kernel_rfl) (by kernel_rfl) (by kernel_rfl) (fun _ _ _ h => h) (Or.inl ⟨by rfl, ?_⟩) hHeld ?_
            rotate_left
            · intro w hSw
              (try dsimp only at hSw)
              go_simp
              try with_reducible rfl
            go_simp
            refine wpAnyH_take (i := 1) (v := ?_) rfl (by kernel_rfl) (by kernel_rfl) (by kernel_rfl) (fun _ _ _ h => h) (Or.inl ⟨by rfl, ?_⟩) hHeld ?_
            rotate_left
            · intro w hSw
              (try dsimp only at hSw)
              go_simp
              try with_reducible rfl
            go_simp
            refine wpAnyH_take (i := 2) (v := ?_) rfl (by kernel_rfl) (by kernel_rfl) (by kernel_rfl) (fun _ _ _ h => h) (Or.inl ⟨by rfl, ?_⟩) hHeld ?_
            rotate_left
            · intro w hSw
              (try dsimp only at hSw)
              go_simp
              try with_reducible rfl
            go_simp
            refine wpAnyH_take (i := 3) (v := ?_) rfl (by kernel_rfl) (by kernel_rfl) (by kernel_rfl) (fun _ _ _ h => h) (Or.inl ⟨by rfl, ?_⟩) hHeld ?_
            rotate_left
            · intro w hSw
              (try dsimp only at hSw)
              go_simp
              try with_reducible rfl
            go_simp
            refine wpAnyH_take (i := 4) (v := ?_) rfl (by kernel_rfl) (by kernel_rfl) (by kernel_rfl) (fun _ _ _ h => h) (Or.inl ⟨by rfl, ?_⟩) hHeld ?_
            rotate_left
            · intro w hSw
              (try dsimp only at hSw)
              go_simp
              try with_reducible rfl
            go_simp
            refine wpAnyH_ready (rs := [5]) (by kernel_rfl) (by simp) ?_
            refine AllReadyH.cons rfl (fun K hK => ?_) ?_
            rotate_left
            · exact AllReadyH.nil
            go_simp
            go_wp2_with (first | (go_at_call 11; ((with_reducible refine (CS.out _ (HV3.out.trans (hW2.mono HV3.out.size)) (HB3.out.trans (hW2.mono HB3.out.size))).mono ?_); rintro e w6 ⟨rfl, hb6⟩); have hW2 := hW2.trans (hb6.mono hW2.size)))
            refine hK.out _ _ (MK.out _ hW2) (fun hHeld => ?_)
            clear hK K
            go_simp
            refine wpAnyH_take (i := 6) (v := ?_) rfl (by kernel_rfl) (by kernel_rfl) (by kernel_rfl) (fun _ _ _ h => h) (Or.inl ⟨by rfl, ?_⟩) hHeld ?_
            rotate_left
            · intro w hSw
              (try dsimp only at hSw)
              go_simp
              try with_reducible rfl
            go_simp
            refine wpAnyH_done (by kernel_rfl) ?_ _
            refine NoPanic.normal ?_
            have HB4 := Lib.hid (HV3.out.trans (hW2.mono HV3.out.size))
            go_wp2
            go_roundg (gk - 1)
            case measure => omega
            case rel => exact ⟨j + 1, by go_num, by omega, by omega, HB4⟩
          · obtain rfl : j = m := by omega
            go_wp2_with fail
            with_reducible refine (dMid_any _).mono ?_
            rintro e w9 ⟨rfl, hb9⟩
            have HB9 := Lib.hid (HBW.out.trans (hb9.mono HBW.out.size))
            go_wp2
            go_ret
            exact ⟨rfl, HB9.out⟩
      · have CSD := Lib.hid fun W (hW : Below w.heap.size w W) => dSound_any A B n c m d l o p false ⟨(fun h => by cases h), fun h => absurd h hsnd⟩ W (hA.below hW) hl (hB.below hW) hy (fun s hs => ⟨(okl3 s hs).1.below hW, (okl3 s hs).2⟩) (fun s hs => ⟨(oko3 s hs).1.below hW, (oko3 s hs).2⟩) (by omega) (by omega)
        obtain ⟨p', hp'⟩ := lst_ex l o
        have CLS := Lib.hid fun W (hW : Below w.heap.size w W) => dLeast_any A B n c m d l o p' hp' W (hA.below hW) hl (hB.below hW) hy (fun s hs => ⟨(okl3 s hs).1.below hW, (okl3 s hs).2⟩) (fun s hs => ⟨(oko3 s hs).1.below hW, (oko3 s hs).2⟩) (by omega) (by omega)
        have hsnd := hp'.snd
        clear okl3 oko3 hp'
        obtain ⟨qa, qb, qc, qd⟩ := p
        obtain ⟨pa, pb, pc, pd⟩ := p'
        simp only at R2 CSD CLS
        have p0 := RawAt.cell R2.out 0
        have p1 := RawAt.cell R2.out 1
        have p2 := RawAt.cell R2.out 2
        have p3 := RawAt.cell R2.out 3
        simp at p0 p1 p2 p3
        go_wp2_with fail
        with_reducible refine (CSD.out _ HB2.out).mono ?_
        rintro e w3 ⟨rfl, hq3⟩
        have HB3 := Lib.hid (HB2.out.trans (hq3.mono HB2.out.size))
        have R3 := Lib.hid (RawAt.below R2.out hq3 (RawAt.lt R2.out))
        clear hq3 CSD p0 p1 p2 p3 R2 R1
        go_wp2_with fail
        with_reducible refine (CLS.out _ HB3.out).mono ?_
        rintro e w4 ⟨rfl, hq4⟩
        have HB4 := Lib.hid (HB3.out.trans (hq4.mono HB3.out.size))
        have R4 := RawAt.below R3.out hq4 (RawAt.lt R3.out)
        clear hq4 CLS R3
        have y0 := RawAt.cell R4 0
        have y1 := RawAt.cell R4 1
        have y2 := RawAt.cell R4 2
        have y3 := RawAt.cell R4 3
        simp at y0 y1 y2 y3
        have f0 := RawAt.free R4 0
        have f1 := RawAt.free R4 1
        have f2 := RawAt.free R4 2
        have f3 := RawAt.free R4 3
        have Rz0 := RawAt.set_ (RawAt.set_ (RawAt.set_ (RawAt.set_ R4 0 (.int .i64 pa)) 1 (.int .i64 pb)) 2 (.int .i64 pc)) 3 (.int .i64 pd)
        have Rz := Lib.hid (Rz0.of_eq (cs' := #[.int .i64 pa, .int .i64 pb, .int .i64 pc, .int .i64 pd]) (by simp))
        have HBz := Lib.hid ((((HB4.out.setCell (p := ⟨w.heap.size, 0, none⟩) (Nat.le_refl _) (.int .i64 pa)).setCell (p := ⟨w.heap.size, 1, none⟩) (Nat.le_refl _) (.int .i64 pb)).setCell (p := ⟨w.heap.size, 2, none⟩) (Nat.le_refl _) (.int .i64 pc)).setCell (p := ⟨w.heap.size, 3, none⟩) (Nat.le_refl _) (.int .i64 pd))
        clear R4 Rz0
        obtain ⟨wz, hwz⟩ : ∃ wz, wz = (((w4.setCell ⟨w.heap.size, 0, none⟩ (.int .i64 pa)).setCell ⟨w.heap.size, 1, none⟩ (.int .i64 pb)).setCell ⟨w.heap.size, 2, none⟩ (.int .i64 pc)).setCell ⟨w.heap.size, 3, none⟩ (.int .i64 pd) := ⟨_, rfl⟩
        rw [← hwz] at Rz HBz
        have HWZ := Lib.hid hwz
        clear hwz
        go_upto_region 5 with fail
        rw [← HWZ.out]
        clear HWZ y0 y1 y2 y3 f0 f1 f2 f3
        have hfit := hsnd.1
        rw [hl, hy] at hfit
        obtain ⟨⟨f1, f2, f3⟩, ⟨f4, f5, f6⟩, f7⟩ := hfit
        simp only at f1 f2 f3 f4 f5 f6 f7
        obtain ⟨ka, rfl⟩ : ∃ k : Nat, pa = k := ⟨pa.toNat, by omega⟩
        obtain ⟨kb, rfl⟩ : ∃ k : Nat, pb = k := ⟨pb.toNat, by omega⟩
        obtain ⟨kd, rfl⟩ : ∃ k : Nat, pd = k := ⟨pd.toNat, by omega⟩
        subst f4
        have hback := hsnd.back
        simp only [Int.toNat_natCast] at hback
        have hkd : ka ≤ kd ∧ kd ≤ m ∧ ka ≤ kb ∧ kb ≤ n ∧ n - kb = m - kd := ⟨by omega, by omega, by omega, by omega, by omega⟩
        obtain ⟨z1, z2, z3, z4, z5⟩ := hkd
        have hr3 : RowsAt encR 7 w (cutK B d 7 ka) ((o.drop ka).take (kd - ka)) := hB.cut hy hd.1 (j := ka) (m := kd - ka) (by omega)
        have hc3 : Caps (cutK B d 7 ka) (kd - ka) (d - ka) := by
          obtain ⟨h1, h2⟩ := caps_cut7 hd ka (by omega)
          exact ⟨by omega, h2⟩
        have hl3 : ((o.drop ka).take (kd - ka)).length = kd - ka := by rw [List.length_take, List.length_drop]; omega
        have CY := Lib.hid fun W (hW : Below w.heap.size w W) => dApply_yes A (cutK B d 7 ka) n c (kd - ka) (d - ka) l ((o.drop ka).take (kd - ka)) ka kb kd ⟨by omega, by omega⟩ ⟨⟨by simp only; omega, by simp only; omega, by simp only; omega⟩, ⟨rfl, by simp only; omega, by simp only; omega⟩, by simp only; omega⟩ W (hA.below hW) hl hc (hr3.below hW) hl3 hc3 (fun s hs => ⟨(okl2 s hs).1.below hW, by have := (okl2 s hs).2; omega⟩) (fun s hs => ⟨(oko2 s (List.mem_of_mem_drop (List.mem_of_mem_take hs))).1.below hW, by have := (oko2 s (List.mem_of_mem_drop (List.mem_of_mem_take hs))).2; omega⟩) (by omega) (by omega)
        have hqm : n - (kb - ka) + (kd - ka) = m := by omega
        rw [hqm] at CY
        have cut : ∀ W : World, (Instr.slice 30 (.slice B m d) (some (.int .i64 (ka : Int))) (some (.int .i64 (kd : Int))) none).run Try.prog W = .ok (.slice (cutK B d 7 ka) (kd - ka) (d - ka)) W := fun W => cutK_run row_slt B m d ka kd z1 (by have := hd.1; omega) W
        obtain ⟨Q, hQ⟩ : ∃ Q, Q = putR l ⟨ka, kb, ka, kd⟩ ((o.drop ka).take (kd - ka)) := ⟨_, rfl⟩
        rw [← hQ] at CY hback
        have HBK := Lib.hid hback
        have HB := Lib.hid hB
        have HO := Lib.hid hy
        have HKO : Hid (∀ s ∈ o, RwOk w s ∧ s.n ≤ 400) := Lib.hid oko2
        have HKL : Hid (∀ s ∈ l, s.n ≤ 400) := Lib.hid (fun s hs => (okl2 s hs).2)
        have k1 : decide ((ka : Int) < 0) = false := decide_eq_false (by omega)
        have k2 : decide ((kd : Int) < (ka : Int)) = false := decide_eq_false (by omega)
        have k2n : decide (kd < ka) = false := decide_eq_false (by omega)
        have k3 : decide ((m : Int) < (kd : Int)) = false := decide_eq_false (by omega)
        have k3n : decide (m < kd) = false := decide_eq_false (by omega)
        have kmm : ((m : Int) == (m : Int)) = true := by simp
        generalize cutK B d 7 ka = BC at *
        generalize d - ka = cb at *
        generalize kd - ka = nb at *
        clear hQ hback hr3 hc3 hl3 hqm hsnd hA hl hc hB hy hd okl2 oko2 f1 f2 f3 f5 f6 f7 z1 z2 z3 z4 z5
        have p0 := RawAt.cell Rz.out 0
        have p1 := RawAt.cell Rz.out 1
        have p2 := RawAt.cell Rz.out 2
        have p3 := RawAt.cell Rz.out 3
        simp at p0 p1 p2 p3
        go_wp2_with fail
        clear p0 p1 p2 p3
        have MK : Hid (∀ W : World, Below wz.heap.size wz W → (fun W => (W.cell? ⟨w.heap.size, 0, none⟩ = some (.int .i64 ka) ∧ W.cell? ⟨w.heap.size, 1, none⟩ = some (.int .i64 kb) ∧ W.cell? ⟨w.heap.size, 2, none⟩ = some (.int .i64 ka) ∧ W.cell? ⟨w.heap.size, 3, none⟩ = some (.int .i64 kd)) ∧ Below wz.heap.size wz W) W) := fun W hW => ⟨⟨RawAt.cell (RawAt.below Rz.out hW (RawAt.lt Rz.out)) 0, RawAt.cell (RawAt.below Rz.out hW (RawAt.lt Rz.out)) 1, RawAt.cell (RawAt.below Rz.out hW (RawAt.lt Rz.out)) 2, RawAt.cell (RawAt.below Rz.out hW (RawAt.lt Rz.out)) 3⟩, hW⟩
        have hW2 : Below wz.heap.size wz wz.drew := (Below.refl _ _).drew
        refine wp_region_noPanic ?_
        refine wp_region_held_drew (S := (fun W => (W.cell? ⟨w.heap.size, 0, none⟩ = some (.int .i64 ka) ∧ W.cell? ⟨w.heap.size, 1, none⟩ = some (.int .i64 kb) ∧ W.cell? ⟨w.heap.size, 2, none⟩ = some (.int .i64 ka) ∧ W.cell? ⟨w.heap.size, 3, none⟩ = some (.int .i64 kd)) ∧ Below wz.heap.size wz W)) (by kernel_rfl) (MK.out _ hW2) (fun hHeld => ?_)
        refine wpAnyH_take (i := 0) (v := ?_) rfl (by kernel_rfl) (by kernel_rfl) (by kernel_rfl) (fun _ _ _ h => h) (Or.inl ⟨by rfl, ?_⟩) hHeld ?_
        rotate_left
        · intro w hSw
          (try dsimp only at hSw)
          go_simp
          try with_reducible rfl
        go_simp
        refine wpAnyH_take (i := 1) (v := ?_) rfl (by kernel_rfl) (by kernel_rfl) (by kernel_rfl) (fun _ _ _ h => h) (Or.inl ⟨by rfl, ?_⟩) hHeld ?_
        rotate_left
        · intro w hSw
          (try dsimp only at hSw)
          go_simp
          try with_reducible rfl
        go_simp
        refine wpAnyH_take (i := 2) (v := ?_) rfl (by kernel_rfl) (by kernel_rfl) (by kernel_rfl) (fun _ _ _ h => h) (Or.inl ⟨by rfl, ?_⟩) hHeld ?_
        rotate_left
        · intro w hSw
          (try dsimp only at hSw)
          go_simp
          try with_reducible rfl
        go_simp
        refine wpAnyH_take (i := 3) (v := ?_) rfl (by kernel_rfl) (by kernel_rfl) (by kernel_rfl) (fun _ _ _ h => h) (Or.inl ⟨by rfl, ?_⟩) hHeld ?_
        rotate_left
        · intro w hSw
          (try dsimp only at hSw)
          go_simp
          try with_reducible rfl
        go_simp
        refine wpAnyH_take (i := 4) (v := ?_) rfl (by kernel_rfl) (by kernel_rfl) (by kernel_rfl) (fun _ _ _ h => h) (Or.inl ⟨by rfl, ?_⟩) hHeld ?_
        rotate_left
        · intro w hSw
          (try dsimp only at hSw)
          go_simp
          try with_reducible rfl
        go_simp
        refine wpAnyH_take (i := 5) (v := ?_) rfl (by kernel_rfl) (by kernel_rfl) (by kernel_rfl) (fun _ _ _ h => h) (Or.inl ⟨by rfl, ?_⟩) hHeld ?_
        rotate_left
        · intro w hSw
          (try dsimp only at hSw)
          go_simp
          try with_reducible rfl
        go_simp
        refine wpAnyH_take (i := 6) (v := ?_) rfl (by kernel_rfl) (by kernel_rfl) (by kernel_rfl) (fun _ _ _ h => h) (Or.inl ⟨by rfl, ?_⟩) hHeld ?_
        rotate_left
        · intro w hSw
          (try dsimp only at hSw)
          go_simp
          try with_reducible rfl
        go_simp
        refine wpAnyH_take (i := 7) (v := ?_) rfl (by kernel_rfl) (by kernel_rfl) (by kernel_rfl) (fun _ _ _ h => h) (Or.inl ⟨by rfl, ?_⟩) hHeld ?_
        rotate_left
        · intro w hSw
          (try dsimp only at hSw)
          go_simp
          try with_reducible rfl
        go_simp
        refine wpAnyH_ready (rs := [8]) (by kernel_rfl) (by simp) ?_
        refine AllReadyH.cons rfl (fun K hK => ?_) ?_
        rotate_left
        · exact AllReadyH.nil
        go_simp
        go_wp2_with (first | (go_at_call 19; ((with_reducible refine (CY.out _ (HBz.out.trans (hW2.mono HBz.out.size))).mono ?_); rintro e w5 ⟨A', c', l', rfl, hr5, hrb5, hok5, hb5⟩); have hW2 := hW2.trans (hb5.mono hW2.size); have HR5 := Lib.hid hr5; have HRB := Lib.hid hrb5; have HOK := Lib.hid hok5; clear hr5 hrb5 hok5 hb5))
        refine hK.out _ _ (MK.out _ hW2) (fun hHeld => ?_)
        clear hK K
        go_simp
        refine wpAnyH_take (i := 9) (v := ?_) rfl (by kernel_rfl) (by kernel_rfl) (by kernel_rfl) (fun _ _ _ h => h) (Or.inl ⟨by rfl, ?_⟩) hHeld ?_
        rotate_left
        · intro w hSw
          (try dsimp only at hSw)
          go_simp
          try with_reducible rfl
        go_simp
        refine wpAnyH_take (i := 10) (v := ?_) rfl (by kernel_rfl) (by kernel_rfl) (by kernel_rfl) (fun _ _ _ h => h) (Or.inl ⟨by rfl, ?_⟩) hHeld ?_
        rotate_left
        · intro w hSw
          (try dsimp only at hSw)
          go_simp
          try with_reducible rfl
        go_simp
        refine wpAnyH_take (i := 11) (v := ?_) rfl (by kernel_rfl) (by kernel_rfl) (by kernel_rfl) (fun _ _ _ h => h) (Or.inl ⟨by rfl, ?_⟩) hHeld ?_
        rotate_left
        · intro w hSw
          (try dsimp only at hSw)
          go_simp
          try with_reducible rfl
        go_simp
        refine wpAnyH_take (i := 12) (v := ?_) rfl (by kernel_rfl) (by kernel_rfl) (by kernel_rfl) (fun _ _ _ h => h) (Or.inl ⟨by rfl, ?_⟩) hHeld ?_
        rotate_left
        · intro w hSw
          (try dsimp only at hSw)
          go_simp
          try with_reducible rfl
        go_simp
        refine wpAnyH_take (i := 13) (v := ?_) rfl (by kernel_rfl) (by kernel_rfl) (by kernel_rfl) (fun _ _ _ h => h) (Or.inl ⟨by rfl, ?_⟩) hHeld ?_
        rotate_left
        · intro w hSw
          (try dsimp only at hSw)
          go_simp
          try with_reducible rfl
        go_simp
        refine wpAnyH_done (by kernel_rfl) ?_ _
        refine NoPanic.normal ?_
        have HBV := Lib.hid (HBz.out.trans (hW2.mono HBz.out.size))
        have HLL : Hid (l'.length = m) := Lib.hid (by rw [HRB.out.1, HBK.out.1]; exact HO.out)
        have HRS : Hid (∀ i, i < m → RS (rth l' i) (rth o i)) := Lib.hid (fun i hi => RS.of_rb (HRB.out.2 i (by rw [HBK.out.1, HO.out]; exact hi)) (HBK.out.2 i (by rw [HO.out]; exact hi)))
        have HNL : Hid (∀ s ∈ l', s.n ≤ 9223372036854775807) := Lib.hid (fun s hs => by have := (HOK.out s hs).max; simpa only [maxLen] using this)
        clear hW2 MK CY HRB HBK
        obtain ⟨wv, hwv⟩ : ∃ x, x = w5 := ⟨w5, rfl⟩
        rw [← hwv] at HBV HR5 HOK
        rw [← hwv]
        clear hwv
        go_wp2_with fail
        go_loopg [66] m (fun g i wr => ∃ (j : Nat), i = .int .i64 j ∧ j ≤ m ∧ m - j ≤ g ∧ Hid (Below wv.heap.size wv wr))
        case atStart => exact ⟨0, rfl, by omega, by omega, Lib.hid (Below.refl _ _)⟩
        case round =>
          obtain ⟨j, rfl, h1, h2, hb⟩ := hrel
          have HBW := Lib.hid (HBV.out.trans (hb.out.mono HBV.out.size))
          by_cases hlt : j < m
          · have hpl : j < l'.length := by rw [HLL.out]; exact hlt
            have hql : j < o.length := by rw [HO.out]; exact hlt
            have hrs : RS l'[j] o[j] := by have := HRS.out j hlt; rw [rth_get hpl, rth_get hql] at this; exact this
            have CS := Lib.hid fun W (hW : Below wv.heap.size wv W) (hW2 : Below w.heap.size w W) => dRSame_any l'[j] o[j] true ⟨fun _ => hrs, fun _ => rfl⟩ W ((HOK.out _ (List.getElem_mem hpl)).below hW) ((HKO.out _ (List.getElem_mem hql)).1.below hW2) (HNL.out _ (List.getElem_mem hpl)) (by have := (HKO.out _ (List.getElem_mem hql)).2; omega)
            obtain ⟨bA, off, rfl, hbA, d0, d1, d2, d3, d4, d5, d6⟩ := (HR5.out.below hb.out).row7 hpl
            have x3 : Below wr.heap.size wr (wr.alloc (.cells #[.slice l'[j].A l'[j].n l'[j].c, .int .i64 l'[j].st, .int .i64 l'[j].en, .int .i64 l'[j].bu, .bool l'[j].wr, .bool l'[j].fo, .int .i64 l'[j].wd] 24)) := (Below.refl _ _).alloc (Nat.le_refl _) _
            have R3 : Hid (RawAt 24 (wr.alloc (.cells #[.slice l'[j].A l'[j].n l'[j].c, .int .i64 l'[j].st, .int .i64 l'[j].en, .int .i64 l'[j].bu, .bool l'[j].wr, .bool l'[j].fo, .int .i64 l'[j].wd] 24)) wr.heap.size #[.slice l'[j].A l'[j].n l'[j].c, .int .i64 l'[j].st, .int .i64 l'[j].en, .int .i64 l'[j].bu, .bool l'[j].wr, .bool l'[j].fo, .int .i64 l'[j].wd]) := Lib.hid (heap_alloc_new wr _)
            have HB3 := Lib.hid (HBW.out.trans (x3.mono HBW.out.size))
            have HV3 := Lib.hid (hb.out.trans (x3.mono hb.out.size))
            obtain ⟨bB, of2, hBe, hbB, hcB⟩ := (HB.out.below HB3.out).at1 hql
            subst hBe
            have HBB := Lib.hid hbB
            have HcB := Lib.hid hcB
            clear x3 hbB hcB hrs
            generalize l'[j] = x at *
            generalize o[j] = y at *
            have i1 : (0 : Int) ≤ j := by omega
            have i2 : (j : Int) < m := by omega
            obtain ⟨nw, hnw⟩ : ∃ nw, nw = wr.heap.size := ⟨_, rfl⟩
            rw [← hnw] at R3
            have HNW := Lib.hid hnw
            clear hnw
            go_wp2_with fail
            rw [← HNW.out]
            generalize hW3 : wr.alloc (.cells #[.slice x.A x.n x.c, .int .i64 x.st, .int .i64 x.en, .int .i64 x.bu, .bool x.wr, .bool x.fo, .int .i64 x.wd] 24) = W3 at *
            have HW3 := Lib.hid hW3
            clear hW3
            have MK : Hid (∀ W : World, Below W3.heap.size W3 W → (fun W => (W.cell? ⟨nw, 0, none⟩ = some (.slice x.A x.n x.c) ∧ W.cell? ⟨nw, 1, none⟩ = some (.int .i64 x.st) ∧ W.cell? ⟨nw, 2, none⟩ = some (.int .i64 x.en) ∧ W.cell? ⟨nw, 3, none⟩ = some (.int .i64 x.bu) ∧ W.cell? ⟨nw, 4, none⟩ = some (.bool x.wr) ∧ W.cell? ⟨nw, 5, none⟩ = some (.bool x.fo) ∧ W.cell? ⟨nw, 6, none⟩ = some (.int .i64 x.wd)) ∧ (W.cell? ⟨bB, of2 + j * 7, none⟩ = some (.slice y.A y.n y.c) ∧ W.cell? ⟨bB, of2 + j * 7 + 1, none⟩ = some (.int .i64 y.st) ∧ W.cell? ⟨bB, of2 + j * 7 + 2, none⟩ = some (.int .i64 y.en) ∧ W.cell? ⟨bB, of2 + j * 7 + 3, none⟩ = some (.int .i64 y.bu) ∧ W.cell? ⟨bB, of2 + j * 7 + 4, none⟩ = some (.bool y.wr) ∧ W.cell? ⟨bB, of2 + j * 7 + 5, none⟩ = some (.bool y.fo) ∧ W.cell? ⟨bB, of2 + j * 7 + 6, none⟩ = some (.int .i64 y.wd)) ∧ Below W3.heap.size W3 W) W) := fun W hW => by
              have r1 := RawAt.below R3.out hW (RawAt.lt R3.out)
              have r2 : ∀ f, f < 7 → W.cell? ⟨bB, of2 + j * 7 + f, none⟩ = (encR y)[f]? := fun f h => (hW.cell (p := ⟨bB, of2 + j * 7 + f, none⟩) HBB.out).trans (HcB.out f h)
              exact ⟨⟨RawAt.cell r1 0, RawAt.cell r1 1, RawAt.cell r1 2, RawAt.cell r1 3, RawAt.cell r1 4, RawAt.cell r1 5, RawAt.cell r1 6⟩, ⟨r2 0 (by omega), r2 1 (by omega), r2 2 (by omega), r2 3 (by omega), r2 4 (by omega), r2 5 (by omega), r2 6 (by omega)⟩, hW⟩
            have hW2 : Below W3.heap.size W3 W3.drew := (Below.refl _ _).drew
            refine wp_region_noPanic ?_
            refine wp_region_held_drew (S := (fun W => (W.cell? ⟨nw, 0, none⟩ = some (.slice x.A x.n x.c) ∧ W.cell? ⟨nw, 1, none⟩ = some (.int .i64 x.st) ∧ W.cell? ⟨nw, 2, none⟩ = some (.int .i64 x.en) ∧ W.cell? ⟨nw, 3, none⟩ = some (.int .i64 x.bu) ∧ W.cell? ⟨nw, 4, none⟩ = some (.bool x.wr) ∧ W.cell? ⟨nw, 5, none⟩ = some (.bool x.fo) ∧ W.cell? ⟨nw, 6, none⟩ = some (.int .i64 x.wd)) ∧ (W.cell? ⟨bB, of2 + j * 7, none⟩ = some (.slice y.A y.n y.c) ∧ W.cell? ⟨bB, of2 + j * 7 + 1, none⟩ = some (.int .i64 y.st) ∧ W.cell? ⟨bB, of2 + j * 7 + 2, none⟩ = some (.int .i64 y.en) ∧ W.cell? ⟨bB, of2 + j * 7 + 3, none⟩ = some (.int .i64 y.bu) ∧ W.cell? ⟨bB, of2 + j * 7 + 4, none⟩ = some (.bool y.wr) ∧ W.cell? ⟨bB, of2 + j * 7 + 5, none⟩ = some (.bool y.fo) ∧ W.cell? ⟨bB, of2 + j * 7 + 6, none⟩ = some (.int .i64 y.wd)) ∧ Below W3.heap.size W3 W)) (by kernel_rfl) (MK.out _ hW2) (fun hHeld => ?_)
            refine wpAnyH_take (i := 0) (v := ?_) rfl (by kernel_rfl) (by kernel_rfl) (by kernel_rfl) (fun _ _ _ h => h) (Or.inl ⟨by rfl, ?_⟩) hHeld ?_
            rotate_left
            · intro w hSw
              (try dsimp only at hSw)
              go_simp
              try with_reducible rfl
            go_simp
            refine wpAnyH_take (i := 1) (v := ?_) rfl (by kernel_rfl) (by kernel_rfl) (by kernel_rfl) (fun _ _ _ h => h) (Or.inl ⟨by rfl, ?_⟩) hHeld ?_
            rotate_left
            · intro w hSw
              (try dsimp only at hSw)
              go_simp
              try with_reducible rfl
            go_simp
            refine wpAnyH_take (i := 2) (v := ?_) rfl (by kernel_rfl) (by kernel_rfl) (by kernel_rfl) (fun _ _ _ h => h) (Or.inl ⟨by rfl, ?_⟩) hHeld ?_
            rotate_left
            · intro w hSw
              (try dsimp only at hSw)
              go_simp
              try with_reducible rfl
            go_simp
            refine wpAnyH_take (i := 3) (v := ?_) rfl (by kernel_rfl) (by kernel_rfl) (by kernel_rfl) (fun _ _ _ h => h) (Or.inl ⟨by rfl, ?_⟩) hHeld ?_
            rotate_left
            · intro w hSw
              (try dsimp only at hSw)
              go_simp
              try with_reducible rfl
            go_simp
            refine wpAnyH_take (i := 4) (v := ?_) rfl (by kernel_rfl) (by kernel_rfl) (by kernel_rfl) (fun _ _ _ h => h) (Or.inl ⟨by rfl, ?_⟩) hHeld ?_
            rotate_left
            · intro w hSw
              (try dsimp only at hSw)
              go_simp
              try with_reducible rfl
            go_simp
            refine wpAnyH_ready (rs := [5]) (by kernel_rfl) (by simp) ?_
            refine AllReadyH.cons rfl (fun K hK => ?_) ?_
            rotate_left
            · exact AllReadyH.nil
            go_simp
            go_wp2_with (first | (go_at_call 11; ((with_reducible refine (CS.out _ (HV3.out.trans (hW2.mono HV3.out.size)) (HB3.out.trans (hW2.mono HB3.out.size))).mono ?_); rintro e w6 ⟨rfl, hb6⟩); have hW2 := hW2.trans (hb6.mono hW2.size)))
            refine hK.out _ _ (MK.out _ hW2) (fun hHeld => ?_)
            clear hK K
            go_simp
            refine wpAnyH_take (i := 6) (v := ?_) rfl (by kernel_rfl) (by kernel_rfl) (by kernel_rfl) (fun _ _ _ h => h) (Or.inl ⟨by rfl, ?_⟩) hHeld ?_
            rotate_left
            · intro w hSw
              (try dsimp only at hSw)
              go_simp
              try with_reducible rfl
            go_simp
            refine wpAnyH_done (by kernel_rfl) ?_ _
            refine NoPanic.normal ?_
            have HB4 := Lib.hid (HV3.out.trans (hW2.mono HV3.out.size))
            go_wp2
            go_roundg (gk - 1)
            case measure => omega
            case rel => exact ⟨j + 1, by go_num, by omega, by omega, HB4⟩
          · obtain rfl : j = m := by omega
            go_wp2_with fail
            with_reducible refine (dMid_any _).mono ?_
            rintro e w9 ⟨rfl, hb9⟩
            have HB9 := Lib.hid (HBW.out.trans (hb9.mono HBW.out.size))
            go_wp2
            go_ret
            exact ⟨rfl, HB9.out⟩
    · go_wp2_with fail
      with_reducible refine (dMid_any _).mono ?_
      rintro e w9 ⟨rfl, hb9⟩
      have HB9 := Lib.hid (HB2.out.trans (hb9.mono HB2.out.size))
      go_wp2
      go_ret
      exact ⟨rfl, HB9.out⟩
  · go_wp2_with fail
    with_reducible refine (dMid_any _).mono ?_
    rintro e w9 ⟨rfl, hb9⟩
    have HB9 := Lib.hid (HB1.out.trans (hb9.mono HB1.out.size))
    go_wp2
    go_ret
    exact ⟨rfl, HB9.out⟩
end Go.Proofs.Ytebjkgeldjgnfaa
