/- Weaves: the contract of Update, where it is so. -/
import Derived.Test.YtbeclkhahdcmbaaGreatWvE
import Derived.Test.YtbeclkhahdcmbaaGreatWvL
import Derived.Test.YtbeclkhahdcmbaaGreatTreeR
namespace Go.Proofs.YtbeclkhahdcmbaaGreat
open Go.RowKit
set_option linter.unusedVariables false
set_option maxHeartbeats 2000000 in
theorem wvSpans_any (a b n : Int) (w : World) (r : Bool) (hr : r = true ↔ 0 ≤ a ∧ a ≤ b ∧ b ≤ n) : Calls Tryz.prog 35 #[.agg #[.int .i64 a, .int .i64 b], .int .i64 n] w fun e w' => e = .returned (.bool r) ∧ Below w.heap.size w w' := by
  have HF := Lib.hid hr; clear hr
  have hT : (0 ≤ a ∧ a ≤ b ∧ b ≤ n) → r = true := fun h => HF.out.2 h
  have hN : ¬ (0 ≤ a ∧ a ≤ b ∧ b ≤ n) → r = false := fun h => by cases r; rfl; exact absurd (HF.out.1 rfl) h
  clear HF
  by_cases g1 : 0 ≤ a
  · have k1 : decide (0 ≤ a) = true := decide_eq_true g1
    by_cases g2 : a ≤ b
    · have k2 : decide (a ≤ b) = true := decide_eq_true g2
      by_cases g3 : b ≤ n
      · have k3 : decide (b ≤ n) = true := decide_eq_true g3
        obtain rfl := hT ⟨g1, g2, g3⟩
        clear hT hN
        go_enter Tryz.func35, Tryz.ntmps35
        go_wp2
        go_ret
        exact ⟨by simp, (Below.refl _ _).alloc (Nat.le_refl _) _⟩
      · have k3 : decide (b ≤ n) = false := decide_eq_false g3
        obtain rfl := hN (fun h => g3 h.2.2)
        clear hT hN
        go_enter Tryz.func35, Tryz.ntmps35
        go_wp2
        go_ret
        exact ⟨by simp, (Below.refl _ _).alloc (Nat.le_refl _) _⟩
    · have k2 : decide (a ≤ b) = false := decide_eq_false g2
      obtain rfl := hN (fun h => g2 h.2.1)
      clear hT hN
      go_enter Tryz.func35, Tryz.ntmps35
      go_wp2
      go_ret
      exact ⟨by simp, (Below.refl _ _).alloc (Nat.le_refl _) _⟩
  · have k1 : decide (0 ≤ a) = false := decide_eq_false g1
    obtain rfl := hN (fun h => g1 h.1)
    clear hT hN
    go_enter Tryz.func35, Tryz.ntmps35
    go_wp2
    go_ret
    exact ⟨by simp, (Below.refl _ _).alloc (Nat.le_refl _) _⟩
set_option maxHeartbeats 32000000 in
set_option maxRecDepth 100000 in
theorem wvUpd_yes {p ps : Option Addr} {l : List I7} {h : Nat} {w : World} (ht : WvAt w p l h) (f t t' nn : Int) (B : List In)
    (hLen : ∀ W, Below w.heap.size w W → Calls Tryz.prog 29 #[.pointer ps] W fun e w' => e = .returned (.int .i64 nn) ∧ Below W.heap.size W w')
    (hIn : ∀ W, Below w.heap.size w W → Calls Tryz.prog 39 #[.pointer ps, .int .i64 f, .int .i64 t'] W fun e w' => ∃ v, e = .returned v ∧ w'.ownsRow W.heap.size 48 5 v B.length (kfl encI B) ∧ Below W.heap.size W w')
    (h0 : 0 ≤ f) (hft : f ≤ t) (htn : t ≤ wdsum 0 l) (hft' : f ≤ t') (htn' : t' ≤ nn) (hdn : wdsum 0 l - t = nn - t') (hnn : nn ≤ 1099511627776) (hn40 : wdsum 0 l ≤ 1099511627776)
    (hBl : B.length ≤ 1000) (hB : ∀ a ∈ B, (-4398046511104 ≤ a.pl ∧ a.pl ≤ 4398046511104) ∧ a.tx.size ≤ 100000000) (hlB : l.length + (2 * B.length + 1) ≤ 30000)
    (hk : wfnd 0 l f 0 ≤ min (wfnd 0 l t 1 + 1) l.length)
    (hP : Okl (wvP (wdsum 0 (l.take (wfnd 0 l f 0))) B (t' + (wdsum 0 (l.take (wfnd 0 l t 1)) + (ith l (wfnd 0 l t 1)).d0 - t))))
    (hx : -4398046511104 ≤ wdsum 0 (l.take (wfnd 0 l f 0)) ∧ wdsum 0 (l.take (wfnd 0 l f 0)) ≤ 4398046511104)
    (hy : 0 ≤ wdsum 0 (l.take (wfnd 0 l t 1)) + (ith l (wfnd 0 l t 1)).d0 - t ∧ wdsum 0 (l.take (wfnd 0 l t 1)) + (ith l (wfnd 0 l t 1)).d0 - t ≤ 1099511627776) :
    Calls Tryz.prog 11 #[.pointer p, .agg #[.int .i64 f, .int .i64 t], .agg #[.int .i64 f, .int .i64 t'], .pointer ps] w fun e w' => ∃ a h', e = .returned (.tuple #[.pointer (some a), .int .i64 0]) ∧ WvAt w' (some a) (l.take (wfnd 0 l f 0) ++ wvP (wdsum 0 (l.take (wfnd 0 l f 0))) B (t' + (wdsum 0 (l.take (wfnd 0 l t 1)) + (ith l (wfnd 0 l t 1)).d0 - t)) ++ l.drop (min (wfnd 0 l t 1 + 1) l.length)) h' ∧ Below w.heap.size w w' := by
  obtain ⟨q, hq, hkp⟩ := wvkept ht
  obtain ⟨hol, hll⟩ := hq.okl
  have CZ := Lib.hid fun (W : World) (hW : Below w.heap.size w W) => wvSizes (ht.below hW)
  have CK := Lib.hid hkp
  have CSP := Lib.hid fun (b n : Int) (h : f ≤ b ∧ b ≤ n) (W : World) => wvSpans_any f b n W true ⟨fun _ => ⟨h0, h.1, h.2⟩, fun _ => rfl⟩
  have CLN := Lib.hid hLen
  have CIN := Lib.hid hIn
  have CF1 := Lib.hid fun (W : World) (hW : Below w.heap.size w W) => (tfind_any q l h ((0 : Nat) : Int) f 0 W (hq.below hW) ((wv_ask hol (by omega) f 0).2 ⟨⟨h0, by omega⟩, .inl rfl⟩)).mono fun e w' ⟨k, z, hf, _, _, he, hb⟩ => (by
    obtain rfl := hf.unique (wfnd_is hol (show 0 < 2 by omega) f 0)
    exact ⟨⟨z, he⟩, hb⟩ : (∃ z : Int, e = Ending.returned (.tuple #[.agg (vcs (wfnd 0 l f 0) (sall (l.take (wfnd 0 l f 0))) z), .int .i64 0])) ∧ Below W.heap.size W w')
  have CF2 := Lib.hid fun (W : World) (hW : Below w.heap.size w W) => (tfind_any q l h ((0 : Nat) : Int) t 1 W (hq.below hW) ((wv_ask hol (by omega) t 1).2 ⟨⟨by omega, by omega⟩, .inr rfl⟩)).mono fun e w' ⟨k, z, hf, _, _, he, hb⟩ => (by
    obtain rfl := hf.unique (wfnd_is hol (show 0 < 2 by omega) t 1)
    exact ⟨⟨z, he⟩, hb⟩ : (∃ z : Int, e = Ending.returned (.tuple #[.agg (vcs (wfnd 0 l t 1) (sall (l.take (wfnd 0 l t 1))) z), .int .i64 0])) ∧ Below W.heap.size W w')
  have CAT := Lib.hid fun (k : Nat) (W : World) (hW : Below w.heap.size w W) => wat_any q l h k W (hq.below hW)
  have CSM := Lib.hid fun (W : World) (hW : Below w.heap.size w W) => tsum_n q l h W (hq.below hW)
  obtain ⟨T1, TT1, _, _, _, _⟩ := wtake_sums hol hll (wfnd 0 l f 0)
  obtain ⟨T2, TT2, u1, u2, _, _⟩ := wtake_sums hol hll (wfnd 0 l t 1)
  have CPI := Lib.hid fun (A : Option Addr) (c : Nat) (W : World) (hA : RowsAt encI 5 W A B) => wvPieces_any A B.length c B (wdsum 0 (l.take (wfnd 0 l f 0))) (t' + (wdsum 0 (l.take (wfnd 0 l t 1)) + (ith l (wfnd 0 l t 1)).d0 - t)) W hA rfl (by omega) hx (by omega) hB
  have CRP := Lib.hid fun (A : Option Addr) (c : Nat) (W : World) (hW : Below w.heap.size w W) (hA : ItsAt W A (wvP (wdsum 0 (l.take (wfnd 0 l f 0))) B (t' + (wdsum 0 (l.take (wfnd 0 l t 1)) + (ith l (wfnd 0 l t 1)).d0 - t)))) (hc : Caps A (wvP (wdsum 0 (l.take (wfnd 0 l f 0))) B (t' + (wdsum 0 (l.take (wfnd 0 l t 1)) + (ith l (wfnd 0 l t 1)).d0 - t))).length c) => trepl_any q l (wvP (wdsum 0 (l.take (wfnd 0 l f 0))) B (t' + (wdsum 0 (l.take (wfnd 0 l t 1)) + (ith l (wfnd 0 l t 1)).d0 - t))) h (wfnd 0 l f 0) (min (wfnd 0 l t 1 + 1) l.length) A _ c W (hq.below hW) hk (Nat.min_le_right _ _) hA rfl hc (by have := wvP_len (wdsum 0 (l.take (wfnd 0 l f 0))) B (t' + (wdsum 0 (l.take (wfnd 0 l t 1)) + (ith l (wfnd 0 l t 1)).d0 - t)); omega) hP
  have hkl1 : wfnd 0 l f 0 ≤ 30000 := Nat.le_trans (wfnd_le 0 l f 0) hll
  have hkl2 : wfnd 0 l t 1 ≤ 30000 := Nat.le_trans (wfnd_le 0 l t 1) hll
  clear hkp hq ht hLen hIn hB hP hol
  rw [← T1] at CPI CRP hx
  rw [← T2] at CPI CRP hy u1 u2
  rw [← T1, ← T2]
  clear T1 T2 TT1 TT2
  generalize wfnd 0 l f 0 = k1 at *
  generalize wfnd 0 l t 1 = k2 at *
  generalize sall (l.take k1) = s1 at *
  generalize sall (l.take k2) = s2 at *
  have CA2 := Lib.hid (CAT.out k2)
  clear CAT
  generalize ith l k2 = own at *
  obtain ⟨tg, id, o0, o1, o2, omx, otx⟩ := own
  simp only at CPI CRP hy ⊢
  unfold ics at CA2
  unfold vcs at CF1 CF2
  obtain ⟨Y, hY⟩ : ∃ Y, Y = min (k2 + 1) l.length := ⟨_, rfl⟩
  have hmin : min ((k2 : Int) + 1) (l.length : Int) = (Y : Int) := by rw [hY]; omega
  rw [← hY] at CRP ⊢
  have HLL := Lib.hid hY
  clear hY
  generalize wdsum 0 l = n at *
  generalize wdsum 1 l = n1 at *
  obtain ⟨W1, hW1⟩ : ∃ W1, W1 = (w.alloc (.cells #[.int .i64 f, .int .i64 t] 38)).alloc (.cells #[.int .i64 f, .int .i64 t'] 38) := ⟨_, rfl⟩
  have x1 : Below w.heap.size w W1 := by rw [hW1]; exact ((Below.refl _ _).alloc (Nat.le_refl _) _).alloc (by simp) _
  obtain ⟨r5, r6, _, _⟩ := new2 w 38 38 #[.int .i64 f, .int .i64 t] #[.int .i64 f, .int .i64 t']
  rw [← hW1] at r5 r6
  have HW1 := Lib.hid hW1
  have X1 := Lib.hid x1
  have HR5 := Lib.hid r5
  have HR6 := Lib.hid r6
  clear hW1 x1 r5 r6
  go_enter Tryz.func11, Tryz.ntmps11
  go_wp2_with fail
  rw [← HW1.out]
  with_reducible refine (CZ.out _ X1.out).mono ?_
  rintro e w2 ⟨rfl, b2⟩
  have HB2 := Lib.hid (X1.out.trans (b2.mono X1.out.size))
  have Ro := RawAt.below HR5.out b2 HR5.out.lt
  have Rn := RawAt.below HR6.out b2 HR6.out.lt
  clear b2 HR5 HR6 X1 HW1 CZ
  go_upto_region 2 with fail
  have hW2 : Below w2.heap.size w2 w2.drew := (Below.refl _ _).drew
  have MK : Hid (∀ V : World, Below w2.heap.size w2 V → (fun V => V.cell? ⟨w.heap.size, 0, none⟩ = some (.int .i64 f) ∧ V.cell? ⟨w.heap.size, 1, none⟩ = some (.int .i64 t) ∧ V.cell? ⟨w.heap.size + 1, 0, none⟩ = some (.int .i64 f) ∧ V.cell? ⟨w.heap.size + 1, 1, none⟩ = some (.int .i64 t')) V) := Lib.hid fun V hV => by
    have a1 := RawAt.below Ro hV Ro.lt
    have a2 := RawAt.below Rn hV Rn.lt
    exact ⟨RawAt.cell a1 0, RawAt.cell a1 1, RawAt.cell a2 0, RawAt.cell a2 1⟩
  have CSo := Lib.hid (CSP.out t n ⟨hft, htn⟩)
  have CSn := Lib.hid (CSP.out t' nn ⟨hft', htn'⟩)
  have wn1 : IntKind.i64.wrap (n - t) = n - t := IntWalk.i64_in _ (by omega)
  have wn2 : IntKind.i64.wrap (nn - t') = n - t := by rw [← hdn]; exact wn1
  clear CSP
  go_cut [56] from 22 (fun s56 wx => s56 = .bool false ∧ Hid (RawAt 38 wx w.heap.size #[.int .i64 f, .int .i64 t]) ∧ Hid (RawAt 38 wx (w.heap.size + 1) #[.int .i64 f, .int .i64 t']) ∧ Hid (Below w.heap.size w wx))
  case first =>
    refine wp_region_noPanic ?_
    refine wp_region_held_drew (S := (fun V => V.cell? ⟨w.heap.size, 0, none⟩ = some (.int .i64 f) ∧ V.cell? ⟨w.heap.size, 1, none⟩ = some (.int .i64 t) ∧ V.cell? ⟨w.heap.size + 1, 0, none⟩ = some (.int .i64 f) ∧ V.cell? ⟨w.heap.size + 1, 1, none⟩ = some (.int .i64 t'))) (by kernel_rfl) (MK.out _ hW2) (fun hHeld => ?_)
    refine wpAnyH_take (i := 0) (v := ?_) rfl (by kernel_rfl) (by kernel_rfl) (by kernel_rfl) (fun _ _ _ h => h) (Or.inl ⟨by rfl, ?_⟩) hHeld ?_
    rotate_left
    · intro w hSw
      (try dsimp only at hSw)
      go_simp
      try with_reducible rfl
    go_simp
    refine wpAnyH_take (i := 1) (v := ?_) rfl (by kernel_rfl) (by kernel_rfl) (by kernel_rfl) (fun _ _ _ h => h) (Or.inl ⟨by rfl, ?_⟩) hHeld ?_
    rotate_left
    · intro w hSw
      (try dsimp only at hSw)
      go_simp
      try with_reducible rfl
    go_simp
    refine wpAnyH_ready (rs := [2]) (by kernel_rfl) (by simp) ?_
    refine AllReadyH.cons rfl (fun K hK => ?_) ?_
    rotate_left
    · exact AllReadyH.nil
    go_simp
    go_wp2_with (first | (go_at_call 35; first | ((with_reducible refine (CSo.out _).mono ?_); rintro e wa ⟨rfl, ba⟩; have hW2 := hW2.trans (ba.mono hW2.size)) | ((with_reducible refine (CSn.out _).mono ?_); rintro e wa ⟨rfl, ba⟩; have hW2 := hW2.trans (ba.mono hW2.size))) | (go_at_call 29; (with_reducible refine (CLN.out _ (HB2.out.trans (hW2.mono HB2.out.size))).mono ?_); rintro e wa ⟨rfl, ba⟩; have hW2 := hW2.trans (ba.mono hW2.size)))
    refine hK.out _ _ (by with_reducible exact MK.out _ hW2) (fun hHeld => ?_)
    clear hK K
    go_simp
    refine wpAnyH_take (i := 3) (v := ?_) rfl (by kernel_rfl) (by kernel_rfl) (by kernel_rfl) (fun _ _ _ h => h) (Or.inl ⟨by rfl, ?_⟩) hHeld ?_
    rotate_left
    · intro w hSw
      (try dsimp only at hSw)
      go_simp
      try with_reducible rfl
    go_simp
    refine wpAnyH_take (i := 4) (v := ?_) rfl (by kernel_rfl) (by kernel_rfl) (by kernel_rfl) (fun _ _ _ h => h) (Or.inl ⟨by rfl, ?_⟩) hHeld ?_
    rotate_left
    · intro w hSw
      (try dsimp only at hSw)
      go_simp
      try with_reducible rfl
    go_simp
    refine wpAnyH_take (i := 5) (v := ?_) rfl (by kernel_rfl) (by kernel_rfl) (by kernel_rfl) (fun _ _ _ h => h) (Or.inl ⟨by rfl, ?_⟩) hHeld ?_
    rotate_left
    · intro w hSw
      (try dsimp only at hSw)
      go_simp
      try with_reducible rfl
    go_simp
    refine wpAnyH_take (i := 6) (v := ?_) rfl (by kernel_rfl) (by kernel_rfl) (by kernel_rfl) (fun _ _ _ h => h) (Or.inl ⟨by rfl, ?_⟩) hHeld ?_
    rotate_left
    · intro w hSw
      (try dsimp only at hSw)
      go_simp
      try with_reducible rfl
    go_simp
    refine wpAnyH_ready (rs := [7]) (by kernel_rfl) (by simp) ?_
    refine AllReadyH.cons rfl (fun K hK => ?_) ?_
    rotate_left
    · exact AllReadyH.nil
    go_simp
    go_wp2_with (first | (go_at_call 35; first | ((with_reducible refine (CSo.out _).mono ?_); rintro e wa ⟨rfl, ba⟩; have hW2 := hW2.trans (ba.mono hW2.size)) | ((with_reducible refine (CSn.out _).mono ?_); rintro e wa ⟨rfl, ba⟩; have hW2 := hW2.trans (ba.mono hW2.size))) | (go_at_call 29; (with_reducible refine (CLN.out _ (HB2.out.trans (hW2.mono HB2.out.size))).mono ?_); rintro e wa ⟨rfl, ba⟩; have hW2 := hW2.trans (ba.mono hW2.size)))
    refine hK.out _ _ (by with_reducible exact MK.out _ hW2) (fun hHeld => ?_)
    clear hK K
    go_simp
    refine wpAnyH_ready (rs := [8]) (by kernel_rfl) (by simp) ?_
    refine AllReadyH.cons rfl (fun K hK => ?_) ?_
    rotate_left
    · exact AllReadyH.nil
    go_simp
    go_wp2_with (first | (go_at_call 35; first | ((with_reducible refine (CSo.out _).mono ?_); rintro e wa ⟨rfl, ba⟩; have hW2 := hW2.trans (ba.mono hW2.size)) | ((with_reducible refine (CSn.out _).mono ?_); rintro e wa ⟨rfl, ba⟩; have hW2 := hW2.trans (ba.mono hW2.size))) | (go_at_call 29; (with_reducible refine (CLN.out _ (HB2.out.trans (hW2.mono HB2.out.size))).mono ?_); rintro e wa ⟨rfl, ba⟩; have hW2 := hW2.trans (ba.mono hW2.size)))
    refine hK.out _ _ (by with_reducible exact MK.out _ hW2) (fun hHeld => ?_)
    clear hK K
    go_simp
    refine wpAnyH_take (i := 9) (v := ?_) rfl (by kernel_rfl) (by kernel_rfl) (by kernel_rfl) (fun _ _ _ h => h) (Or.inl ⟨by rfl, ?_⟩) hHeld ?_
    rotate_left
    · intro w hSw
      (try dsimp only at hSw)
      go_simp
      try with_reducible rfl
    go_simp
    refine wpAnyH_take (i := 10) (v := ?_) rfl (by kernel_rfl) (by kernel_rfl) (by kernel_rfl) (fun _ _ _ h => h) (Or.inl ⟨by rfl, ?_⟩) hHeld ?_
    rotate_left
    · intro w hSw
      (try dsimp only at hSw)
      go_simp
      try with_reducible rfl
    go_simp
    refine wpAnyH_take (i := 11) (v := ?_) rfl (by kernel_rfl) (by kernel_rfl) (by kernel_rfl) (fun _ _ _ h => h) (Or.inl ⟨by rfl, ?_⟩) hHeld ?_
    rotate_left
    · intro w hSw
      (try dsimp only at hSw)
      go_simp
      try with_reducible rfl
    go_simp
    refine wpAnyH_take (i := 12) (v := ?_) rfl (by kernel_rfl) (by kernel_rfl) (by kernel_rfl) (fun _ _ _ h => h) (Or.inl ⟨by rfl, ?_⟩) hHeld ?_
    rotate_left
    · intro w hSw
      (try dsimp only at hSw)
      go_simp
      try with_reducible rfl
    go_simp
    refine wpAnyH_take (i := 13) (v := ?_) rfl (by kernel_rfl) (by kernel_rfl) (by kernel_rfl) (fun _ _ _ h => h) (Or.inl ⟨by rfl, ?_⟩) hHeld ?_
    rotate_left
    · intro w hSw
      (try dsimp only at hSw)
      go_simp
      try with_reducible rfl
    go_simp
    refine wpAnyH_take (i := 14) (v := ?_) rfl (by kernel_rfl) (by kernel_rfl) (by kernel_rfl) (fun _ _ _ h => h) (Or.inl ⟨by rfl, ?_⟩) hHeld ?_
    rotate_left
    · intro w hSw
      (try dsimp only at hSw)
      go_simp
      try with_reducible rfl
    go_simp
    refine wpAnyH_take (i := 15) (v := ?_) rfl (by kernel_rfl) (by kernel_rfl) (by kernel_rfl) (fun _ _ _ h => h) (Or.inl ⟨by rfl, ?_⟩) hHeld ?_
    rotate_left
    · intro w hSw
      (try dsimp only at hSw)
      go_simp
      try with_reducible rfl
    go_simp
    refine wpAnyH_take (i := 16) (v := ?_) rfl (by kernel_rfl) (by kernel_rfl) (by kernel_rfl) (fun _ _ _ h => h) (Or.inl ⟨by rfl, ?_⟩) hHeld ?_
    rotate_left
    · intro w hSw
      (try dsimp only at hSw)
      go_simp
      try with_reducible rfl
    go_simp
    refine wpAnyH_take (i := 17) (v := ?_) rfl (by kernel_rfl) (by kernel_rfl) (by kernel_rfl) (fun _ _ _ h => h) (Or.inl ⟨by rfl, ?_⟩) hHeld ?_
    rotate_left
    · intro w hSw
      (try dsimp only at hSw)
      go_simp
      try with_reducible rfl
    go_simp
    refine wpAnyH_take (i := 18) (v := ?_) rfl (by kernel_rfl) (by kernel_rfl) (by kernel_rfl) (fun _ _ _ h => h) (Or.inl ⟨by rfl, ?_⟩) hHeld ?_
    rotate_left
    · intro w hSw
      (try dsimp only at hSw)
      go_simp
      try with_reducible rfl
    go_simp
    refine wpAnyH_take (i := 19) (v := ?_) rfl (by kernel_rfl) (by kernel_rfl) (by kernel_rfl) (fun _ _ _ h => h) (Or.inl ⟨by rfl, ?_⟩) hHeld ?_
    rotate_left
    · intro w hSw
      (try dsimp only at hSw)
      go_simp
      try with_reducible rfl
    go_simp
    refine wpAnyH_take (i := 20) (v := ?_) rfl (by kernel_rfl) (by kernel_rfl) (by kernel_rfl) (fun _ _ _ h => h) (Or.inl ⟨by rfl, ?_⟩) hHeld ?_
    rotate_left
    · intro w hSw
      (try dsimp only at hSw)
      go_simp
      try with_reducible rfl
    go_simp
    refine wpAnyH_take (i := 21) (v := ?_) rfl (by kernel_rfl) (by kernel_rfl) (by kernel_rfl) (fun _ _ _ h => h) (Or.inl ⟨by rfl, ?_⟩) hHeld ?_
    rotate_left
    · intro w hSw
      (try dsimp only at hSw)
      go_simp
      try with_reducible rfl
    go_simp
    refine wpAnyH_take (i := 22) (v := ?_) rfl (by kernel_rfl) (by kernel_rfl) (by kernel_rfl) (fun _ _ _ h => h) (Or.inl ⟨by rfl, ?_⟩) hHeld ?_
    rotate_left
    · intro w hSw
      (try dsimp only at hSw)
      go_simp
      try with_reducible rfl
    go_simp
    refine wpAnyH_take (i := 23) (v := ?_) rfl (by kernel_rfl) (by kernel_rfl) (by kernel_rfl) (fun _ _ _ h => h) (Or.inl ⟨by rfl, ?_⟩) hHeld ?_
    rotate_left
    · intro w hSw
      (try dsimp only at hSw)
      go_simp
      try with_reducible rfl
    go_simp
    refine wpAnyH_take (i := 25) (v := ?_) rfl (by kernel_rfl) (by kernel_rfl) (by kernel_rfl) (fun _ _ _ h => h) (Or.inl ⟨by rfl, ?_⟩) hHeld ?_
    rotate_left
    · intro w hSw
      (try dsimp only at hSw)
      go_simp
      try with_reducible rfl
    go_simp
    refine wpAnyH_take (i := 26) (v := ?_) rfl (by kernel_rfl) (by kernel_rfl) (by kernel_rfl) (fun _ _ _ h => h) (Or.inl ⟨by rfl, ?_⟩) hHeld ?_
    rotate_left
    · intro w hSw
      (try dsimp only at hSw)
      go_simp
      try with_reducible rfl
    go_simp
    refine wpAnyH_ready (rs := [24]) (by kernel_rfl) (by simp) ?_
    refine AllReadyH.cons rfl (fun K hK => ?_) ?_
    rotate_left
    · exact AllReadyH.nil
    go_simp
    go_wp2_with (first | (go_at_call 35; first | ((with_reducible refine (CSo.out _).mono ?_); rintro e wa ⟨rfl, ba⟩; have hW2 := hW2.trans (ba.mono hW2.size)) | ((with_reducible refine (CSn.out _).mono ?_); rintro e wa ⟨rfl, ba⟩; have hW2 := hW2.trans (ba.mono hW2.size))) | (go_at_call 29; (with_reducible refine (CLN.out _ (HB2.out.trans (hW2.mono HB2.out.size))).mono ?_); rintro e wa ⟨rfl, ba⟩; have hW2 := hW2.trans (ba.mono hW2.size)))
    refine hK.out _ _ (by with_reducible exact MK.out _ hW2) (fun hHeld => ?_)
    clear hK K
    go_simp
    refine wpAnyH_take (i := 27) (v := ?_) rfl (by kernel_rfl) (by kernel_rfl) (by kernel_rfl) (fun _ _ _ h => h) (Or.inl ⟨by rfl, ?_⟩) hHeld ?_
    rotate_left
    · intro w hSw
      (try dsimp only at hSw)
      go_simp
      try with_reducible rfl
    go_simp
    refine wpAnyH_take (i := 28) (v := ?_) rfl (by kernel_rfl) (by kernel_rfl) (by kernel_rfl) (fun _ _ _ h => h) (Or.inl ⟨by rfl, ?_⟩) hHeld ?_
    rotate_left
    · intro w hSw
      (try dsimp only at hSw)
      go_simp
      try with_reducible rfl
    go_simp
    refine wpAnyH_take (i := 29) (v := ?_) rfl (by kernel_rfl) (by kernel_rfl) (by kernel_rfl) (fun _ _ _ h => h) (Or.inl ⟨by rfl, ?_⟩) hHeld ?_
    rotate_left
    · intro w hSw
      (try dsimp only at hSw)
      go_simp
      try with_reducible rfl
    go_simp
    refine wpAnyH_done (by kernel_rfl) ?_ _
    refine NoPanic.normal ?_
    go_wp2_with fail
    go_meet
    exact ⟨rfl, Lib.hid (RawAt.below Ro hW2 Ro.lt), Lib.hid (RawAt.below Rn hW2 Rn.lt), Lib.hid (HB2.out.trans (hW2.mono HB2.out.size))⟩
  case rest =>
    obtain ⟨rfl, HRo, HRn, HB3⟩ := hcut
    clear hW2 MK CSo CSn Ro Rn HB2
    go_upto_region 4 with fail
    go_cut [12, 13] from 22 (fun s12 s13 wx => ∃ (b1 : Nat) (z1 : Int), s12 = .pointer (some ⟨b1, 0, none⟩) ∧ Hid (RawAt 86 wx b1 #[.int .i64 k1, .int .i64 s1.n, .int .i64 s1.d0, .int .i64 s1.d1, .int .i64 s1.d2, .int .i64 s1.mx, .int .i64 s1.pl, .int .i64 z1]) ∧ Hid (RawAt 38 wx w.heap.size #[.int .i64 f, .int .i64 t]) ∧ Hid (RawAt 38 wx (w.heap.size + 1) #[.int .i64 f, .int .i64 t']) ∧ Hid (Below w.heap.size w wx))
    case first =>
      have Ro := HRo.out
      have Rn := HRn.out
      have hW2 : Below wc.heap.size wc wc.drew := (Below.refl _ _).drew
      have Ro : RawAt 38 wc.drew w.heap.size #[.int .i64 f, .int .i64 t] := Ro
      have Rn : RawAt 38 wc.drew (w.heap.size + 1) #[.int .i64 f, .int .i64 t'] := Rn
      have ltRo := Ro.lt
      have ltRn := Rn.lt
      have MK : Hid (∀ V : World, RawAt 38 V w.heap.size #[.int .i64 f, .int .i64 t] → RawAt 38 V (w.heap.size + 1) #[.int .i64 f, .int .i64 t'] → (fun V : World => V.cell? ⟨w.heap.size, 0, none⟩ = some (.int .i64 f)) V) := Lib.hid fun V hRo hRn => RawAt.cell hRo 0
      have RZ0 : RawAt 86 (wc.alloc (.cells #[.int .i64 0, .int .i64 0, .int .i64 0, .int .i64 0, .int .i64 0, .int .i64 0, .int .i64 0, .int .i64 0] 86)).drew wc.heap.size #[.int .i64 0, .int .i64 0, .int .i64 0, .int .i64 0, .int .i64 0, .int .i64 0, .int .i64 0, .int .i64 0] := heap_alloc_new wc _
      have hWE : Below wc.heap.size wc (wc.alloc (.cells #[.int .i64 0, .int .i64 0, .int .i64 0, .int .i64 0, .int .i64 0, .int .i64 0, .int .i64 0, .int .i64 0] 86)).drew := ((Below.refl _ _).alloc (Nat.le_refl _) _).drew
      have RoE : RawAt 38 (wc.alloc (.cells #[.int .i64 0, .int .i64 0, .int .i64 0, .int .i64 0, .int .i64 0, .int .i64 0, .int .i64 0, .int .i64 0] 86)).drew w.heap.size #[.int .i64 f, .int .i64 t] := RawAt.below Ro ((Below.refl _ _).alloc (Nat.le_refl _) _) Ro.lt
      have RnE : RawAt 38 (wc.alloc (.cells #[.int .i64 0, .int .i64 0, .int .i64 0, .int .i64 0, .int .i64 0, .int .i64 0, .int .i64 0, .int .i64 0] 86)).drew (w.heap.size + 1) #[.int .i64 f, .int .i64 t'] := RawAt.below Rn ((Below.refl _ _).alloc (Nat.le_refl _) _) Rn.lt
      refine wp_region_noPanic ?_
      refine wp_region_held_drew (S := (fun V => V.cell? ⟨w.heap.size, 0, none⟩ = some (.int .i64 f))) (by kernel_rfl) (MK.out _ Ro Rn) (fun hHeld => ?_)
      refine wpAnyH_take (i := 0) (v := ?_) rfl (by kernel_rfl) (by kernel_rfl) (by kernel_rfl) (fun _ _ _ h => h) (Or.inl ⟨by rfl, ?_⟩) hHeld ?_
      rotate_left
      · intro w hSw
        (try dsimp only at hSw)
        go_simp
        try with_reducible rfl
      go_simp
      refine wpAnyH_take (i := 2) (v := ?_) rfl (by kernel_rfl) (by kernel_rfl) (by kernel_rfl) (fun _ _ _ h => h) (Or.inl ⟨by rfl, ?_⟩) hHeld ?_
      rotate_left
      · intro w hSw
        (try dsimp only at hSw)
        go_simp
        try with_reducible rfl
      go_simp
      refine wpAnyH_take (i := 3) (v := ?_) rfl (by kernel_rfl) (by kernel_rfl) (by kernel_rfl) (fun _ _ _ h => h) (Or.inl ⟨by rfl, ?_⟩) hHeld ?_
      rotate_left
      · intro w hSw
        (try dsimp only at hSw)
        go_simp
        try with_reducible rfl
      go_simp
      refine wpAnyH_ready (rs := [1, 8]) (by kernel_rfl) (by simp) ?_
      refine AllReadyH.cons rfl (fun K hK => ?_) (AllReadyH.cons rfl (fun K hK => ?_) AllReadyH.nil)
      · go_simp
        go_wp2_with (first | (go_at_call 36; ((refine (CK.out _ (HB3.out.trans (hW2.mono HB3.out.size))).mono ?_); rintro e wK ⟨rfl, hwK⟩); have hwK := hwK.symm; subst hwK) | (go_at_call 37; ((refine (CF1.out _ (HB3.out.trans (hW2.mono HB3.out.size))).mono ?_); rintro e wC ⟨⟨z1, rfl⟩, bC⟩); have Ro := RawAt.below Ro bC Ro.lt; have Rn := RawAt.below Rn bC Rn.lt; have hW2 := hW2.trans (bC.mono hW2.size); have RZ : RawAt 86 (wC.alloc (.cells #[.int .i64 0, .int .i64 0, .int .i64 0, .int .i64 0, .int .i64 0, .int .i64 0, .int .i64 0, .int .i64 0] 86)) wC.heap.size #[.int .i64 0, .int .i64 0, .int .i64 0, .int .i64 0, .int .i64 0, .int .i64 0, .int .i64 0, .int .i64 0] := heap_alloc_new wC _; have hWA := hW2.alloc hW2.size (.cells #[.int .i64 0, .int .i64 0, .int .i64 0, .int .i64 0, .int .i64 0, .int .i64 0, .int .i64 0, .int .i64 0] 86); have RoA : RawAt 38 (wC.alloc (.cells #[.int .i64 0, .int .i64 0, .int .i64 0, .int .i64 0, .int .i64 0, .int .i64 0, .int .i64 0, .int .i64 0] 86)) w.heap.size #[.int .i64 f, .int .i64 t] := RawAt.below Ro ((Below.refl _ _).alloc (Nat.le_refl _) _) Ro.lt; have RnA : RawAt 38 (wC.alloc (.cells #[.int .i64 0, .int .i64 0, .int .i64 0, .int .i64 0, .int .i64 0, .int .i64 0, .int .i64 0, .int .i64 0] 86)) (w.heap.size + 1) #[.int .i64 f, .int .i64 t'] := RawAt.below Rn ((Below.refl _ _).alloc (Nat.le_refl _) _) Rn.lt))
        refine hK.out _ _ (by first | (with_reducible exact MK.out _ Ro Rn) | (with_reducible exact MK.out _ RoE RnE) | (with_reducible exact MK.out _ RoA RnA) | (with_reducible exact MK.out _ RoS RnS)) (fun hHeld => ?_)
        clear hK K
        go_simp
        refine wpAnyH_ready (rs := [4, 8]) (by kernel_rfl) (by simp) ?_
        refine AllReadyH.cons rfl (fun K hK => ?_) (AllReadyH.cons rfl (fun K hK => ?_) AllReadyH.nil)
        · go_simp
          go_wp2_with (first | (go_at_call 36; ((refine (CK.out _ (HB3.out.trans (hW2.mono HB3.out.size))).mono ?_); rintro e wK ⟨rfl, hwK⟩); have hwK := hwK.symm; subst hwK) | (go_at_call 37; ((refine (CF1.out _ (HB3.out.trans (hW2.mono HB3.out.size))).mono ?_); rintro e wC ⟨⟨z1, rfl⟩, bC⟩); have Ro := RawAt.below Ro bC Ro.lt; have Rn := RawAt.below Rn bC Rn.lt; have hW2 := hW2.trans (bC.mono hW2.size); have RZ : RawAt 86 (wC.alloc (.cells #[.int .i64 0, .int .i64 0, .int .i64 0, .int .i64 0, .int .i64 0, .int .i64 0, .int .i64 0, .int .i64 0] 86)) wC.heap.size #[.int .i64 0, .int .i64 0, .int .i64 0, .int .i64 0, .int .i64 0, .int .i64 0, .int .i64 0, .int .i64 0] := heap_alloc_new wC _; have hWA := hW2.alloc hW2.size (.cells #[.int .i64 0, .int .i64 0, .int .i64 0, .int .i64 0, .int .i64 0, .int .i64 0, .int .i64 0, .int .i64 0] 86); have RoA : RawAt 38 (wC.alloc (.cells #[.int .i64 0, .int .i64 0, .int .i64 0, .int .i64 0, .int .i64 0, .int .i64 0, .int .i64 0, .int .i64 0] 86)) w.heap.size #[.int .i64 f, .int .i64 t] := RawAt.below Ro ((Below.refl _ _).alloc (Nat.le_refl _) _) Ro.lt; have RnA : RawAt 38 (wC.alloc (.cells #[.int .i64 0, .int .i64 0, .int .i64 0, .int .i64 0, .int .i64 0, .int .i64 0, .int .i64 0, .int .i64 0] 86)) (w.heap.size + 1) #[.int .i64 f, .int .i64 t'] := RawAt.below Rn ((Below.refl _ _).alloc (Nat.le_refl _) _) Rn.lt))
          refine hK.out _ _ (by first | (with_reducible exact MK.out _ Ro Rn) | (with_reducible exact MK.out _ RoE RnE) | (with_reducible exact MK.out _ RoA RnA) | (with_reducible exact MK.out _ RoS RnS)) (fun hHeld => ?_)
          clear hK K
          go_simp
          refine wpAnyH_take (i := 5) (v := ?_) rfl (by kernel_rfl) (by kernel_rfl) (by kernel_rfl) (fun _ _ _ h => h) (Or.inl ⟨by rfl, ?_⟩) hHeld ?_
          rotate_left
          · intro w hSw
            (try dsimp only at hSw)
            go_simp
            try with_reducible rfl
          go_simp
          refine wpAnyH_take (i := 6) (v := ?_) rfl (by kernel_rfl) (by kernel_rfl) (by kernel_rfl) (fun _ _ _ h => h) (Or.inl ⟨by rfl, ?_⟩) hHeld ?_
          rotate_left
          · intro w hSw
            (try dsimp only at hSw)
            go_simp
            try with_reducible rfl
          go_simp
          refine wpAnyH_take (i := 7) (v := ?_) rfl (by kernel_rfl) (by kernel_rfl) (by kernel_rfl) (fun _ _ _ h => h) (Or.inl ⟨by rfl, ?_⟩) hHeld ?_
          rotate_left
          · intro w hSw
            (try dsimp only at hSw)
            go_simp
            try with_reducible rfl
          go_simp
          refine wpAnyH_ready (rs := [8]) (by kernel_rfl) (by simp) ?_
          refine AllReadyH.cons rfl (fun K hK => ?_) ?_
          rotate_left
          · exact AllReadyH.nil
          go_simp
          go_wp2_with (first | (go_at_call 36; ((refine (CK.out _ (HB3.out.trans (hW2.mono HB3.out.size))).mono ?_); rintro e wK ⟨rfl, hwK⟩); have hwK := hwK.symm; subst hwK) | (go_at_call 37; ((refine (CF1.out _ (HB3.out.trans (hW2.mono HB3.out.size))).mono ?_); rintro e wC ⟨⟨z1, rfl⟩, bC⟩); have Ro := RawAt.below Ro bC Ro.lt; have Rn := RawAt.below Rn bC Rn.lt; have hW2 := hW2.trans (bC.mono hW2.size); have RZ : RawAt 86 (wC.alloc (.cells #[.int .i64 0, .int .i64 0, .int .i64 0, .int .i64 0, .int .i64 0, .int .i64 0, .int .i64 0, .int .i64 0] 86)) wC.heap.size #[.int .i64 0, .int .i64 0, .int .i64 0, .int .i64 0, .int .i64 0, .int .i64 0, .int .i64 0, .int .i64 0] := heap_alloc_new wC _; have hWA := hW2.alloc hW2.size (.cells #[.int .i64 0, .int .i64 0, .int .i64 0, .int .i64 0, .int .i64 0, .int .i64 0, .int .i64 0, .int .i64 0] 86); have RoA : RawAt 38 (wC.alloc (.cells #[.int .i64 0, .int .i64 0, .int .i64 0, .int .i64 0, .int .i64 0, .int .i64 0, .int .i64 0, .int .i64 0] 86)) w.heap.size #[.int .i64 f, .int .i64 t] := RawAt.below Ro ((Below.refl _ _).alloc (Nat.le_refl _) _) Ro.lt; have RnA : RawAt 38 (wC.alloc (.cells #[.int .i64 0, .int .i64 0, .int .i64 0, .int .i64 0, .int .i64 0, .int .i64 0, .int .i64 0, .int .i64 0] 86)) (w.heap.size + 1) #[.int .i64 f, .int .i64 t'] := RawAt.below Rn ((Below.refl _ _).alloc (Nat.le_refl _) _) Rn.lt))
          refine hK.out _ _ (by first | (with_reducible exact MK.out _ Ro Rn) | (with_reducible exact MK.out _ RoE RnE) | (with_reducible exact MK.out _ RoA RnA) | (with_reducible exact MK.out _ RoS RnS)) (fun hHeld => ?_)
          clear hK K
          go_simp
          refine wpAnyH_ready (rs := [9]) (by kernel_rfl) (by simp) ?_
          refine AllReadyH.cons rfl (fun K hK => ?_) ?_
          rotate_left
          · exact AllReadyH.nil
          have RoS := raw_row_ne RoA RZ (Nat.ne_of_lt Ro.lt) #[.int .i64 k1, .int .i64 s1.n, .int .i64 s1.d0, .int .i64 s1.d1, .int .i64 s1.d2, .int .i64 s1.mx, .int .i64 s1.pl, .int .i64 z1]
          have RnS := raw_row_ne RnA RZ (Nat.ne_of_lt Rn.lt) #[.int .i64 k1, .int .i64 s1.n, .int .i64 s1.d0, .int .i64 s1.d1, .int .i64 s1.d2, .int .i64 s1.mx, .int .i64 s1.pl, .int .i64 z1]
          refine step_store_row rfl 86 _ _ rfl wC.heap.size #[.int .i64 k1, .int .i64 s1.n, .int .i64 s1.d0, .int .i64 s1.d1, .int .i64 s1.d2, .int .i64 s1.mx, .int .i64 s1.pl, .int .i64 z1] rfl rfl RZ (by kernel_rfl) rfl (by simp [Value.oneCell']) ?_
          refine hK.out _ _ (by first | (with_reducible exact MK.out _ Ro Rn) | (with_reducible exact MK.out _ RoE RnE) | (with_reducible exact MK.out _ RoA RnA) | (with_reducible exact MK.out _ RoS RnS)) (fun hHeld => ?_)
          clear hK K
          go_simp
          refine wpAnyH_take (i := 10) (v := ?_) rfl (by kernel_rfl) (by kernel_rfl) (by kernel_rfl) (fun _ _ _ h => h) (Or.inl ⟨by rfl, ?_⟩) hHeld ?_
          rotate_left
          · intro w hSw
            (try dsimp only at hSw)
            go_simp
            try with_reducible rfl
          go_simp
          refine wpAnyH_done (by kernel_rfl) ?_ _
          refine NoPanic.normal ?_
          go_wp2_with fail
          have RN := raw_row RZ #[.int .i64 k1, .int .i64 s1.n, .int .i64 s1.d0, .int .i64 s1.d1, .int .i64 s1.d2, .int .i64 s1.mx, .int .i64 s1.pl, .int .i64 z1]
          have Ro := RoS
          have Rn := RnS
          have HN := Lib.hid (HB3.out.trans ((below_setRow (g := wC.heap.size) hWA (by first | exact Nat.le_refl _ | exact hW2.size) #[.int .i64 k1, .int .i64 s1.n, .int .i64 s1.d0, .int .i64 s1.d1, .int .i64 s1.d2, .int .i64 s1.mx, .int .i64 s1.pl, .int .i64 z1]).mono HB3.out.size))
          go_meet
          exact ⟨wC.heap.size, z1, rfl, Lib.hid RN, Lib.hid Ro, Lib.hid Rn, HN⟩
        · go_simp
          go_wp2_with (first | (go_at_call 36; ((refine (CK.out _ (HB3.out.trans (hWE.mono HB3.out.size))).mono ?_); rintro e wK ⟨rfl, hwK⟩); have hwK := hwK.symm; subst hwK) | (go_at_call 37; ((refine (CF1.out _ (HB3.out.trans (hWE.mono HB3.out.size))).mono ?_); rintro e wC ⟨⟨z1, rfl⟩, bC⟩); have Ro := RawAt.below RoE bC RoE.lt; have Rn := RawAt.below RnE bC RnE.lt; have RZ : RawAt 86 wC wc.heap.size #[.int .i64 0, .int .i64 0, .int .i64 0, .int .i64 0, .int .i64 0, .int .i64 0, .int .i64 0, .int .i64 0] := RawAt.below RZ0 bC RZ0.lt; have hW2 := hWE.trans (bC.mono hWE.size)))
          refine hK.out _ _ (by first | (with_reducible exact MK.out _ Ro Rn) | (with_reducible exact MK.out _ RoE RnE) | (with_reducible exact MK.out _ RoA RnA) | (with_reducible exact MK.out _ RoS RnS)) (fun hHeld => ?_)
          clear hK K
          go_simp
          refine wpAnyH_ready (rs := [4]) (by kernel_rfl) (by simp) ?_
          refine AllReadyH.cons rfl (fun K hK => ?_) ?_
          rotate_left
          · exact AllReadyH.nil
          go_simp
          go_wp2_with (first | (go_at_call 36; ((refine (CK.out _ (HB3.out.trans (hWE.mono HB3.out.size))).mono ?_); rintro e wK ⟨rfl, hwK⟩); have hwK := hwK.symm; subst hwK) | (go_at_call 37; ((refine (CF1.out _ (HB3.out.trans (hWE.mono HB3.out.size))).mono ?_); rintro e wC ⟨⟨z1, rfl⟩, bC⟩); have Ro := RawAt.below RoE bC RoE.lt; have Rn := RawAt.below RnE bC RnE.lt; have RZ : RawAt 86 wC wc.heap.size #[.int .i64 0, .int .i64 0, .int .i64 0, .int .i64 0, .int .i64 0, .int .i64 0, .int .i64 0, .int .i64 0] := RawAt.below RZ0 bC RZ0.lt; have hW2 := hWE.trans (bC.mono hWE.size)))
          refine hK.out _ _ (by first | (with_reducible exact MK.out _ Ro Rn) | (with_reducible exact MK.out _ RoE RnE) | (with_reducible exact MK.out _ RoA RnA) | (with_reducible exact MK.out _ RoS RnS)) (fun hHeld => ?_)
          clear hK K
          go_simp
          refine wpAnyH_take (i := 5) (v := ?_) rfl (by kernel_rfl) (by kernel_rfl) (by kernel_rfl) (fun _ _ _ h => h) (Or.inl ⟨by rfl, ?_⟩) hHeld ?_
          rotate_left
          · intro w hSw
            (try dsimp only at hSw)
            go_simp
            try with_reducible rfl
          go_simp
          refine wpAnyH_take (i := 6) (v := ?_) rfl (by kernel_rfl) (by kernel_rfl) (by kernel_rfl) (fun _ _ _ h => h) (Or.inl ⟨by rfl, ?_⟩) hHeld ?_
          rotate_left
          · intro w hSw
            (try dsimp only at hSw)
            go_simp
            try with_reducible rfl
          go_simp
          refine wpAnyH_take (i := 7) (v := ?_) rfl (by kernel_rfl) (by kernel_rfl) (by kernel_rfl) (fun _ _ _ h => h) (Or.inl ⟨by rfl, ?_⟩) hHeld ?_
          rotate_left
          · intro w hSw
            (try dsimp only at hSw)
            go_simp
            try with_reducible rfl
          go_simp
          refine wpAnyH_ready (rs := [9]) (by kernel_rfl) (by simp) ?_
          refine AllReadyH.cons rfl (fun K hK => ?_) ?_
          rotate_left
          · exact AllReadyH.nil
          have RoS := raw_row_ne Ro RZ (Nat.ne_of_lt ltRo) #[.int .i64 k1, .int .i64 s1.n, .int .i64 s1.d0, .int .i64 s1.d1, .int .i64 s1.d2, .int .i64 s1.mx, .int .i64 s1.pl, .int .i64 z1]
          have RnS := raw_row_ne Rn RZ (Nat.ne_of_lt ltRn) #[.int .i64 k1, .int .i64 s1.n, .int .i64 s1.d0, .int .i64 s1.d1, .int .i64 s1.d2, .int .i64 s1.mx, .int .i64 s1.pl, .int .i64 z1]
          refine step_store_row rfl 86 _ _ rfl wc.heap.size #[.int .i64 k1, .int .i64 s1.n, .int .i64 s1.d0, .int .i64 s1.d1, .int .i64 s1.d2, .int .i64 s1.mx, .int .i64 s1.pl, .int .i64 z1] rfl rfl RZ (by kernel_rfl) rfl (by simp [Value.oneCell']) ?_
          refine hK.out _ _ (by first | (with_reducible exact MK.out _ Ro Rn) | (with_reducible exact MK.out _ RoE RnE) | (with_reducible exact MK.out _ RoA RnA) | (with_reducible exact MK.out _ RoS RnS)) (fun hHeld => ?_)
          clear hK K
          go_simp
          refine wpAnyH_take (i := 10) (v := ?_) rfl (by kernel_rfl) (by kernel_rfl) (by kernel_rfl) (fun _ _ _ h => h) (Or.inl ⟨by rfl, ?_⟩) hHeld ?_
          rotate_left
          · intro w hSw
            (try dsimp only at hSw)
            go_simp
            try with_reducible rfl
          go_simp
          refine wpAnyH_done (by kernel_rfl) ?_ _
          refine NoPanic.normal ?_
          go_wp2_with fail
          have RN := raw_row RZ #[.int .i64 k1, .int .i64 s1.n, .int .i64 s1.d0, .int .i64 s1.d1, .int .i64 s1.d2, .int .i64 s1.mx, .int .i64 s1.pl, .int .i64 z1]
          have Ro := RoS
          have Rn := RnS
          have HN := Lib.hid (HB3.out.trans ((below_setRow (g := wc.heap.size) hW2 (by first | exact Nat.le_refl _ | exact hW2.size) #[.int .i64 k1, .int .i64 s1.n, .int .i64 s1.d0, .int .i64 s1.d1, .int .i64 s1.d2, .int .i64 s1.mx, .int .i64 s1.pl, .int .i64 z1]).mono HB3.out.size))
          go_meet
          exact ⟨wc.heap.size, z1, rfl, Lib.hid RN, Lib.hid Ro, Lib.hid Rn, HN⟩
      · go_simp
        go_wp2_with (first | (go_at_call 36; ((refine (CK.out _ (HB3.out.trans (hWE.mono HB3.out.size))).mono ?_); rintro e wK ⟨rfl, hwK⟩); have hwK := hwK.symm; subst hwK) | (go_at_call 37; ((refine (CF1.out _ (HB3.out.trans (hWE.mono HB3.out.size))).mono ?_); rintro e wC ⟨⟨z1, rfl⟩, bC⟩); have Ro := RawAt.below RoE bC RoE.lt; have Rn := RawAt.below RnE bC RnE.lt; have RZ : RawAt 86 wC wc.heap.size #[.int .i64 0, .int .i64 0, .int .i64 0, .int .i64 0, .int .i64 0, .int .i64 0, .int .i64 0, .int .i64 0] := RawAt.below RZ0 bC RZ0.lt; have hW2 := hWE.trans (bC.mono hWE.size)))
        refine hK.out _ _ (by first | (with_reducible exact MK.out _ Ro Rn) | (with_reducible exact MK.out _ RoE RnE) | (with_reducible exact MK.out _ RoA RnA) | (with_reducible exact MK.out _ RoS RnS)) (fun hHeld => ?_)
        clear hK K
        go_simp
        refine wpAnyH_ready (rs := [1]) (by kernel_rfl) (by simp) ?_
        refine AllReadyH.cons rfl (fun K hK => ?_) ?_
        rotate_left
        · exact AllReadyH.nil
        go_simp
        go_wp2_with (first | (go_at_call 36; ((refine (CK.out _ (HB3.out.trans (hWE.mono HB3.out.size))).mono ?_); rintro e wK ⟨rfl, hwK⟩); have hwK := hwK.symm; subst hwK) | (go_at_call 37; ((refine (CF1.out _ (HB3.out.trans (hWE.mono HB3.out.size))).mono ?_); rintro e wC ⟨⟨z1, rfl⟩, bC⟩); have Ro := RawAt.below RoE bC RoE.lt; have Rn := RawAt.below RnE bC RnE.lt; have RZ : RawAt 86 wC wc.heap.size #[.int .i64 0, .int .i64 0, .int .i64 0, .int .i64 0, .int .i64 0, .int .i64 0, .int .i64 0, .int .i64 0] := RawAt.below RZ0 bC RZ0.lt; have hW2 := hWE.trans (bC.mono hWE.size)))
        refine hK.out _ _ (by first | (with_reducible exact MK.out _ Ro Rn) | (with_reducible exact MK.out _ RoE RnE) | (with_reducible exact MK.out _ RoA RnA) | (with_reducible exact MK.out _ RoS RnS)) (fun hHeld => ?_)
        clear hK K
        go_simp
        refine wpAnyH_ready (rs := [4]) (by kernel_rfl) (by simp) ?_
        refine AllReadyH.cons rfl (fun K hK => ?_) ?_
        rotate_left
        · exact AllReadyH.nil
        go_simp
        go_wp2_with (first | (go_at_call 36; ((refine (CK.out _ (HB3.out.trans (hWE.mono HB3.out.size))).mono ?_); rintro e wK ⟨rfl, hwK⟩); have hwK := hwK.symm; subst hwK) | (go_at_call 37; ((refine (CF1.out _ (HB3.out.trans (hWE.mono HB3.out.size))).mono ?_); rintro e wC ⟨⟨z1, rfl⟩, bC⟩); have Ro := RawAt.below RoE bC RoE.lt; have Rn := RawAt.below RnE bC RnE.lt; have RZ : RawAt 86 wC wc.heap.size #[.int .i64 0, .int .i64 0, .int .i64 0, .int .i64 0, .int .i64 0, .int .i64 0, .int .i64 0, .int .i64 0] := RawAt.below RZ0 bC RZ0.lt; have hW2 := hWE.trans (bC.mono hWE.size)))
        refine hK.out _ _ (by first | (with_reducible exact MK.out _ Ro Rn) | (with_reducible exact MK.out _ RoE RnE) | (with_reducible exact MK.out _ RoA RnA) | (with_reducible exact MK.out _ RoS RnS)) (fun hHeld => ?_)
        clear hK K
        go_simp
        refine wpAnyH_take (i := 5) (v := ?_) rfl (by kernel_rfl) (by kernel_rfl) (by kernel_rfl) (fun _ _ _ h => h) (Or.inl ⟨by rfl, ?_⟩) hHeld ?_
        rotate_left
        · intro w hSw
          (try dsimp only at hSw)
          go_simp
          try with_reducible rfl
        go_simp
        refine wpAnyH_take (i := 6) (v := ?_) rfl (by kernel_rfl) (by kernel_rfl) (by kernel_rfl) (fun _ _ _ h => h) (Or.inl ⟨by rfl, ?_⟩) hHeld ?_
        rotate_left
        · intro w hSw
          (try dsimp only at hSw)
          go_simp
          try with_reducible rfl
        go_simp
        refine wpAnyH_take (i := 7) (v := ?_) rfl (by kernel_rfl) (by kernel_rfl) (by kernel_rfl) (fun _ _ _ h => h) (Or.inl ⟨by rfl, ?_⟩) hHeld ?_
        rotate_left
        · intro w hSw
          (try dsimp only at hSw)
          go_simp
          try with_reducible rfl
        go_simp
        refine wpAnyH_ready (rs := [9]) (by kernel_rfl) (by simp) ?_
        refine AllReadyH.cons rfl (fun K hK => ?_) ?_
        rotate_left
        · exact AllReadyH.nil
        have RoS := raw_row_ne Ro RZ (Nat.ne_of_lt ltRo) #[.int .i64 k1, .int .i64 s1.n, .int .i64 s1.d0, .int .i64 s1.d1, .int .i64 s1.d2, .int .i64 s1.mx, .int .i64 s1.pl, .int .i64 z1]
        have RnS := raw_row_ne Rn RZ (Nat.ne_of_lt ltRn) #[.int .i64 k1, .int .i64 s1.n, .int .i64 s1.d0, .int .i64 s1.d1, .int .i64 s1.d2, .int .i64 s1.mx, .int .i64 s1.pl, .int .i64 z1]
        refine step_store_row rfl 86 _ _ rfl wc.heap.size #[.int .i64 k1, .int .i64 s1.n, .int .i64 s1.d0, .int .i64 s1.d1, .int .i64 s1.d2, .int .i64 s1.mx, .int .i64 s1.pl, .int .i64 z1] rfl rfl RZ (by kernel_rfl) rfl (by simp [Value.oneCell']) ?_
        refine hK.out _ _ (by first | (with_reducible exact MK.out _ Ro Rn) | (with_reducible exact MK.out _ RoE RnE) | (with_reducible exact MK.out _ RoA RnA) | (with_reducible exact MK.out _ RoS RnS)) (fun hHeld => ?_)
        clear hK K
        go_simp
        refine wpAnyH_take (i := 10) (v := ?_) rfl (by kernel_rfl) (by kernel_rfl) (by kernel_rfl) (fun _ _ _ h => h) (Or.inl ⟨by rfl, ?_⟩) hHeld ?_
        rotate_left
        · intro w hSw
          (try dsimp only at hSw)
          go_simp
          try with_reducible rfl
        go_simp
        refine wpAnyH_done (by kernel_rfl) ?_ _
        refine NoPanic.normal ?_
        go_wp2_with fail
        have RN := raw_row RZ #[.int .i64 k1, .int .i64 s1.n, .int .i64 s1.d0, .int .i64 s1.d1, .int .i64 s1.d2, .int .i64 s1.mx, .int .i64 s1.pl, .int .i64 z1]
        have Ro := RoS
        have Rn := RnS
        have HN := Lib.hid (HB3.out.trans ((below_setRow (g := wc.heap.size) hW2 (by first | exact Nat.le_refl _ | exact hW2.size) #[.int .i64 k1, .int .i64 s1.n, .int .i64 s1.d0, .int .i64 s1.d1, .int .i64 s1.d2, .int .i64 s1.mx, .int .i64 s1.pl, .int .i64 z1]).mono HB3.out.size))
        go_meet
        exact ⟨wc.heap.size, z1, rfl, Lib.hid RN, Lib.hid Ro, Lib.hid Rn, HN⟩
    case rest =>
    obtain ⟨b1, z1, rfl, HR1, HRo, HRn, HB3⟩ := hcut
    clear CF1
    go_upto_region 5 with fail
    go_cut [14, 15] from 22 (fun s12 s13 wx => ∃ (b2 : Nat) (z2 : Int), s12 = .pointer (some ⟨b2, 0, none⟩) ∧ Hid (RawAt 86 wx b2 #[.int .i64 k2, .int .i64 s2.n, .int .i64 s2.d0, .int .i64 s2.d1, .int .i64 s2.d2, .int .i64 s2.mx, .int .i64 s2.pl, .int .i64 z2]) ∧ Hid (RawAt 38 wx w.heap.size #[.int .i64 f, .int .i64 t]) ∧ Hid (RawAt 38 wx (w.heap.size + 1) #[.int .i64 f, .int .i64 t']) ∧ Hid (RawAt 86 wx b1 #[.int .i64 k1, .int .i64 s1.n, .int .i64 s1.d0, .int .i64 s1.d1, .int .i64 s1.d2, .int .i64 s1.mx, .int .i64 s1.pl, .int .i64 z1]) ∧ Hid (Below w.heap.size w wx))
    case first =>
      have Ro := HRo.out
      have Rn := HRn.out
      have R1 := HR1.out
      have hW2 : Below wc.heap.size wc wc.drew := (Below.refl _ _).drew
      have Ro : RawAt 38 wc.drew w.heap.size #[.int .i64 f, .int .i64 t] := Ro
      have Rn : RawAt 38 wc.drew (w.heap.size + 1) #[.int .i64 f, .int .i64 t'] := Rn
      have R1 : RawAt 86 wc.drew b1 #[.int .i64 k1, .int .i64 s1.n, .int .i64 s1.d0, .int .i64 s1.d1, .int .i64 s1.d2, .int .i64 s1.mx, .int .i64 s1.pl, .int .i64 z1] := R1
      have ltRo := Ro.lt
      have ltRn := Rn.lt
      have ltR1 := R1.lt
      have MK : Hid (∀ V : World, RawAt 38 V w.heap.size #[.int .i64 f, .int .i64 t] → RawAt 38 V (w.heap.size + 1) #[.int .i64 f, .int .i64 t'] → RawAt 86 V b1 #[.int .i64 k1, .int .i64 s1.n, .int .i64 s1.d0, .int .i64 s1.d1, .int .i64 s1.d2, .int .i64 s1.mx, .int .i64 s1.pl, .int .i64 z1] → (fun V : World => V.cell? ⟨w.heap.size, 1, none⟩ = some (.int .i64 t)) V) := Lib.hid fun V hRo hRn hR1 => RawAt.cell hRo 1
      have RZ0 : RawAt 86 (wc.alloc (.cells #[.int .i64 0, .int .i64 0, .int .i64 0, .int .i64 0, .int .i64 0, .int .i64 0, .int .i64 0, .int .i64 0] 86)).drew wc.heap.size #[.int .i64 0, .int .i64 0, .int .i64 0, .int .i64 0, .int .i64 0, .int .i64 0, .int .i64 0, .int .i64 0] := heap_alloc_new wc _
      have hWE : Below wc.heap.size wc (wc.alloc (.cells #[.int .i64 0, .int .i64 0, .int .i64 0, .int .i64 0, .int .i64 0, .int .i64 0, .int .i64 0, .int .i64 0] 86)).drew := ((Below.refl _ _).alloc (Nat.le_refl _) _).drew
      have RoE : RawAt 38 (wc.alloc (.cells #[.int .i64 0, .int .i64 0, .int .i64 0, .int .i64 0, .int .i64 0, .int .i64 0, .int .i64 0, .int .i64 0] 86)).drew w.heap.size #[.int .i64 f, .int .i64 t] := RawAt.below Ro ((Below.refl _ _).alloc (Nat.le_refl _) _) Ro.lt
      have RnE : RawAt 38 (wc.alloc (.cells #[.int .i64 0, .int .i64 0, .int .i64 0, .int .i64 0, .int .i64 0, .int .i64 0, .int .i64 0, .int .i64 0] 86)).drew (w.heap.size + 1) #[.int .i64 f, .int .i64 t'] := RawAt.below Rn ((Below.refl _ _).alloc (Nat.le_refl _) _) Rn.lt
      have R1E : RawAt 86 (wc.alloc (.cells #[.int .i64 0, .int .i64 0, .int .i64 0, .int .i64 0, .int .i64 0, .int .i64 0, .int .i64 0, .int .i64 0] 86)).drew b1 #[.int .i64 k1, .int .i64 s1.n, .int .i64 s1.d0, .int .i64 s1.d1, .int .i64 s1.d2, .int .i64 s1.mx, .int .i64 s1.pl, .int .i64 z1] := RawAt.below R1 ((Below.refl _ _).alloc (Nat.le_refl _) _) R1.lt
      refine wp_region_noPanic ?_
      refine wp_region_held_drew (S := (fun V => V.cell? ⟨w.heap.size, 1, none⟩ = some (.int .i64 t))) (by kernel_rfl) (MK.out _ Ro Rn R1) (fun hHeld => ?_)
      refine wpAnyH_take (i := 0) (v := ?_) rfl (by kernel_rfl) (by kernel_rfl) (by kernel_rfl) (fun _ _ _ h => h) (Or.inl ⟨by rfl, ?_⟩) hHeld ?_
      rotate_left
      · intro w hSw
        (try dsimp only at hSw)
        go_simp
        try with_reducible rfl
      go_simp
      refine wpAnyH_take (i := 2) (v := ?_) rfl (by kernel_rfl) (by kernel_rfl) (by kernel_rfl) (fun _ _ _ h => h) (Or.inl ⟨by rfl, ?_⟩) hHeld ?_
      rotate_left
      · intro w hSw
        (try dsimp only at hSw)
        go_simp
        try with_reducible rfl
      go_simp
      refine wpAnyH_take (i := 3) (v := ?_) rfl (by kernel_rfl) (by kernel_rfl) (by kernel_rfl) (fun _ _ _ h => h) (Or.inl ⟨by rfl, ?_⟩) hHeld ?_
      rotate_left
      · intro w hSw
        (try dsimp only at hSw)
        go_simp
        try with_reducible rfl
      go_simp
      refine wpAnyH_ready (rs := [1, 8]) (by kernel_rfl) (by simp) ?_
      refine AllReadyH.cons rfl (fun K hK => ?_) (AllReadyH.cons rfl (fun K hK => ?_) AllReadyH.nil)
      · go_simp
        go_wp2_with (first | (go_at_call 36; ((refine (CK.out _ (HB3.out.trans (hW2.mono HB3.out.size))).mono ?_); rintro e wK ⟨rfl, hwK⟩); have hwK := hwK.symm; subst hwK) | (go_at_call 37; ((refine (CF2.out _ (HB3.out.trans (hW2.mono HB3.out.size))).mono ?_); rintro e wC ⟨⟨z2, rfl⟩, bC⟩); have Ro := RawAt.below Ro bC Ro.lt; have Rn := RawAt.below Rn bC Rn.lt; have R1 := RawAt.below R1 bC R1.lt; have hW2 := hW2.trans (bC.mono hW2.size); have RZ : RawAt 86 (wC.alloc (.cells #[.int .i64 0, .int .i64 0, .int .i64 0, .int .i64 0, .int .i64 0, .int .i64 0, .int .i64 0, .int .i64 0] 86)) wC.heap.size #[.int .i64 0, .int .i64 0, .int .i64 0, .int .i64 0, .int .i64 0, .int .i64 0, .int .i64 0, .int .i64 0] := heap_alloc_new wC _; have hWA := hW2.alloc hW2.size (.cells #[.int .i64 0, .int .i64 0, .int .i64 0, .int .i64 0, .int .i64 0, .int .i64 0, .int .i64 0, .int .i64 0] 86); have RoA : RawAt 38 (wC.alloc (.cells #[.int .i64 0, .int .i64 0, .int .i64 0, .int .i64 0, .int .i64 0, .int .i64 0, .int .i64 0, .int .i64 0] 86)) w.heap.size #[.int .i64 f, .int .i64 t] := RawAt.below Ro ((Below.refl _ _).alloc (Nat.le_refl _) _) Ro.lt; have RnA : RawAt 38 (wC.alloc (.cells #[.int .i64 0, .int .i64 0, .int .i64 0, .int .i64 0, .int .i64 0, .int .i64 0, .int .i64 0, .int .i64 0] 86)) (w.heap.size + 1) #[.int .i64 f, .int .i64 t'] := RawAt.below Rn ((Below.refl _ _).alloc (Nat.le_refl _) _) Rn.lt; have R1A : RawAt 86 (wC.alloc (.cells #[.int .i64 0, .int .i64 0, .int .i64 0, .int .i64 0, .int .i64 0, .int .i64 0, .int .i64 0, .int .i64 0] 86)) b1 #[.int .i64 k1, .int .i64 s1.n, .int .i64 s1.d0, .int .i64 s1.d1, .int .i64 s1.d2, .int .i64 s1.mx, .int .i64 s1.pl, .int .i64 z1] := RawAt.below R1 ((Below.refl _ _).alloc (Nat.le_refl _) _) R1.lt))
        refine hK.out _ _ (by first | (with_reducible exact MK.out _ Ro Rn R1) | (with_reducible exact MK.out _ RoE RnE R1E) | (with_reducible exact MK.out _ RoA RnA R1A) | (with_reducible exact MK.out _ RoS RnS R1S)) (fun hHeld => ?_)
        clear hK K
        go_simp
        refine wpAnyH_ready (rs := [4, 8]) (by kernel_rfl) (by simp) ?_
        refine AllReadyH.cons rfl (fun K hK => ?_) (AllReadyH.cons rfl (fun K hK => ?_) AllReadyH.nil)
        · go_simp
          go_wp2_with (first | (go_at_call 36; ((refine (CK.out _ (HB3.out.trans (hW2.mono HB3.out.size))).mono ?_); rintro e wK ⟨rfl, hwK⟩); have hwK := hwK.symm; subst hwK) | (go_at_call 37; ((refine (CF2.out _ (HB3.out.trans (hW2.mono HB3.out.size))).mono ?_); rintro e wC ⟨⟨z2, rfl⟩, bC⟩); have Ro := RawAt.below Ro bC Ro.lt; have Rn := RawAt.below Rn bC Rn.lt; have R1 := RawAt.below R1 bC R1.lt; have hW2 := hW2.trans (bC.mono hW2.size); have RZ : RawAt 86 (wC.alloc (.cells #[.int .i64 0, .int .i64 0, .int .i64 0, .int .i64 0, .int .i64 0, .int .i64 0, .int .i64 0, .int .i64 0] 86)) wC.heap.size #[.int .i64 0, .int .i64 0, .int .i64 0, .int .i64 0, .int .i64 0, .int .i64 0, .int .i64 0, .int .i64 0] := heap_alloc_new wC _; have hWA := hW2.alloc hW2.size (.cells #[.int .i64 0, .int .i64 0, .int .i64 0, .int .i64 0, .int .i64 0, .int .i64 0, .int .i64 0, .int .i64 0] 86); have RoA : RawAt 38 (wC.alloc (.cells #[.int .i64 0, .int .i64 0, .int .i64 0, .int .i64 0, .int .i64 0, .int .i64 0, .int .i64 0, .int .i64 0] 86)) w.heap.size #[.int .i64 f, .int .i64 t] := RawAt.below Ro ((Below.refl _ _).alloc (Nat.le_refl _) _) Ro.lt; have RnA : RawAt 38 (wC.alloc (.cells #[.int .i64 0, .int .i64 0, .int .i64 0, .int .i64 0, .int .i64 0, .int .i64 0, .int .i64 0, .int .i64 0] 86)) (w.heap.size + 1) #[.int .i64 f, .int .i64 t'] := RawAt.below Rn ((Below.refl _ _).alloc (Nat.le_refl _) _) Rn.lt; have R1A : RawAt 86 (wC.alloc (.cells #[.int .i64 0, .int .i64 0, .int .i64 0, .int .i64 0, .int .i64 0, .int .i64 0, .int .i64 0, .int .i64 0] 86)) b1 #[.int .i64 k1, .int .i64 s1.n, .int .i64 s1.d0, .int .i64 s1.d1, .int .i64 s1.d2, .int .i64 s1.mx, .int .i64 s1.pl, .int .i64 z1] := RawAt.below R1 ((Below.refl _ _).alloc (Nat.le_refl _) _) R1.lt))
          refine hK.out _ _ (by first | (with_reducible exact MK.out _ Ro Rn R1) | (with_reducible exact MK.out _ RoE RnE R1E) | (with_reducible exact MK.out _ RoA RnA R1A) | (with_reducible exact MK.out _ RoS RnS R1S)) (fun hHeld => ?_)
          clear hK K
          go_simp
          refine wpAnyH_take (i := 5) (v := ?_) rfl (by kernel_rfl) (by kernel_rfl) (by kernel_rfl) (fun _ _ _ h => h) (Or.inl ⟨by rfl, ?_⟩) hHeld ?_
          rotate_left
          · intro w hSw
            (try dsimp only at hSw)
            go_simp
            try with_reducible rfl
          go_simp
          refine wpAnyH_take (i := 6) (v := ?_) rfl (by kernel_rfl) (by kernel_rfl) (by kernel_rfl) (fun _ _ _ h => h) (Or.inl ⟨by rfl, ?_⟩) hHeld ?_
          rotate_left
          · intro w hSw
            (try dsimp only at hSw)
            go_simp
            try with_reducible rfl
          go_simp
          refine wpAnyH_take (i := 7) (v := ?_) rfl (by kernel_rfl) (by kernel_rfl) (by kernel_rfl) (fun _ _ _ h => h) (Or.inl ⟨by rfl, ?_⟩) hHeld ?_
          rotate_left
          · intro w hSw
            (try dsimp only at hSw)
            go_simp
            try with_reducible rfl
          go_simp
          refine wpAnyH_ready (rs := [8]) (by kernel_rfl) (by simp) ?_
          refine AllReadyH.cons rfl (fun K hK => ?_) ?_
          rotate_left
          · exact AllReadyH.nil
          go_simp
          go_wp2_with (first | (go_at_call 36; ((refine (CK.out _ (HB3.out.trans (hW2.mono HB3.out.size))).mono ?_); rintro e wK ⟨rfl, hwK⟩); have hwK := hwK.symm; subst hwK) | (go_at_call 37; ((refine (CF2.out _ (HB3.out.trans (hW2.mono HB3.out.size))).mono ?_); rintro e wC ⟨⟨z2, rfl⟩, bC⟩); have Ro := RawAt.below Ro bC Ro.lt; have Rn := RawAt.below Rn bC Rn.lt; have R1 := RawAt.below R1 bC R1.lt; have hW2 := hW2.trans (bC.mono hW2.size); have RZ : RawAt 86 (wC.alloc (.cells #[.int .i64 0, .int .i64 0, .int .i64 0, .int .i64 0, .int .i64 0, .int .i64 0, .int .i64 0, .int .i64 0] 86)) wC.heap.size #[.int .i64 0, .int .i64 0, .int .i64 0, .int .i64 0, .int .i64 0, .int .i64 0, .int .i64 0, .int .i64 0] := heap_alloc_new wC _; have hWA := hW2.alloc hW2.size (.cells #[.int .i64 0, .int .i64 0, .int .i64 0, .int .i64 0, .int .i64 0, .int .i64 0, .int .i64 0, .int .i64 0] 86); have RoA : RawAt 38 (wC.alloc (.cells #[.int .i64 0, .int .i64 0, .int .i64 0, .int .i64 0, .int .i64 0, .int .i64 0, .int .i64 0, .int .i64 0] 86)) w.heap.size #[.int .i64 f, .int .i64 t] := RawAt.below Ro ((Below.refl _ _).alloc (Nat.le_refl _) _) Ro.lt; have RnA : RawAt 38 (wC.alloc (.cells #[.int .i64 0, .int .i64 0, .int .i64 0, .int .i64 0, .int .i64 0, .int .i64 0, .int .i64 0, .int .i64 0] 86)) (w.heap.size + 1) #[.int .i64 f, .int .i64 t'] := RawAt.below Rn ((Below.refl _ _).alloc (Nat.le_refl _) _) Rn.lt; have R1A : RawAt 86 (wC.alloc (.cells #[.int .i64 0, .int .i64 0, .int .i64 0, .int .i64 0, .int .i64 0, .int .i64 0, .int .i64 0, .int .i64 0] 86)) b1 #[.int .i64 k1, .int .i64 s1.n, .int .i64 s1.d0, .int .i64 s1.d1, .int .i64 s1.d2, .int .i64 s1.mx, .int .i64 s1.pl, .int .i64 z1] := RawAt.below R1 ((Below.refl _ _).alloc (Nat.le_refl _) _) R1.lt))
          refine hK.out _ _ (by first | (with_reducible exact MK.out _ Ro Rn R1) | (with_reducible exact MK.out _ RoE RnE R1E) | (with_reducible exact MK.out _ RoA RnA R1A) | (with_reducible exact MK.out _ RoS RnS R1S)) (fun hHeld => ?_)
          clear hK K
          go_simp
          refine wpAnyH_ready (rs := [9]) (by kernel_rfl) (by simp) ?_
          refine AllReadyH.cons rfl (fun K hK => ?_) ?_
          rotate_left
          · exact AllReadyH.nil
          have RoS := raw_row_ne RoA RZ (Nat.ne_of_lt Ro.lt) #[.int .i64 k2, .int .i64 s2.n, .int .i64 s2.d0, .int .i64 s2.d1, .int .i64 s2.d2, .int .i64 s2.mx, .int .i64 s2.pl, .int .i64 z2]
          have RnS := raw_row_ne RnA RZ (Nat.ne_of_lt Rn.lt) #[.int .i64 k2, .int .i64 s2.n, .int .i64 s2.d0, .int .i64 s2.d1, .int .i64 s2.d2, .int .i64 s2.mx, .int .i64 s2.pl, .int .i64 z2]
          have R1S := raw_row_ne R1A RZ (Nat.ne_of_lt R1.lt) #[.int .i64 k2, .int .i64 s2.n, .int .i64 s2.d0, .int .i64 s2.d1, .int .i64 s2.d2, .int .i64 s2.mx, .int .i64 s2.pl, .int .i64 z2]
          refine step_store_row rfl 86 _ _ rfl wC.heap.size #[.int .i64 k2, .int .i64 s2.n, .int .i64 s2.d0, .int .i64 s2.d1, .int .i64 s2.d2, .int .i64 s2.mx, .int .i64 s2.pl, .int .i64 z2] rfl rfl RZ (by kernel_rfl) rfl (by simp [Value.oneCell']) ?_
          refine hK.out _ _ (by first | (with_reducible exact MK.out _ Ro Rn R1) | (with_reducible exact MK.out _ RoE RnE R1E) | (with_reducible exact MK.out _ RoA RnA R1A) | (with_reducible exact MK.out _ RoS RnS R1S)) (fun hHeld => ?_)
          clear hK K
          go_simp
          refine wpAnyH_take (i := 10) (v := ?_) rfl (by kernel_rfl) (by kernel_rfl) (by kernel_rfl) (fun _ _ _ h => h) (Or.inl ⟨by rfl, ?_⟩) hHeld ?_
          rotate_left
          · intro w hSw
            (try dsimp only at hSw)
            go_simp
            try with_reducible rfl
          go_simp
          refine wpAnyH_done (by kernel_rfl) ?_ _
          refine NoPanic.normal ?_
          go_wp2_with fail
          have RN := raw_row RZ #[.int .i64 k2, .int .i64 s2.n, .int .i64 s2.d0, .int .i64 s2.d1, .int .i64 s2.d2, .int .i64 s2.mx, .int .i64 s2.pl, .int .i64 z2]
          have Ro := RoS
          have Rn := RnS
          have R1 := R1S
          have HN := Lib.hid (HB3.out.trans ((below_setRow (g := wC.heap.size) hWA (by first | exact Nat.le_refl _ | exact hW2.size) #[.int .i64 k2, .int .i64 s2.n, .int .i64 s2.d0, .int .i64 s2.d1, .int .i64 s2.d2, .int .i64 s2.mx, .int .i64 s2.pl, .int .i64 z2]).mono HB3.out.size))
          go_meet
          exact ⟨wC.heap.size, z2, rfl, Lib.hid RN, Lib.hid Ro, Lib.hid Rn, Lib.hid R1, HN⟩
        · go_simp
          go_wp2_with (first | (go_at_call 36; ((refine (CK.out _ (HB3.out.trans (hWE.mono HB3.out.size))).mono ?_); rintro e wK ⟨rfl, hwK⟩); have hwK := hwK.symm; subst hwK) | (go_at_call 37; ((refine (CF2.out _ (HB3.out.trans (hWE.mono HB3.out.size))).mono ?_); rintro e wC ⟨⟨z2, rfl⟩, bC⟩); have Ro := RawAt.below RoE bC RoE.lt; have Rn := RawAt.below RnE bC RnE.lt; have R1 := RawAt.below R1E bC R1E.lt; have RZ : RawAt 86 wC wc.heap.size #[.int .i64 0, .int .i64 0, .int .i64 0, .int .i64 0, .int .i64 0, .int .i64 0, .int .i64 0, .int .i64 0] := RawAt.below RZ0 bC RZ0.lt; have hW2 := hWE.trans (bC.mono hWE.size)))
          refine hK.out _ _ (by first | (with_reducible exact MK.out _ Ro Rn R1) | (with_reducible exact MK.out _ RoE RnE R1E) | (with_reducible exact MK.out _ RoA RnA R1A) | (with_reducible exact MK.out _ RoS RnS R1S)) (fun hHeld => ?_)
          clear hK K
          go_simp
          refine wpAnyH_ready (rs := [4]) (by kernel_rfl) (by simp) ?_
          refine AllReadyH.cons rfl (fun K hK => ?_) ?_
          rotate_left
          · exact AllReadyH.nil
          go_simp
          go_wp2_with (first | (go_at_call 36; ((refine (CK.out _ (HB3.out.trans (hWE.mono HB3.out.size))).mono ?_); rintro e wK ⟨rfl, hwK⟩); have hwK := hwK.symm; subst hwK) | (go_at_call 37; ((refine (CF2.out _ (HB3.out.trans (hWE.mono HB3.out.size))).mono ?_); rintro e wC ⟨⟨z2, rfl⟩, bC⟩); have Ro := RawAt.below RoE bC RoE.lt; have Rn := RawAt.below RnE bC RnE.lt; have R1 := RawAt.below R1E bC R1E.lt; have RZ : RawAt 86 wC wc.heap.size #[.int .i64 0, .int .i64 0, .int .i64 0, .int .i64 0, .int .i64 0, .int .i64 0, .int .i64 0, .int .i64 0] := RawAt.below RZ0 bC RZ0.lt; have hW2 := hWE.trans (bC.mono hWE.size)))
          refine hK.out _ _ (by first | (with_reducible exact MK.out _ Ro Rn R1) | (with_reducible exact MK.out _ RoE RnE R1E) | (with_reducible exact MK.out _ RoA RnA R1A) | (with_reducible exact MK.out _ RoS RnS R1S)) (fun hHeld => ?_)
          clear hK K
          go_simp
          refine wpAnyH_take (i := 5) (v := ?_) rfl (by kernel_rfl) (by kernel_rfl) (by kernel_rfl) (fun _ _ _ h => h) (Or.inl ⟨by rfl, ?_⟩) hHeld ?_
          rotate_left
          · intro w hSw
            (try dsimp only at hSw)
            go_simp
            try with_reducible rfl
          go_simp
          refine wpAnyH_take (i := 6) (v := ?_) rfl (by kernel_rfl) (by kernel_rfl) (by kernel_rfl) (fun _ _ _ h => h) (Or.inl ⟨by rfl, ?_⟩) hHeld ?_
          rotate_left
          · intro w hSw
            (try dsimp only at hSw)
            go_simp
            try with_reducible rfl
          go_simp
          refine wpAnyH_take (i := 7) (v := ?_) rfl (by kernel_rfl) (by kernel_rfl) (by kernel_rfl) (fun _ _ _ h => h) (Or.inl ⟨by rfl, ?_⟩) hHeld ?_
          rotate_left
          · intro w hSw
            (try dsimp only at hSw)
            go_simp
            try with_reducible rfl
          go_simp
          refine wpAnyH_ready (rs := [9]) (by kernel_rfl) (by simp) ?_
          refine AllReadyH.cons rfl (fun K hK => ?_) ?_
          rotate_left
          · exact AllReadyH.nil
          have RoS := raw_row_ne Ro RZ (Nat.ne_of_lt ltRo) #[.int .i64 k2, .int .i64 s2.n, .int .i64 s2.d0, .int .i64 s2.d1, .int .i64 s2.d2, .int .i64 s2.mx, .int .i64 s2.pl, .int .i64 z2]
          have RnS := raw_row_ne Rn RZ (Nat.ne_of_lt ltRn) #[.int .i64 k2, .int .i64 s2.n, .int .i64 s2.d0, .int .i64 s2.d1, .int .i64 s2.d2, .int .i64 s2.mx, .int .i64 s2.pl, .int .i64 z2]
          have R1S := raw_row_ne R1 RZ (Nat.ne_of_lt ltR1) #[.int .i64 k2, .int .i64 s2.n, .int .i64 s2.d0, .int .i64 s2.d1, .int .i64 s2.d2, .int .i64 s2.mx, .int .i64 s2.pl, .int .i64 z2]
          refine step_store_row rfl 86 _ _ rfl wc.heap.size #[.int .i64 k2, .int .i64 s2.n, .int .i64 s2.d0, .int .i64 s2.d1, .int .i64 s2.d2, .int .i64 s2.mx, .int .i64 s2.pl, .int .i64 z2] rfl rfl RZ (by kernel_rfl) rfl (by simp [Value.oneCell']) ?_
          refine hK.out _ _ (by first | (with_reducible exact MK.out _ Ro Rn R1) | (with_reducible exact MK.out _ RoE RnE R1E) | (with_reducible exact MK.out _ RoA RnA R1A) | (with_reducible exact MK.out _ RoS RnS R1S)) (fun hHeld => ?_)
          clear hK K
          go_simp
          refine wpAnyH_take (i := 10) (v := ?_) rfl (by kernel_rfl) (by kernel_rfl) (by kernel_rfl) (fun _ _ _ h => h) (Or.inl ⟨by rfl, ?_⟩) hHeld ?_
          rotate_left
          · intro w hSw
            (try dsimp only at hSw)
            go_simp
            try with_reducible rfl
          go_simp
          refine wpAnyH_done (by kernel_rfl) ?_ _
          refine NoPanic.normal ?_
          go_wp2_with fail
          have RN := raw_row RZ #[.int .i64 k2, .int .i64 s2.n, .int .i64 s2.d0, .int .i64 s2.d1, .int .i64 s2.d2, .int .i64 s2.mx, .int .i64 s2.pl, .int .i64 z2]
          have Ro := RoS
          have Rn := RnS
          have R1 := R1S
          have HN := Lib.hid (HB3.out.trans ((below_setRow (g := wc.heap.size) hW2 (by first | exact Nat.le_refl _ | exact hW2.size) #[.int .i64 k2, .int .i64 s2.n, .int .i64 s2.d0, .int .i64 s2.d1, .int .i64 s2.d2, .int .i64 s2.mx, .int .i64 s2.pl, .int .i64 z2]).mono HB3.out.size))
          go_meet
          exact ⟨wc.heap.size, z2, rfl, Lib.hid RN, Lib.hid Ro, Lib.hid Rn, Lib.hid R1, HN⟩
      · go_simp
        go_wp2_with (first | (go_at_call 36; ((refine (CK.out _ (HB3.out.trans (hWE.mono HB3.out.size))).mono ?_); rintro e wK ⟨rfl, hwK⟩); have hwK := hwK.symm; subst hwK) | (go_at_call 37; ((refine (CF2.out _ (HB3.out.trans (hWE.mono HB3.out.size))).mono ?_); rintro e wC ⟨⟨z2, rfl⟩, bC⟩); have Ro := RawAt.below RoE bC RoE.lt; have Rn := RawAt.below RnE bC RnE.lt; have R1 := RawAt.below R1E bC R1E.lt; have RZ : RawAt 86 wC wc.heap.size #[.int .i64 0, .int .i64 0, .int .i64 0, .int .i64 0, .int .i64 0, .int .i64 0, .int .i64 0, .int .i64 0] := RawAt.below RZ0 bC RZ0.lt; have hW2 := hWE.trans (bC.mono hWE.size)))
        refine hK.out _ _ (by first | (with_reducible exact MK.out _ Ro Rn R1) | (with_reducible exact MK.out _ RoE RnE R1E) | (with_reducible exact MK.out _ RoA RnA R1A) | (with_reducible exact MK.out _ RoS RnS R1S)) (fun hHeld => ?_)
        clear hK K
        go_simp
        refine wpAnyH_ready (rs := [1]) (by kernel_rfl) (by simp) ?_
        refine AllReadyH.cons rfl (fun K hK => ?_) ?_
        rotate_left
        · exact AllReadyH.nil
        go_simp
        go_wp2_with (first | (go_at_call 36; ((refine (CK.out _ (HB3.out.trans (hWE.mono HB3.out.size))).mono ?_); rintro e wK ⟨rfl, hwK⟩); have hwK := hwK.symm; subst hwK) | (go_at_call 37; ((refine (CF2.out _ (HB3.out.trans (hWE.mono HB3.out.size))).mono ?_); rintro e wC ⟨⟨z2, rfl⟩, bC⟩); have Ro := RawAt.below RoE bC RoE.lt; have Rn := RawAt.below RnE bC RnE.lt; have R1 := RawAt.below R1E bC R1E.lt; have RZ : RawAt 86 wC wc.heap.size #[.int .i64 0, .int .i64 0, .int .i64 0, .int .i64 0, .int .i64 0, .int .i64 0, .int .i64 0, .int .i64 0] := RawAt.below RZ0 bC RZ0.lt; have hW2 := hWE.trans (bC.mono hWE.size)))
        refine hK.out _ _ (by first | (with_reducible exact MK.out _ Ro Rn R1) | (with_reducible exact MK.out _ RoE RnE R1E) | (with_reducible exact MK.out _ RoA RnA R1A) | (with_reducible exact MK.out _ RoS RnS R1S)) (fun hHeld => ?_)
        clear hK K
        go_simp
        refine wpAnyH_ready (rs := [4]) (by kernel_rfl) (by simp) ?_
        refine AllReadyH.cons rfl (fun K hK => ?_) ?_
        rotate_left
        · exact AllReadyH.nil
        go_simp
        go_wp2_with (first | (go_at_call 36; ((refine (CK.out _ (HB3.out.trans (hWE.mono HB3.out.size))).mono ?_); rintro e wK ⟨rfl, hwK⟩); have hwK := hwK.symm; subst hwK) | (go_at_call 37; ((refine (CF2.out _ (HB3.out.trans (hWE.mono HB3.out.size))).mono ?_); rintro e wC ⟨⟨z2, rfl⟩, bC⟩); have Ro := RawAt.below RoE bC RoE.lt; have Rn := RawAt.below RnE bC RnE.lt; have R1 := RawAt.below R1E bC R1E.lt; have RZ : RawAt 86 wC wc.heap.size #[.int .i64 0, .int .i64 0, .int .i64 0, .int .i64 0, .int .i64 0, .int .i64 0, .int .i64 0, .int .i64 0] := RawAt.below RZ0 bC RZ0.lt; have hW2 := hWE.trans (bC.mono hWE.size)))
        refine hK.out _ _ (by first | (with_reducible exact MK.out _ Ro Rn R1) | (with_reducible exact MK.out _ RoE RnE R1E) | (with_reducible exact MK.out _ RoA RnA R1A) | (with_reducible exact MK.out _ RoS RnS R1S)) (fun hHeld => ?_)
        clear hK K
        go_simp
        refine wpAnyH_take (i := 5) (v := ?_) rfl (by kernel_rfl) (by kernel_rfl) (by kernel_rfl) (fun _ _ _ h => h) (Or.inl ⟨by rfl, ?_⟩) hHeld ?_
        rotate_left
        · intro w hSw
          (try dsimp only at hSw)
          go_simp
          try with_reducible rfl
        go_simp
        refine wpAnyH_take (i := 6) (v := ?_) rfl (by kernel_rfl) (by kernel_rfl) (by kernel_rfl) (fun _ _ _ h => h) (Or.inl ⟨by rfl, ?_⟩) hHeld ?_
        rotate_left
        · intro w hSw
          (try dsimp only at hSw)
          go_simp
          try with_reducible rfl
        go_simp
        refine wpAnyH_take (i := 7) (v := ?_) rfl (by kernel_rfl) (by kernel_rfl) (by kernel_rfl) (fun _ _ _ h => h) (Or.inl ⟨by rfl, ?_⟩) hHeld ?_
        rotate_left
        · intro w hSw
          (try dsimp only at hSw)
          go_simp
          try with_reducible rfl
        go_simp
        refine wpAnyH_ready (rs := [9]) (by kernel_rfl) (by simp) ?_
        refine AllReadyH.cons rfl (fun K hK => ?_) ?_
        rotate_left
        · exact AllReadyH.nil
        have RoS := raw_row_ne Ro RZ (Nat.ne_of_lt ltRo) #[.int .i64 k2, .int .i64 s2.n, .int .i64 s2.d0, .int .i64 s2.d1, .int .i64 s2.d2, .int .i64 s2.mx, .int .i64 s2.pl, .int .i64 z2]
        have RnS := raw_row_ne Rn RZ (Nat.ne_of_lt ltRn) #[.int .i64 k2, .int .i64 s2.n, .int .i64 s2.d0, .int .i64 s2.d1, .int .i64 s2.d2, .int .i64 s2.mx, .int .i64 s2.pl, .int .i64 z2]
        have R1S := raw_row_ne R1 RZ (Nat.ne_of_lt ltR1) #[.int .i64 k2, .int .i64 s2.n, .int .i64 s2.d0, .int .i64 s2.d1, .int .i64 s2.d2, .int .i64 s2.mx, .int .i64 s2.pl, .int .i64 z2]
        refine step_store_row rfl 86 _ _ rfl wc.heap.size #[.int .i64 k2, .int .i64 s2.n, .int .i64 s2.d0, .int .i64 s2.d1, .int .i64 s2.d2, .int .i64 s2.mx, .int .i64 s2.pl, .int .i64 z2] rfl rfl RZ (by kernel_rfl) rfl (by simp [Value.oneCell']) ?_
        refine hK.out _ _ (by first | (with_reducible exact MK.out _ Ro Rn R1) | (with_reducible exact MK.out _ RoE RnE R1E) | (with_reducible exact MK.out _ RoA RnA R1A) | (with_reducible exact MK.out _ RoS RnS R1S)) (fun hHeld => ?_)
        clear hK K
        go_simp
        refine wpAnyH_take (i := 10) (v := ?_) rfl (by kernel_rfl) (by kernel_rfl) (by kernel_rfl) (fun _ _ _ h => h) (Or.inl ⟨by rfl, ?_⟩) hHeld ?_
        rotate_left
        · intro w hSw
          (try dsimp only at hSw)
          go_simp
          try with_reducible rfl
        go_simp
        refine wpAnyH_done (by kernel_rfl) ?_ _
        refine NoPanic.normal ?_
        go_wp2_with fail
        have RN := raw_row RZ #[.int .i64 k2, .int .i64 s2.n, .int .i64 s2.d0, .int .i64 s2.d1, .int .i64 s2.d2, .int .i64 s2.mx, .int .i64 s2.pl, .int .i64 z2]
        have Ro := RoS
        have Rn := RnS
        have R1 := R1S
        have HN := Lib.hid (HB3.out.trans ((below_setRow (g := wc.heap.size) hW2 (by first | exact Nat.le_refl _ | exact hW2.size) #[.int .i64 k2, .int .i64 s2.n, .int .i64 s2.d0, .int .i64 s2.d1, .int .i64 s2.d2, .int .i64 s2.mx, .int .i64 s2.pl, .int .i64 z2]).mono HB3.out.size))
        go_meet
        exact ⟨wc.heap.size, z2, rfl, Lib.hid RN, Lib.hid Ro, Lib.hid Rn, Lib.hid R1, HN⟩
    case rest =>
    obtain ⟨b2, z2, rfl, HR2, HRo, HRn, HR1, HB3⟩ := hcut
    clear CF2
    go_upto_region 6 with fail
    go_cut [16, 17] from 22 (fun s12 s13 wx => ∃ (b3 : Nat), s12 = .pointer (some ⟨b3, 0, none⟩) ∧ Hid (RawAt 91 wx b3 #[.int .i64 tg, .int .i64 id, .int .i64 o0, .int .i64 o1, .int .i64 o2, .int .i64 omx, .string otx]) ∧ Hid (RawAt 38 wx w.heap.size #[.int .i64 f, .int .i64 t]) ∧ Hid (RawAt 38 wx (w.heap.size + 1) #[.int .i64 f, .int .i64 t']) ∧ Hid (RawAt 86 wx b1 #[.int .i64 k1, .int .i64 s1.n, .int .i64 s1.d0, .int .i64 s1.d1, .int .i64 s1.d2, .int .i64 s1.mx, .int .i64 s1.pl, .int .i64 z1]) ∧ Hid (RawAt 86 wx b2 #[.int .i64 k2, .int .i64 s2.n, .int .i64 s2.d0, .int .i64 s2.d1, .int .i64 s2.d2, .int .i64 s2.mx, .int .i64 s2.pl, .int .i64 z2]) ∧ Hid (Below w.heap.size w wx))
    case first =>
      have Ro := HRo.out
      have Rn := HRn.out
      have R1 := HR1.out
      have R2 := HR2.out
      have hW2 : Below wc.heap.size wc wc.drew := (Below.refl _ _).drew
      have Ro : RawAt 38 wc.drew w.heap.size #[.int .i64 f, .int .i64 t] := Ro
      have Rn : RawAt 38 wc.drew (w.heap.size + 1) #[.int .i64 f, .int .i64 t'] := Rn
      have R1 : RawAt 86 wc.drew b1 #[.int .i64 k1, .int .i64 s1.n, .int .i64 s1.d0, .int .i64 s1.d1, .int .i64 s1.d2, .int .i64 s1.mx, .int .i64 s1.pl, .int .i64 z1] := R1
      have R2 : RawAt 86 wc.drew b2 #[.int .i64 k2, .int .i64 s2.n, .int .i64 s2.d0, .int .i64 s2.d1, .int .i64 s2.d2, .int .i64 s2.mx, .int .i64 s2.pl, .int .i64 z2] := R2
      have ltRo := Ro.lt
      have ltRn := Rn.lt
      have ltR1 := R1.lt
      have ltR2 := R2.lt
      have MK : Hid (∀ V : World, RawAt 38 V w.heap.size #[.int .i64 f, .int .i64 t] → RawAt 38 V (w.heap.size + 1) #[.int .i64 f, .int .i64 t'] → RawAt 86 V b1 #[.int .i64 k1, .int .i64 s1.n, .int .i64 s1.d0, .int .i64 s1.d1, .int .i64 s1.d2, .int .i64 s1.mx, .int .i64 s1.pl, .int .i64 z1] → RawAt 86 V b2 #[.int .i64 k2, .int .i64 s2.n, .int .i64 s2.d0, .int .i64 s2.d1, .int .i64 s2.d2, .int .i64 s2.mx, .int .i64 s2.pl, .int .i64 z2] → (fun V : World => V.cell? ⟨b2, 0, none⟩ = some (.int .i64 k2)) V) := Lib.hid fun V hRo hRn hR1 hR2 => RawAt.cell hR2 0
      have RZ0 : RawAt 91 (wc.alloc (.cells #[.int .i64 0, .int .i64 0, .int .i64 0, .int .i64 0, .int .i64 0, .int .i64 0, .string ⟨#[]⟩] 91)).drew wc.heap.size #[.int .i64 0, .int .i64 0, .int .i64 0, .int .i64 0, .int .i64 0, .int .i64 0, .string ⟨#[]⟩] := heap_alloc_new wc _
      have hWE : Below wc.heap.size wc (wc.alloc (.cells #[.int .i64 0, .int .i64 0, .int .i64 0, .int .i64 0, .int .i64 0, .int .i64 0, .string ⟨#[]⟩] 91)).drew := ((Below.refl _ _).alloc (Nat.le_refl _) _).drew
      have RoE : RawAt 38 (wc.alloc (.cells #[.int .i64 0, .int .i64 0, .int .i64 0, .int .i64 0, .int .i64 0, .int .i64 0, .string ⟨#[]⟩] 91)).drew w.heap.size #[.int .i64 f, .int .i64 t] := RawAt.below Ro ((Below.refl _ _).alloc (Nat.le_refl _) _) Ro.lt
      have RnE : RawAt 38 (wc.alloc (.cells #[.int .i64 0, .int .i64 0, .int .i64 0, .int .i64 0, .int .i64 0, .int .i64 0, .string ⟨#[]⟩] 91)).drew (w.heap.size + 1) #[.int .i64 f, .int .i64 t'] := RawAt.below Rn ((Below.refl _ _).alloc (Nat.le_refl _) _) Rn.lt
      have R1E : RawAt 86 (wc.alloc (.cells #[.int .i64 0, .int .i64 0, .int .i64 0, .int .i64 0, .int .i64 0, .int .i64 0, .string ⟨#[]⟩] 91)).drew b1 #[.int .i64 k1, .int .i64 s1.n, .int .i64 s1.d0, .int .i64 s1.d1, .int .i64 s1.d2, .int .i64 s1.mx, .int .i64 s1.pl, .int .i64 z1] := RawAt.below R1 ((Below.refl _ _).alloc (Nat.le_refl _) _) R1.lt
      have R2E : RawAt 86 (wc.alloc (.cells #[.int .i64 0, .int .i64 0, .int .i64 0, .int .i64 0, .int .i64 0, .int .i64 0, .string ⟨#[]⟩] 91)).drew b2 #[.int .i64 k2, .int .i64 s2.n, .int .i64 s2.d0, .int .i64 s2.d1, .int .i64 s2.d2, .int .i64 s2.mx, .int .i64 s2.pl, .int .i64 z2] := RawAt.below R2 ((Below.refl _ _).alloc (Nat.le_refl _) _) R2.lt
      refine wp_region_noPanic ?_
      refine wp_region_held_drew (S := (fun V => V.cell? ⟨b2, 0, none⟩ = some (.int .i64 k2))) (by kernel_rfl) (MK.out _ Ro Rn R1 R2) (fun hHeld => ?_)
      refine wpAnyH_take (i := 0) (v := ?_) rfl (by kernel_rfl) (by kernel_rfl) (by kernel_rfl) (fun _ _ _ h => h) (Or.inl ⟨by rfl, ?_⟩) hHeld ?_
      rotate_left
      · intro w hSw
        (try dsimp only at hSw)
        go_simp
        try with_reducible rfl
      go_simp
      refine wpAnyH_take (i := 2) (v := ?_) rfl (by kernel_rfl) (by kernel_rfl) (by kernel_rfl) (fun _ _ _ h => h) (Or.inl ⟨by rfl, ?_⟩) hHeld ?_
      rotate_left
      · intro w hSw
        (try dsimp only at hSw)
        go_simp
        try with_reducible rfl
      go_simp
      refine wpAnyH_take (i := 3) (v := ?_) rfl (by kernel_rfl) (by kernel_rfl) (by kernel_rfl) (fun _ _ _ h => h) (Or.inl ⟨by rfl, ?_⟩) hHeld ?_
      rotate_left
      · intro w hSw
        (try dsimp only at hSw)
        go_simp
        try with_reducible rfl
      go_simp
      refine wpAnyH_ready (rs := [1, 8]) (by kernel_rfl) (by simp) ?_
      refine AllReadyH.cons rfl (fun K hK => ?_) (AllReadyH.cons rfl (fun K hK => ?_) AllReadyH.nil)
      · go_simp
        go_wp2_with (first | (go_at_call 36; ((refine (CK.out _ (HB3.out.trans (hW2.mono HB3.out.size))).mono ?_); rintro e wK ⟨rfl, hwK⟩); have hwK := hwK.symm; subst hwK) | (go_at_call 38; ((refine (CA2.out _ (HB3.out.trans (hW2.mono HB3.out.size))).mono ?_); rintro e wC ⟨⟨r, rfl⟩, bC⟩); have Ro := RawAt.below Ro bC Ro.lt; have Rn := RawAt.below Rn bC Rn.lt; have R1 := RawAt.below R1 bC R1.lt; have R2 := RawAt.below R2 bC R2.lt; have hW2 := hW2.trans (bC.mono hW2.size); have RZ : RawAt 91 (wC.alloc (.cells #[.int .i64 0, .int .i64 0, .int .i64 0, .int .i64 0, .int .i64 0, .int .i64 0, .string ⟨#[]⟩] 91)) wC.heap.size #[.int .i64 0, .int .i64 0, .int .i64 0, .int .i64 0, .int .i64 0, .int .i64 0, .string ⟨#[]⟩] := heap_alloc_new wC _; have hWA := hW2.alloc hW2.size (.cells #[.int .i64 0, .int .i64 0, .int .i64 0, .int .i64 0, .int .i64 0, .int .i64 0, .string ⟨#[]⟩] 91); have RoA : RawAt 38 (wC.alloc (.cells #[.int .i64 0, .int .i64 0, .int .i64 0, .int .i64 0, .int .i64 0, .int .i64 0, .string ⟨#[]⟩] 91)) w.heap.size #[.int .i64 f, .int .i64 t] := RawAt.below Ro ((Below.refl _ _).alloc (Nat.le_refl _) _) Ro.lt; have RnA : RawAt 38 (wC.alloc (.cells #[.int .i64 0, .int .i64 0, .int .i64 0, .int .i64 0, .int .i64 0, .int .i64 0, .string ⟨#[]⟩] 91)) (w.heap.size + 1) #[.int .i64 f, .int .i64 t'] := RawAt.below Rn ((Below.refl _ _).alloc (Nat.le_refl _) _) Rn.lt; have R1A : RawAt 86 (wC.alloc (.cells #[.int .i64 0, .int .i64 0, .int .i64 0, .int .i64 0, .int .i64 0, .int .i64 0, .string ⟨#[]⟩] 91)) b1 #[.int .i64 k1, .int .i64 s1.n, .int .i64 s1.d0, .int .i64 s1.d1, .int .i64 s1.d2, .int .i64 s1.mx, .int .i64 s1.pl, .int .i64 z1] := RawAt.below R1 ((Below.refl _ _).alloc (Nat.le_refl _) _) R1.lt; have R2A : RawAt 86 (wC.alloc (.cells #[.int .i64 0, .int .i64 0, .int .i64 0, .int .i64 0, .int .i64 0, .int .i64 0, .string ⟨#[]⟩] 91)) b2 #[.int .i64 k2, .int .i64 s2.n, .int .i64 s2.d0, .int .i64 s2.d1, .int .i64 s2.d2, .int .i64 s2.mx, .int .i64 s2.pl, .int .i64 z2] := RawAt.below R2 ((Below.refl _ _).alloc (Nat.le_refl _) _) R2.lt))
        refine hK.out _ _ (by first | (with_reducible exact MK.out _ Ro Rn R1 R2) | (with_reducible exact MK.out _ RoE RnE R1E R2E) | (with_reducible exact MK.out _ RoA RnA R1A R2A) | (with_reducible exact MK.out _ RoS RnS R1S R2S)) (fun hHeld => ?_)
        clear hK K
        go_simp
        refine wpAnyH_ready (rs := [4, 8]) (by kernel_rfl) (by simp) ?_
        refine AllReadyH.cons rfl (fun K hK => ?_) (AllReadyH.cons rfl (fun K hK => ?_) AllReadyH.nil)
        · go_simp
          go_wp2_with (first | (go_at_call 36; ((refine (CK.out _ (HB3.out.trans (hW2.mono HB3.out.size))).mono ?_); rintro e wK ⟨rfl, hwK⟩); have hwK := hwK.symm; subst hwK) | (go_at_call 38; ((refine (CA2.out _ (HB3.out.trans (hW2.mono HB3.out.size))).mono ?_); rintro e wC ⟨⟨r, rfl⟩, bC⟩); have Ro := RawAt.below Ro bC Ro.lt; have Rn := RawAt.below Rn bC Rn.lt; have R1 := RawAt.below R1 bC R1.lt; have R2 := RawAt.below R2 bC R2.lt; have hW2 := hW2.trans (bC.mono hW2.size); have RZ : RawAt 91 (wC.alloc (.cells #[.int .i64 0, .int .i64 0, .int .i64 0, .int .i64 0, .int .i64 0, .int .i64 0, .string ⟨#[]⟩] 91)) wC.heap.size #[.int .i64 0, .int .i64 0, .int .i64 0, .int .i64 0, .int .i64 0, .int .i64 0, .string ⟨#[]⟩] := heap_alloc_new wC _; have hWA := hW2.alloc hW2.size (.cells #[.int .i64 0, .int .i64 0, .int .i64 0, .int .i64 0, .int .i64 0, .int .i64 0, .string ⟨#[]⟩] 91); have RoA : RawAt 38 (wC.alloc (.cells #[.int .i64 0, .int .i64 0, .int .i64 0, .int .i64 0, .int .i64 0, .int .i64 0, .string ⟨#[]⟩] 91)) w.heap.size #[.int .i64 f, .int .i64 t] := RawAt.below Ro ((Below.refl _ _).alloc (Nat.le_refl _) _) Ro.lt; have RnA : RawAt 38 (wC.alloc (.cells #[.int .i64 0, .int .i64 0, .int .i64 0, .int .i64 0, .int .i64 0, .int .i64 0, .string ⟨#[]⟩] 91)) (w.heap.size + 1) #[.int .i64 f, .int .i64 t'] := RawAt.below Rn ((Below.refl _ _).alloc (Nat.le_refl _) _) Rn.lt; have R1A : RawAt 86 (wC.alloc (.cells #[.int .i64 0, .int .i64 0, .int .i64 0, .int .i64 0, .int .i64 0, .int .i64 0, .string ⟨#[]⟩] 91)) b1 #[.int .i64 k1, .int .i64 s1.n, .int .i64 s1.d0, .int .i64 s1.d1, .int .i64 s1.d2, .int .i64 s1.mx, .int .i64 s1.pl, .int .i64 z1] := RawAt.below R1 ((Below.refl _ _).alloc (Nat.le_refl _) _) R1.lt; have R2A : RawAt 86 (wC.alloc (.cells #[.int .i64 0, .int .i64 0, .int .i64 0, .int .i64 0, .int .i64 0, .int .i64 0, .string ⟨#[]⟩] 91)) b2 #[.int .i64 k2, .int .i64 s2.n, .int .i64 s2.d0, .int .i64 s2.d1, .int .i64 s2.d2, .int .i64 s2.mx, .int .i64 s2.pl, .int .i64 z2] := RawAt.below R2 ((Below.refl _ _).alloc (Nat.le_refl _) _) R2.lt))
          refine hK.out _ _ (by first | (with_reducible exact MK.out _ Ro Rn R1 R2) | (with_reducible exact MK.out _ RoE RnE R1E R2E) | (with_reducible exact MK.out _ RoA RnA R1A R2A) | (with_reducible exact MK.out _ RoS RnS R1S R2S)) (fun hHeld => ?_)
          clear hK K
          go_simp
          refine wpAnyH_take (i := 5) (v := ?_) rfl (by kernel_rfl) (by kernel_rfl) (by kernel_rfl) (fun _ _ _ h => h) (Or.inl ⟨by rfl, ?_⟩) hHeld ?_
          rotate_left
          · intro w hSw
            (try dsimp only at hSw)
            go_simp
            try with_reducible rfl
          go_simp
          refine wpAnyH_take (i := 6) (v := ?_) rfl (by kernel_rfl) (by kernel_rfl) (by kernel_rfl) (fun _ _ _ h => h) (Or.inl ⟨by rfl, ?_⟩) hHeld ?_
          rotate_left
          · intro w hSw
            (try dsimp only at hSw)
            go_simp
            try with_reducible rfl
          go_simp
          refine wpAnyH_take (i := 7) (v := ?_) rfl (by kernel_rfl) (by kernel_rfl) (by kernel_rfl) (fun _ _ _ h => h) (Or.inl ⟨by rfl, ?_⟩) hHeld ?_
          rotate_left
          · intro w hSw
            (try dsimp only at hSw)
            go_simp
            try with_reducible rfl
          go_simp
          refine wpAnyH_ready (rs := [8]) (by kernel_rfl) (by simp) ?_
          refine AllReadyH.cons rfl (fun K hK => ?_) ?_
          rotate_left
          · exact AllReadyH.nil
          go_simp
          go_wp2_with (first | (go_at_call 36; ((refine (CK.out _ (HB3.out.trans (hW2.mono HB3.out.size))).mono ?_); rintro e wK ⟨rfl, hwK⟩); have hwK := hwK.symm; subst hwK) | (go_at_call 38; ((refine (CA2.out _ (HB3.out.trans (hW2.mono HB3.out.size))).mono ?_); rintro e wC ⟨⟨r, rfl⟩, bC⟩); have Ro := RawAt.below Ro bC Ro.lt; have Rn := RawAt.below Rn bC Rn.lt; have R1 := RawAt.below R1 bC R1.lt; have R2 := RawAt.below R2 bC R2.lt; have hW2 := hW2.trans (bC.mono hW2.size); have RZ : RawAt 91 (wC.alloc (.cells #[.int .i64 0, .int .i64 0, .int .i64 0, .int .i64 0, .int .i64 0, .int .i64 0, .string ⟨#[]⟩] 91)) wC.heap.size #[.int .i64 0, .int .i64 0, .int .i64 0, .int .i64 0, .int .i64 0, .int .i64 0, .string ⟨#[]⟩] := heap_alloc_new wC _; have hWA := hW2.alloc hW2.size (.cells #[.int .i64 0, .int .i64 0, .int .i64 0, .int .i64 0, .int .i64 0, .int .i64 0, .string ⟨#[]⟩] 91); have RoA : RawAt 38 (wC.alloc (.cells #[.int .i64 0, .int .i64 0, .int .i64 0, .int .i64 0, .int .i64 0, .int .i64 0, .string ⟨#[]⟩] 91)) w.heap.size #[.int .i64 f, .int .i64 t] := RawAt.below Ro ((Below.refl _ _).alloc (Nat.le_refl _) _) Ro.lt; have RnA : RawAt 38 (wC.alloc (.cells #[.int .i64 0, .int .i64 0, .int .i64 0, .int .i64 0, .int .i64 0, .int .i64 0, .string ⟨#[]⟩] 91)) (w.heap.size + 1) #[.int .i64 f, .int .i64 t'] := RawAt.below Rn ((Below.refl _ _).alloc (Nat.le_refl _) _) Rn.lt; have R1A : RawAt 86 (wC.alloc (.cells #[.int .i64 0, .int .i64 0, .int .i64 0, .int .i64 0, .int .i64 0, .int .i64 0, .string ⟨#[]⟩] 91)) b1 #[.int .i64 k1, .int .i64 s1.n, .int .i64 s1.d0, .int .i64 s1.d1, .int .i64 s1.d2, .int .i64 s1.mx, .int .i64 s1.pl, .int .i64 z1] := RawAt.below R1 ((Below.refl _ _).alloc (Nat.le_refl _) _) R1.lt; have R2A : RawAt 86 (wC.alloc (.cells #[.int .i64 0, .int .i64 0, .int .i64 0, .int .i64 0, .int .i64 0, .int .i64 0, .string ⟨#[]⟩] 91)) b2 #[.int .i64 k2, .int .i64 s2.n, .int .i64 s2.d0, .int .i64 s2.d1, .int .i64 s2.d2, .int .i64 s2.mx, .int .i64 s2.pl, .int .i64 z2] := RawAt.below R2 ((Below.refl _ _).alloc (Nat.le_refl _) _) R2.lt))
          refine hK.out _ _ (by first | (with_reducible exact MK.out _ Ro Rn R1 R2) | (with_reducible exact MK.out _ RoE RnE R1E R2E) | (with_reducible exact MK.out _ RoA RnA R1A R2A) | (with_reducible exact MK.out _ RoS RnS R1S R2S)) (fun hHeld => ?_)
          clear hK K
          go_simp
          refine wpAnyH_ready (rs := [9]) (by kernel_rfl) (by simp) ?_
          refine AllReadyH.cons rfl (fun K hK => ?_) ?_
          rotate_left
          · exact AllReadyH.nil
          have RoS := raw_row_ne RoA RZ (Nat.ne_of_lt Ro.lt) #[.int .i64 tg, .int .i64 id, .int .i64 o0, .int .i64 o1, .int .i64 o2, .int .i64 omx, .string otx]
          have RnS := raw_row_ne RnA RZ (Nat.ne_of_lt Rn.lt) #[.int .i64 tg, .int .i64 id, .int .i64 o0, .int .i64 o1, .int .i64 o2, .int .i64 omx, .string otx]
          have R1S := raw_row_ne R1A RZ (Nat.ne_of_lt R1.lt) #[.int .i64 tg, .int .i64 id, .int .i64 o0, .int .i64 o1, .int .i64 o2, .int .i64 omx, .string otx]
          have R2S := raw_row_ne R2A RZ (Nat.ne_of_lt R2.lt) #[.int .i64 tg, .int .i64 id, .int .i64 o0, .int .i64 o1, .int .i64 o2, .int .i64 omx, .string otx]
          refine step_store_row rfl 91 _ _ rfl wC.heap.size #[.int .i64 tg, .int .i64 id, .int .i64 o0, .int .i64 o1, .int .i64 o2, .int .i64 omx, .string otx] rfl rfl RZ (by kernel_rfl) rfl (by simp [Value.oneCell']) ?_
          refine hK.out _ _ (by first | (with_reducible exact MK.out _ Ro Rn R1 R2) | (with_reducible exact MK.out _ RoE RnE R1E R2E) | (with_reducible exact MK.out _ RoA RnA R1A R2A) | (with_reducible exact MK.out _ RoS RnS R1S R2S)) (fun hHeld => ?_)
          clear hK K
          go_simp
          refine wpAnyH_take (i := 10) (v := ?_) rfl (by kernel_rfl) (by kernel_rfl) (by kernel_rfl) (fun _ _ _ h => h) (Or.inl ⟨by rfl, ?_⟩) hHeld ?_
          rotate_left
          · intro w hSw
            (try dsimp only at hSw)
            go_simp
            try with_reducible rfl
          go_simp
          refine wpAnyH_done (by kernel_rfl) ?_ _
          refine NoPanic.normal ?_
          go_wp2_with fail
          have RN := raw_row RZ #[.int .i64 tg, .int .i64 id, .int .i64 o0, .int .i64 o1, .int .i64 o2, .int .i64 omx, .string otx]
          have Ro := RoS
          have Rn := RnS
          have R1 := R1S
          have R2 := R2S
          have HN := Lib.hid (HB3.out.trans ((below_setRow (g := wC.heap.size) hWA (by first | exact Nat.le_refl _ | exact hW2.size) #[.int .i64 tg, .int .i64 id, .int .i64 o0, .int .i64 o1, .int .i64 o2, .int .i64 omx, .string otx]).mono HB3.out.size))
          go_meet
          exact ⟨wC.heap.size, rfl, Lib.hid RN, Lib.hid Ro, Lib.hid Rn, Lib.hid R1, Lib.hid R2, HN⟩
        · go_simp
          go_wp2_with (first | (go_at_call 36; ((refine (CK.out _ (HB3.out.trans (hWE.mono HB3.out.size))).mono ?_); rintro e wK ⟨rfl, hwK⟩); have hwK := hwK.symm; subst hwK) | (go_at_call 38; ((refine (CA2.out _ (HB3.out.trans (hWE.mono HB3.out.size))).mono ?_); rintro e wC ⟨⟨r, rfl⟩, bC⟩); have Ro := RawAt.below RoE bC RoE.lt; have Rn := RawAt.below RnE bC RnE.lt; have R1 := RawAt.below R1E bC R1E.lt; have R2 := RawAt.below R2E bC R2E.lt; have RZ : RawAt 91 wC wc.heap.size #[.int .i64 0, .int .i64 0, .int .i64 0, .int .i64 0, .int .i64 0, .int .i64 0, .string ⟨#[]⟩] := RawAt.below RZ0 bC RZ0.lt; have hW2 := hWE.trans (bC.mono hWE.size)))
          refine hK.out _ _ (by first | (with_reducible exact MK.out _ Ro Rn R1 R2) | (with_reducible exact MK.out _ RoE RnE R1E R2E) | (with_reducible exact MK.out _ RoA RnA R1A R2A) | (with_reducible exact MK.out _ RoS RnS R1S R2S)) (fun hHeld => ?_)
          clear hK K
          go_simp
          refine wpAnyH_ready (rs := [4]) (by kernel_rfl) (by simp) ?_
          refine AllReadyH.cons rfl (fun K hK => ?_) ?_
          rotate_left
          · exact AllReadyH.nil
          go_simp
          go_wp2_with (first | (go_at_call 36; ((refine (CK.out _ (HB3.out.trans (hWE.mono HB3.out.size))).mono ?_); rintro e wK ⟨rfl, hwK⟩); have hwK := hwK.symm; subst hwK) | (go_at_call 38; ((refine (CA2.out _ (HB3.out.trans (hWE.mono HB3.out.size))).mono ?_); rintro e wC ⟨⟨r, rfl⟩, bC⟩); have Ro := RawAt.below RoE bC RoE.lt; have Rn := RawAt.below RnE bC RnE.lt; have R1 := RawAt.below R1E bC R1E.lt; have R2 := RawAt.below R2E bC R2E.lt; have RZ : RawAt 91 wC wc.heap.size #[.int .i64 0, .int .i64 0, .int .i64 0, .int .i64 0, .int .i64 0, .int .i64 0, .string ⟨#[]⟩] := RawAt.below RZ0 bC RZ0.lt; have hW2 := hWE.trans (bC.mono hWE.size)))
          refine hK.out _ _ (by first | (with_reducible exact MK.out _ Ro Rn R1 R2) | (with_reducible exact MK.out _ RoE RnE R1E R2E) | (with_reducible exact MK.out _ RoA RnA R1A R2A) | (with_reducible exact MK.out _ RoS RnS R1S R2S)) (fun hHeld => ?_)
          clear hK K
          go_simp
          refine wpAnyH_take (i := 5) (v := ?_) rfl (by kernel_rfl) (by kernel_rfl) (by kernel_rfl) (fun _ _ _ h => h) (Or.inl ⟨by rfl, ?_⟩) hHeld ?_
          rotate_left
          · intro w hSw
            (try dsimp only at hSw)
            go_simp
            try with_reducible rfl
          go_simp
          refine wpAnyH_take (i := 6) (v := ?_) rfl (by kernel_rfl) (by kernel_rfl) (by kernel_rfl) (fun _ _ _ h => h) (Or.inl ⟨by rfl, ?_⟩) hHeld ?_
          rotate_left
          · intro w hSw
            (try dsimp only at hSw)
            go_simp
            try with_reducible rfl
          go_simp
          refine wpAnyH_take (i := 7) (v := ?_) rfl (by kernel_rfl) (by kernel_rfl) (by kernel_rfl) (fun _ _ _ h => h) (Or.inl ⟨by rfl, ?_⟩) hHeld ?_
          rotate_left
          · intro w hSw
            (try dsimp only at hSw)
            go_simp
            try with_reducible rfl
          go_simp
          refine wpAnyH_ready (rs := [9]) (by kernel_rfl) (by simp) ?_
          refine AllReadyH.cons rfl (fun K hK => ?_) ?_
          rotate_left
          · exact AllReadyH.nil
          have RoS := raw_row_ne Ro RZ (Nat.ne_of_lt ltRo) #[.int .i64 tg, .int .i64 id, .int .i64 o0, .int .i64 o1, .int .i64 o2, .int .i64 omx, .string otx]
          have RnS := raw_row_ne Rn RZ (Nat.ne_of_lt ltRn) #[.int .i64 tg, .int .i64 id, .int .i64 o0, .int .i64 o1, .int .i64 o2, .int .i64 omx, .string otx]
          have R1S := raw_row_ne R1 RZ (Nat.ne_of_lt ltR1) #[.int .i64 tg, .int .i64 id, .int .i64 o0, .int .i64 o1, .int .i64 o2, .int .i64 omx, .string otx]
          have R2S := raw_row_ne R2 RZ (Nat.ne_of_lt ltR2) #[.int .i64 tg, .int .i64 id, .int .i64 o0, .int .i64 o1, .int .i64 o2, .int .i64 omx, .string otx]
          refine step_store_row rfl 91 _ _ rfl wc.heap.size #[.int .i64 tg, .int .i64 id, .int .i64 o0, .int .i64 o1, .int .i64 o2, .int .i64 omx, .string otx] rfl rfl RZ (by kernel_rfl) rfl (by simp [Value.oneCell']) ?_
          refine hK.out _ _ (by first | (with_reducible exact MK.out _ Ro Rn R1 R2) | (with_reducible exact MK.out _ RoE RnE R1E R2E) | (with_reducible exact MK.out _ RoA RnA R1A R2A) | (with_reducible exact MK.out _ RoS RnS R1S R2S)) (fun hHeld => ?_)
          clear hK K
          go_simp
          refine wpAnyH_take (i := 10) (v := ?_) rfl (by kernel_rfl) (by kernel_rfl) (by kernel_rfl) (fun _ _ _ h => h) (Or.inl ⟨by rfl, ?_⟩) hHeld ?_
          rotate_left
          · intro w hSw
            (try dsimp only at hSw)
            go_simp
            try with_reducible rfl
          go_simp
          refine wpAnyH_done (by kernel_rfl) ?_ _
          refine NoPanic.normal ?_
          go_wp2_with fail
          have RN := raw_row RZ #[.int .i64 tg, .int .i64 id, .int .i64 o0, .int .i64 o1, .int .i64 o2, .int .i64 omx, .string otx]
          have Ro := RoS
          have Rn := RnS
          have R1 := R1S
          have R2 := R2S
          have HN := Lib.hid (HB3.out.trans ((below_setRow (g := wc.heap.size) hW2 (by first | exact Nat.le_refl _ | exact hW2.size) #[.int .i64 tg, .int .i64 id, .int .i64 o0, .int .i64 o1, .int .i64 o2, .int .i64 omx, .string otx]).mono HB3.out.size))
          go_meet
          exact ⟨wc.heap.size, rfl, Lib.hid RN, Lib.hid Ro, Lib.hid Rn, Lib.hid R1, Lib.hid R2, HN⟩
      · go_simp
        go_wp2_with (first | (go_at_call 36; ((refine (CK.out _ (HB3.out.trans (hWE.mono HB3.out.size))).mono ?_); rintro e wK ⟨rfl, hwK⟩); have hwK := hwK.symm; subst hwK) | (go_at_call 38; ((refine (CA2.out _ (HB3.out.trans (hWE.mono HB3.out.size))).mono ?_); rintro e wC ⟨⟨r, rfl⟩, bC⟩); have Ro := RawAt.below RoE bC RoE.lt; have Rn := RawAt.below RnE bC RnE.lt; have R1 := RawAt.below R1E bC R1E.lt; have R2 := RawAt.below R2E bC R2E.lt; have RZ : RawAt 91 wC wc.heap.size #[.int .i64 0, .int .i64 0, .int .i64 0, .int .i64 0, .int .i64 0, .int .i64 0, .string ⟨#[]⟩] := RawAt.below RZ0 bC RZ0.lt; have hW2 := hWE.trans (bC.mono hWE.size)))
        refine hK.out _ _ (by first | (with_reducible exact MK.out _ Ro Rn R1 R2) | (with_reducible exact MK.out _ RoE RnE R1E R2E) | (with_reducible exact MK.out _ RoA RnA R1A R2A) | (with_reducible exact MK.out _ RoS RnS R1S R2S)) (fun hHeld => ?_)
        clear hK K
        go_simp
        refine wpAnyH_ready (rs := [1]) (by kernel_rfl) (by simp) ?_
        refine AllReadyH.cons rfl (fun K hK => ?_) ?_
        rotate_left
        · exact AllReadyH.nil
        go_simp
        go_wp2_with (first | (go_at_call 36; ((refine (CK.out _ (HB3.out.trans (hWE.mono HB3.out.size))).mono ?_); rintro e wK ⟨rfl, hwK⟩); have hwK := hwK.symm; subst hwK) | (go_at_call 38; ((refine (CA2.out _ (HB3.out.trans (hWE.mono HB3.out.size))).mono ?_); rintro e wC ⟨⟨r, rfl⟩, bC⟩); have Ro := RawAt.below RoE bC RoE.lt; have Rn := RawAt.below RnE bC RnE.lt; have R1 := RawAt.below R1E bC R1E.lt; have R2 := RawAt.below R2E bC R2E.lt; have RZ : RawAt 91 wC wc.heap.size #[.int .i64 0, .int .i64 0, .int .i64 0, .int .i64 0, .int .i64 0, .int .i64 0, .string ⟨#[]⟩] := RawAt.below RZ0 bC RZ0.lt; have hW2 := hWE.trans (bC.mono hWE.size)))
        refine hK.out _ _ (by first | (with_reducible exact MK.out _ Ro Rn R1 R2) | (with_reducible exact MK.out _ RoE RnE R1E R2E) | (with_reducible exact MK.out _ RoA RnA R1A R2A) | (with_reducible exact MK.out _ RoS RnS R1S R2S)) (fun hHeld => ?_)
        clear hK K
        go_simp
        refine wpAnyH_ready (rs := [4]) (by kernel_rfl) (by simp) ?_
        refine AllReadyH.cons rfl (fun K hK => ?_) ?_
        rotate_left
        · exact AllReadyH.nil
        go_simp
        go_wp2_with (first | (go_at_call 36; ((refine (CK.out _ (HB3.out.trans (hWE.mono HB3.out.size))).mono ?_); rintro e wK ⟨rfl, hwK⟩); have hwK := hwK.symm; subst hwK) | (go_at_call 38; ((refine (CA2.out _ (HB3.out.trans (hWE.mono HB3.out.size))).mono ?_); rintro e wC ⟨⟨r, rfl⟩, bC⟩); have Ro := RawAt.below RoE bC RoE.lt; have Rn := RawAt.below RnE bC RnE.lt; have R1 := RawAt.below R1E bC R1E.lt; have R2 := RawAt.below R2E bC R2E.lt; have RZ : RawAt 91 wC wc.heap.size #[.int .i64 0, .int .i64 0, .int .i64 0, .int .i64 0, .int .i64 0, .int .i64 0, .string ⟨#[]⟩] := RawAt.below RZ0 bC RZ0.lt; have hW2 := hWE.trans (bC.mono hWE.size)))
        refine hK.out _ _ (by first | (with_reducible exact MK.out _ Ro Rn R1 R2) | (with_reducible exact MK.out _ RoE RnE R1E R2E) | (with_reducible exact MK.out _ RoA RnA R1A R2A) | (with_reducible exact MK.out _ RoS RnS R1S R2S)) (fun hHeld => ?_)
        clear hK K
        go_simp
        refine wpAnyH_take (i := 5) (v := ?_) rfl (by kernel_rfl) (by kernel_rfl) (by kernel_rfl) (fun _ _ _ h => h) (Or.inl ⟨by rfl, ?_⟩) hHeld ?_
        rotate_left
        · intro w hSw
          (try dsimp only at hSw)
          go_simp
          try with_reducible rfl
        go_simp
        refine wpAnyH_take (i := 6) (v := ?_) rfl (by kernel_rfl) (by kernel_rfl) (by kernel_rfl) (fun _ _ _ h => h) (Or.inl ⟨by rfl, ?_⟩) hHeld ?_
        rotate_left
        · intro w hSw
          (try dsimp only at hSw)
          go_simp
          try with_reducible rfl
        go_simp
        refine wpAnyH_take (i := 7) (v := ?_) rfl (by kernel_rfl) (by kernel_rfl) (by kernel_rfl) (fun _ _ _ h => h) (Or.inl ⟨by rfl, ?_⟩) hHeld ?_
        rotate_left
        · intro w hSw
          (try dsimp only at hSw)
          go_simp
          try with_reducible rfl
        go_simp
        refine wpAnyH_ready (rs := [9]) (by kernel_rfl) (by simp) ?_
        refine AllReadyH.cons rfl (fun K hK => ?_) ?_
        rotate_left
        · exact AllReadyH.nil
        have RoS := raw_row_ne Ro RZ (Nat.ne_of_lt ltRo) #[.int .i64 tg, .int .i64 id, .int .i64 o0, .int .i64 o1, .int .i64 o2, .int .i64 omx, .string otx]
        have RnS := raw_row_ne Rn RZ (Nat.ne_of_lt ltRn) #[.int .i64 tg, .int .i64 id, .int .i64 o0, .int .i64 o1, .int .i64 o2, .int .i64 omx, .string otx]
        have R1S := raw_row_ne R1 RZ (Nat.ne_of_lt ltR1) #[.int .i64 tg, .int .i64 id, .int .i64 o0, .int .i64 o1, .int .i64 o2, .int .i64 omx, .string otx]
        have R2S := raw_row_ne R2 RZ (Nat.ne_of_lt ltR2) #[.int .i64 tg, .int .i64 id, .int .i64 o0, .int .i64 o1, .int .i64 o2, .int .i64 omx, .string otx]
        refine step_store_row rfl 91 _ _ rfl wc.heap.size #[.int .i64 tg, .int .i64 id, .int .i64 o0, .int .i64 o1, .int .i64 o2, .int .i64 omx, .string otx] rfl rfl RZ (by kernel_rfl) rfl (by simp [Value.oneCell']) ?_
        refine hK.out _ _ (by first | (with_reducible exact MK.out _ Ro Rn R1 R2) | (with_reducible exact MK.out _ RoE RnE R1E R2E) | (with_reducible exact MK.out _ RoA RnA R1A R2A) | (with_reducible exact MK.out _ RoS RnS R1S R2S)) (fun hHeld => ?_)
        clear hK K
        go_simp
        refine wpAnyH_take (i := 10) (v := ?_) rfl (by kernel_rfl) (by kernel_rfl) (by kernel_rfl) (fun _ _ _ h => h) (Or.inl ⟨by rfl, ?_⟩) hHeld ?_
        rotate_left
        · intro w hSw
          (try dsimp only at hSw)
          go_simp
          try with_reducible rfl
        go_simp
        refine wpAnyH_done (by kernel_rfl) ?_ _
        refine NoPanic.normal ?_
        go_wp2_with fail
        have RN := raw_row RZ #[.int .i64 tg, .int .i64 id, .int .i64 o0, .int .i64 o1, .int .i64 o2, .int .i64 omx, .string otx]
        have Ro := RoS
        have Rn := RnS
        have R1 := R1S
        have R2 := R2S
        have HN := Lib.hid (HB3.out.trans ((below_setRow (g := wc.heap.size) hW2 (by first | exact Nat.le_refl _ | exact hW2.size) #[.int .i64 tg, .int .i64 id, .int .i64 o0, .int .i64 o1, .int .i64 o2, .int .i64 omx, .string otx]).mono HB3.out.size))
        go_meet
        exact ⟨wc.heap.size, rfl, Lib.hid RN, Lib.hid Ro, Lib.hid Rn, Lib.hid R1, Lib.hid R2, HN⟩
    case rest =>
    obtain ⟨b3, rfl, HR3, HRo, HRn, HR1, HR2, HB3⟩ := hcut
    clear CA2
    have c1 : wc.cell? ⟨w.heap.size, 1, none⟩ = some (.int .i64 t) := RawAt.cell HRo.out 1
    have c2 : wc.cell? ⟨b2, 2, none⟩ = some (.int .i64 s2.d0) := RawAt.cell HR2.out 2
    have c3 : wc.cell? ⟨b3, 2, none⟩ = some (.int .i64 o0) := RawAt.cell HR3.out 2
    have w7a : IntKind.i64.wrap (s2.d0 + o0) = s2.d0 + o0 := IntWalk.i64_in _ (by omega)
    have w7b : IntKind.i64.wrap (s2.d0 + o0 - t) = s2.d0 + o0 - t := IntWalk.i64_in _ (by omega)
    have w8 : IntKind.i64.wrap (t' + (s2.d0 + o0 - t)) = t' + (s2.d0 + o0 - t) := IntWalk.i64_in _ (by omega)
    have w9 : IntKind.i64.wrap ((k2 : Int) + 1) = (k2 : Int) + 1 := IntWalk.i64_in _ (by omega)
    go_wp2_with fail
    clear c1 c2 c3
    have hW2 : Below wc.heap.size wc wc.drew := (Below.refl _ _).drew
    have MK : Hid (∀ V : World, Below wc.heap.size wc V → (fun V : World => V.cell? ⟨w.heap.size + 1, 0, none⟩ = some (.int .i64 f) ∧ V.cell? ⟨w.heap.size + 1, 1, none⟩ = some (.int .i64 t') ∧ V.cell? ⟨b1, 2, none⟩ = some (.int .i64 s1.d0)) V) := Lib.hid fun V hV => by
      have a1 := RawAt.below HRn.out hV HRn.out.lt
      have a2 := RawAt.below HR1.out hV HR1.out.lt
      exact ⟨RawAt.cell a1 0, RawAt.cell a1 1, RawAt.cell a2 2⟩
    refine wp_region_noPanic ?_
    refine wp_region_held_drew (S := (fun V => V.cell? ⟨w.heap.size + 1, 0, none⟩ = some (.int .i64 f) ∧ V.cell? ⟨w.heap.size + 1, 1, none⟩ = some (.int .i64 t') ∧ V.cell? ⟨b1, 2, none⟩ = some (.int .i64 s1.d0))) (by kernel_rfl) (MK.out _ hW2) (fun hHeld => ?_)
    refine wpAnyH_take (i := 0) (v := ?_) rfl (by kernel_rfl) (by kernel_rfl) (by kernel_rfl) (fun _ _ _ h => h) (Or.inl ⟨by rfl, ?_⟩) hHeld ?_
    rotate_left
    · intro w hSw
      (try dsimp only at hSw)
      go_simp
      try with_reducible rfl
    go_simp
    refine wpAnyH_take (i := 1) (v := ?_) rfl (by kernel_rfl) (by kernel_rfl) (by kernel_rfl) (fun _ _ _ h => h) (Or.inl ⟨by rfl, ?_⟩) hHeld ?_
    rotate_left
    · intro w hSw
      (try dsimp only at hSw)
      go_simp
      try with_reducible rfl
    go_simp
    refine wpAnyH_take (i := 2) (v := ?_) rfl (by kernel_rfl) (by kernel_rfl) (by kernel_rfl) (fun _ _ _ h => h) (Or.inl ⟨by rfl, ?_⟩) hHeld ?_
    rotate_left
    · intro w hSw
      (try dsimp only at hSw)
      go_simp
      try with_reducible rfl
    go_simp
    refine wpAnyH_take (i := 3) (v := ?_) rfl (by kernel_rfl) (by kernel_rfl) (by kernel_rfl) (fun _ _ _ h => h) (Or.inl ⟨by rfl, ?_⟩) hHeld ?_
    rotate_left
    · intro w hSw
      (try dsimp only at hSw)
      go_simp
      try with_reducible rfl
    go_simp
    refine wpAnyH_take (i := 4) (v := ?_) rfl (by kernel_rfl) (by kernel_rfl) (by kernel_rfl) (fun _ _ _ h => h) (Or.inl ⟨by rfl, ?_⟩) hHeld ?_
    rotate_left
    · intro w hSw
      (try dsimp only at hSw)
      go_simp
      try with_reducible rfl
    go_simp
    refine wpAnyH_take (i := 6) (v := ?_) rfl (by kernel_rfl) (by kernel_rfl) (by kernel_rfl) (fun _ _ _ h => h) (Or.inl ⟨by rfl, ?_⟩) hHeld ?_
    rotate_left
    · intro w hSw
      (try dsimp only at hSw)
      go_simp
      try with_reducible rfl
    go_simp
    refine wpAnyH_take (i := 7) (v := ?_) rfl (by kernel_rfl) (by kernel_rfl) (by kernel_rfl) (fun _ _ _ h => h) (Or.inl ⟨by rfl, ?_⟩) hHeld ?_
    rotate_left
    · intro w hSw
      (try dsimp only at hSw)
      go_simp
      try with_reducible rfl
    go_simp
    refine wpAnyH_take (i := 8) (v := ?_) rfl (by kernel_rfl) (by kernel_rfl) (by kernel_rfl) (fun _ _ _ h => h) (Or.inl ⟨by rfl, ?_⟩) hHeld ?_
    rotate_left
    · intro w hSw
      (try dsimp only at hSw)
      go_simp
      try with_reducible rfl
    go_simp
    refine wpAnyH_take (i := 9) (v := ?_) rfl (by kernel_rfl) (by kernel_rfl) (by kernel_rfl) (fun _ _ _ h => h) (Or.inl ⟨by rfl, ?_⟩) hHeld ?_
    rotate_left
    · intro w hSw
      (try dsimp only at hSw)
      go_simp
      try with_reducible rfl
    go_simp
    refine wpAnyH_take (i := 10) (v := ?_) rfl (by kernel_rfl) (by kernel_rfl) (by kernel_rfl) (fun _ _ _ h => h) (Or.inl ⟨by rfl, ?_⟩) hHeld ?_
    rotate_left
    · intro w hSw
      (try dsimp only at hSw)
      go_simp
      try with_reducible rfl
    go_simp
    refine wpAnyH_take (i := 11) (v := ?_) rfl (by kernel_rfl) (by kernel_rfl) (by kernel_rfl) (fun _ _ _ h => h) (Or.inl ⟨by rfl, ?_⟩) hHeld ?_
    rotate_left
    · intro w hSw
      (try dsimp only at hSw)
      go_simp
      try with_reducible rfl
    go_simp
    refine wpAnyH_take (i := 12) (v := ?_) rfl (by kernel_rfl) (by kernel_rfl) (by kernel_rfl) (fun _ _ _ h => h) (Or.inl ⟨by rfl, ?_⟩) hHeld ?_
    rotate_left
    · intro w hSw
      (try dsimp only at hSw)
      go_simp
      try with_reducible rfl
    go_simp
    refine wpAnyH_take (i := 13) (v := ?_) rfl (by kernel_rfl) (by kernel_rfl) (by kernel_rfl) (fun _ _ _ h => h) (Or.inl ⟨by rfl, ?_⟩) hHeld ?_
    rotate_left
    · intro w hSw
      (try dsimp only at hSw)
      go_simp
      try with_reducible rfl
    go_simp
    refine wpAnyH_ready (rs := [5]) (by kernel_rfl) (by simp) ?_
    refine AllReadyH.cons rfl (fun K hK => ?_) ?_
    rotate_left
    · exact AllReadyH.nil
    go_simp
    go_wp2_with (first | (go_at_call 39; ((with_reducible refine (CIN.out _ (HB3.out.trans (hW2.mono HB3.out.size))).mono ?_); rintro e wV ⟨vV, rfl, oV, bV⟩); obtain ⟨AV, cV, rfl, hRV, _, hCV⟩ := rows_of_own encI_len (by omega) oV; have hW2 := hW2.trans (bV.mono hW2.size); clear oV) | (go_at_call 28; ((with_reducible refine (CPI.out AV cV _ hRV).mono ?_); rintro e wQ ⟨vQ, rfl, oQ, bQ⟩); have hW2 := hW2.trans (bQ.mono hW2.size)))
    refine hK.out _ _ (by with_reducible exact MK.out _ hW2) (fun hHeld => ?_)
    clear hK K
    go_simp
    refine wpAnyH_ready (rs := [14]) (by kernel_rfl) (by simp) ?_
    refine AllReadyH.cons rfl (fun K hK => ?_) ?_
    rotate_left
    · exact AllReadyH.nil
    go_simp
    go_wp2_with (first | (go_at_call 39; ((with_reducible refine (CIN.out _ (HB3.out.trans (hW2.mono HB3.out.size))).mono ?_); rintro e wV ⟨vV, rfl, oV, bV⟩); obtain ⟨AV, cV, rfl, hRV, _, hCV⟩ := rows_of_own encI_len (by omega) oV; have hW2 := hW2.trans (bV.mono hW2.size); clear oV) | (go_at_call 28; ((with_reducible refine (CPI.out AV cV _ hRV).mono ?_); rintro e wQ ⟨vQ, rfl, oQ, bQ⟩); have hW2 := hW2.trans (bQ.mono hW2.size)))
    refine hK.out _ _ (by with_reducible exact MK.out _ hW2) (fun hHeld => ?_)
    clear hK K
    go_simp
    refine wpAnyH_take (i := 15) (v := ?_) rfl (by kernel_rfl) (by kernel_rfl) (by kernel_rfl) (fun _ _ _ h => h) (Or.inl ⟨by rfl, ?_⟩) hHeld ?_
    rotate_left
    · intro w hSw
      (try dsimp only at hSw)
      go_simp
      try with_reducible rfl
    go_simp
    refine wpAnyH_done (by kernel_rfl) ?_ _
    refine NoPanic.normal ?_
    obtain ⟨AP, cP, rfl, hIP, _, hCP⟩ := its_of_own oQ
    have HB4 := Lib.hid (HB3.out.trans (hW2.mono HB3.out.size))
    have HR1 := Lib.hid (RawAt.below HR1.out hW2 HR1.out.lt)
    have HR2 := Lib.hid (RawAt.below HR2.out hW2 HR2.out.lt)
    have HIP := Lib.hid hIP
    have HCP := Lib.hid hCP
    clear hW2 MK oQ hIP hCP hRV hCV CPI CIN bV bQ HB3 HRo HRn HR3
    generalize hPP : wvP s1.d0 B (t' + (s2.d0 + o0 - t)) = P at *
    have HPP := Lib.hid hPP
    clear hPP
    obtain ⟨NP, hNP⟩ : ∃ NP, NP = P.length := ⟨_, rfl⟩
    rw [← hNP] at HCP CRP
    simp only [← hNP]
    have hW2 : Below wQ.heap.size wQ wQ.drew := (Below.refl _ _).drew
    have MK : Hid (∀ V : World, Below wQ.heap.size wQ V → (fun V : World => V.cell? ⟨b1, 0, none⟩ = some (.int .i64 k1) ∧ V.cell? ⟨b2, 0, none⟩ = some (.int .i64 k2)) V) := Lib.hid fun V hV => by
      have a1 := RawAt.below HR1.out hV HR1.out.lt
      have a2 := RawAt.below HR2.out hV HR2.out.lt
      exact ⟨RawAt.cell a1 0, RawAt.cell a2 0⟩
    have tf := fld_n
    clear hNP
    go_wp2_with fail
    refine wp_region_noPanic ?_
    refine wp_region_held_drew (S := (fun V => V.cell? ⟨b1, 0, none⟩ = some (.int .i64 k1) ∧ V.cell? ⟨b2, 0, none⟩ = some (.int .i64 k2))) (by kernel_rfl) (MK.out _ hW2) (fun hHeld => ?_)
    refine wpAnyH_take (i := 0) (v := ?_) rfl (by kernel_rfl) (by kernel_rfl) (by kernel_rfl) (fun _ _ _ h => h) (Or.inl ⟨by rfl, ?_⟩) hHeld ?_
    rotate_left
    · intro w hSw
      (try dsimp only at hSw)
      go_simp
      try with_reducible rfl
    go_simp
    refine wpAnyH_take (i := 2) (v := ?_) rfl (by kernel_rfl) (by kernel_rfl) (by kernel_rfl) (fun _ _ _ h => h) (Or.inl ⟨by rfl, ?_⟩) hHeld ?_
    rotate_left
    · intro w hSw
      (try dsimp only at hSw)
      go_simp
      try with_reducible rfl
    go_simp
    refine wpAnyH_take (i := 3) (v := ?_) rfl (by kernel_rfl) (by kernel_rfl) (by kernel_rfl) (fun _ _ _ h => h) (Or.inl ⟨by rfl, ?_⟩) hHeld ?_
    rotate_left
    · intro w hSw
      (try dsimp only at hSw)
      go_simp
      try with_reducible rfl
    go_simp
    refine wpAnyH_take (i := 4) (v := ?_) rfl (by kernel_rfl) (by kernel_rfl) (by kernel_rfl) (fun _ _ _ h => h) (Or.inl ⟨by rfl, ?_⟩) hHeld ?_
    rotate_left
    · intro w hSw
      (try dsimp only at hSw)
      go_simp
      try with_reducible rfl
    go_simp
    refine wpAnyH_take (i := 5) (v := ?_) rfl (by kernel_rfl) (by kernel_rfl) (by kernel_rfl) (fun _ _ _ h => h) (Or.inl ⟨by rfl, ?_⟩) hHeld ?_
    rotate_left
    · intro w hSw
      (try dsimp only at hSw)
      go_simp
      try with_reducible rfl
    go_simp
    refine wpAnyH_take (i := 6) (v := ?_) rfl (by kernel_rfl) (by kernel_rfl) (by kernel_rfl) (fun _ _ _ h => h) (Or.inl ⟨by rfl, ?_⟩) hHeld ?_
    rotate_left
    · intro w hSw
      (try dsimp only at hSw)
      go_simp
      try with_reducible rfl
    go_simp
    refine wpAnyH_take (i := 7) (v := ?_) rfl (by kernel_rfl) (by kernel_rfl) (by kernel_rfl) (fun _ _ _ h => h) (Or.inl ⟨by rfl, ?_⟩) hHeld ?_
    rotate_left
    · intro w hSw
      (try dsimp only at hSw)
      go_simp
      try with_reducible rfl
    go_simp
    refine wpAnyH_take (i := 12) (v := ?_) rfl (by kernel_rfl) (by kernel_rfl) (by kernel_rfl) (fun _ _ _ h => h) (Or.inl ⟨by rfl, ?_⟩) hHeld ?_
    rotate_left
    · intro w hSw
      (try dsimp only at hSw)
      go_simp
      try with_reducible rfl
    go_simp
    refine wpAnyH_ready (rs := [1]) (by kernel_rfl) (by simp) ?_
    refine AllReadyH.cons rfl (fun K hK => ?_) ?_
    rotate_left
    · exact AllReadyH.nil
    go_simp
    go_wp2_with (first | (go_at_call 36; ((with_reducible refine (CK.out _ (HB4.out.trans (hW2.mono HB4.out.size))).mono ?_); rintro e wK ⟨rfl, hwK⟩); have hwK := hwK.symm; subst hwK) | (go_at_call 41; ((with_reducible refine (CSM.out _ (HB4.out.trans (hW2.mono HB4.out.size))).mono ?_); rintro e wS ⟨rfl, bS⟩); have hW2 := hW2.trans (bS.mono hW2.size)) | (go_at_call 40; ((with_reducible refine (CRP.out AP cP _ (HB4.out.trans (hW2.mono HB4.out.size)) (HIP.out.below hW2) HCP.out).mono ?_); rintro e wR ⟨aR, hR, rfl, hTR, bR⟩); have hW2 := hW2.trans (bR.mono hW2.size)))
    refine hK.out _ _ (by with_reducible exact MK.out _ hW2) (fun hHeld => ?_)
    clear hK K
    go_simp
    refine wpAnyH_ready (rs := [8]) (by kernel_rfl) (by simp) ?_
    refine AllReadyH.cons rfl (fun K hK => ?_) ?_
    rotate_left
    · exact AllReadyH.nil
    go_simp
    go_wp2_with (first | (go_at_call 36; ((with_reducible refine (CK.out _ (HB4.out.trans (hW2.mono HB4.out.size))).mono ?_); rintro e wK ⟨rfl, hwK⟩); have hwK := hwK.symm; subst hwK) | (go_at_call 41; ((with_reducible refine (CSM.out _ (HB4.out.trans (hW2.mono HB4.out.size))).mono ?_); rintro e wS ⟨rfl, bS⟩); have hW2 := hW2.trans (bS.mono hW2.size)) | (go_at_call 40; ((with_reducible refine (CRP.out AP cP _ (HB4.out.trans (hW2.mono HB4.out.size)) (HIP.out.below hW2) HCP.out).mono ?_); rintro e wR ⟨aR, hR, rfl, hTR, bR⟩); have hW2 := hW2.trans (bR.mono hW2.size)))
    refine hK.out _ _ (by with_reducible exact MK.out _ hW2) (fun hHeld => ?_)
    clear hK K
    go_simp
    refine wpAnyH_ready (rs := [9]) (by kernel_rfl) (by simp) ?_
    refine AllReadyH.cons rfl (fun K hK => ?_) ?_
    rotate_left
    · exact AllReadyH.nil
    go_simp
    go_wp2_with (first | (go_at_call 36; ((with_reducible refine (CK.out _ (HB4.out.trans (hW2.mono HB4.out.size))).mono ?_); rintro e wK ⟨rfl, hwK⟩); have hwK := hwK.symm; subst hwK) | (go_at_call 41; ((with_reducible refine (CSM.out _ (HB4.out.trans (hW2.mono HB4.out.size))).mono ?_); rintro e wS ⟨rfl, bS⟩); have hW2 := hW2.trans (bS.mono hW2.size)) | (go_at_call 40; ((with_reducible refine (CRP.out AP cP _ (HB4.out.trans (hW2.mono HB4.out.size)) (HIP.out.below hW2) HCP.out).mono ?_); rintro e wR ⟨aR, hR, rfl, hTR, bR⟩); have hW2 := hW2.trans (bR.mono hW2.size)))
    refine hK.out _ _ (by with_reducible exact MK.out _ hW2) (fun hHeld => ?_)
    clear hK K
    go_simp
    refine wpAnyH_take (i := 10) (v := ?_) rfl (by kernel_rfl) (by kernel_rfl) (by kernel_rfl) (fun _ _ _ h => h) (Or.inl ⟨by rfl, ?_⟩) hHeld ?_
    rotate_left
    · intro w hSw
      (try dsimp only at hSw)
      go_simp
      try with_reducible rfl
    go_simp
    refine wpAnyH_ready (rs := [11]) (by kernel_rfl) (by simp) ?_
    refine AllReadyH.cons rfl (fun K hK => ?_) ?_
    rotate_left
    · exact AllReadyH.nil
    go_simp
    go_wp2_with (first | (go_at_call 36; ((with_reducible refine (CK.out _ (HB4.out.trans (hW2.mono HB4.out.size))).mono ?_); rintro e wK ⟨rfl, hwK⟩); have hwK := hwK.symm; subst hwK) | (go_at_call 41; ((with_reducible refine (CSM.out _ (HB4.out.trans (hW2.mono HB4.out.size))).mono ?_); rintro e wS ⟨rfl, bS⟩); have hW2 := hW2.trans (bS.mono hW2.size)) | (go_at_call 40; ((with_reducible refine (CRP.out AP cP _ (HB4.out.trans (hW2.mono HB4.out.size)) (HIP.out.below hW2) HCP.out).mono ?_); rintro e wR ⟨aR, hR, rfl, hTR, bR⟩); have hW2 := hW2.trans (bR.mono hW2.size)))
    refine hK.out _ _ (by with_reducible exact MK.out _ hW2) (fun hHeld => ?_)
    clear hK K
    go_simp
    refine wpAnyH_ready (rs := [13]) (by kernel_rfl) (by simp) ?_
    refine AllReadyH.cons rfl (fun K hK => ?_) ?_
    rotate_left
    · exact AllReadyH.nil
    go_simp
    go_wp2_with (first | (go_at_call 36; ((with_reducible refine (CK.out _ (HB4.out.trans (hW2.mono HB4.out.size))).mono ?_); rintro e wK ⟨rfl, hwK⟩); have hwK := hwK.symm; subst hwK) | (go_at_call 41; ((with_reducible refine (CSM.out _ (HB4.out.trans (hW2.mono HB4.out.size))).mono ?_); rintro e wS ⟨rfl, bS⟩); have hW2 := hW2.trans (bS.mono hW2.size)) | (go_at_call 40; ((with_reducible refine (CRP.out AP cP _ (HB4.out.trans (hW2.mono HB4.out.size)) (HIP.out.below hW2) HCP.out).mono ?_); rintro e wR ⟨aR, hR, rfl, hTR, bR⟩); have hW2 := hW2.trans (bR.mono hW2.size)))
    refine hK.out _ _ (by with_reducible exact MK.out _ hW2) (fun hHeld => ?_)
    clear hK K
    go_simp
    refine wpAnyH_take (i := 14) (v := ?_) rfl (by kernel_rfl) (by kernel_rfl) (by kernel_rfl) (fun _ _ _ h => h) (Or.inl ⟨by rfl, ?_⟩) hHeld ?_
    rotate_left
    · intro w hSw
      (try dsimp only at hSw)
      go_simp
      try with_reducible rfl
    go_simp
    refine wpAnyH_take (i := 15) (v := ?_) rfl (by kernel_rfl) (by kernel_rfl) (by kernel_rfl) (fun _ _ _ h => h) (Or.inl ⟨by rfl, ?_⟩) hHeld ?_
    rotate_left
    · intro w hSw
      (try dsimp only at hSw)
      go_simp
      try with_reducible rfl
    go_simp
    refine wpAnyH_take (i := 16) (v := ?_) rfl (by kernel_rfl) (by kernel_rfl) (by kernel_rfl) (fun _ _ _ h => h) (Or.inl ⟨by rfl, ?_⟩) hHeld ?_
    rotate_left
    · intro w hSw
      (try dsimp only at hSw)
      go_simp
      try with_reducible rfl
    go_simp
    refine wpAnyH_take (i := 17) (v := ?_) rfl (by kernel_rfl) (by kernel_rfl) (by kernel_rfl) (fun _ _ _ h => h) (Or.inl ⟨by rfl, ?_⟩) hHeld ?_
    rotate_left
    · intro w hSw
      (try dsimp only at hSw)
      go_simp
      try with_reducible rfl
    go_simp
    refine wpAnyH_take (i := 18) (v := ?_) rfl (by kernel_rfl) (by kernel_rfl) (by kernel_rfl) (fun _ _ _ h => h) (Or.inl ⟨by rfl, ?_⟩) hHeld ?_
    rotate_left
    · intro w hSw
      (try dsimp only at hSw)
      go_simp
      try with_reducible rfl
    go_simp
    refine wpAnyH_done (by kernel_rfl) ?_ _
    refine NoPanic.normal ?_
    have HTR := Lib.hid hTR
    have HB5 := Lib.hid (HB4.out.trans (hW2.mono HB4.out.size))
    have x5 : Below wR.heap.size wR (wR.alloc (.cells #[.pointer (some aR)] 74)) := (Below.refl _ _).alloc (Nat.le_refl _) _
    have HF : Hid (WvAt (wR.alloc (.cells #[.pointer (some aR)] 74)) (some ⟨wR.heap.size, 0, none⟩) (l.take k1 ++ P ++ l.drop Y) hR) := Lib.hid (.inr ⟨wR.heap.size, some aR, rfl, heap_alloc_new wR _, HTR.out.below x5⟩)
    have HB6 := Lib.hid (HB5.out.trans (x5.mono HB5.out.size))
    clear hTR hW2 MK x5 bR bS
    go_wp2
    go_ret2
    exact ⟨_, hR, rfl, by rw [HPP.out]; exact HF.out, HB6.out⟩
end Go.Proofs.YtbeclkhahdcmbaaGreat
