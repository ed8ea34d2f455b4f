/- Creases: the contracts of Out and In. -/
import Derived.Test.YtjkmkobnfhepaaaGreatCrA
namespace Go.Proofs.YtjkmkobnfhepaaaGreat
open Go.RowKit
set_option linter.unusedVariables false
def coutP (l : List I7) (v : Int) : Int := if (ith l (wfnd 0 l v 1)).tag = 1 then wdsum 1 (l.take (wfnd 0 l v 1)) else wdsum 1 (l.take (wfnd 0 l v 1)) + v - wdsum 0 (l.take (wfnd 0 l v 1))
def cinP (l : List I7) (v : Int) : Int := if (ith l (wfnd 1 l v 0)).tag = 1 ∧ 0 < v - wdsum 1 (l.take (wfnd 1 l v 0)) then wdsum 0 (l.take (wfnd 1 l v 0)) + (ith l (wfnd 1 l v 0)).d0 else wdsum 0 (l.take (wfnd 1 l v 0)) + (v - wdsum 1 (l.take (wfnd 1 l v 0)))
theorem ith_okn {l : List I7} (ho : Okl l) (k : Nat) : Okn (ith l k).d0 := by
  by_cases h : k < l.length
  · rw [show ith l k = l[k] from by simp [ith, List.getD, h]]
    exact (ho _ (List.getElem_mem h)).1.1
  · rw [show ith l k = default from by simp [ith, List.getD, Nat.le_of_not_lt h]]
    exact ⟨Int.le_refl _, by decide⟩
set_option maxHeartbeats 8000000 in
set_option maxRecDepth 100000 in
theorem crOut_yes {p : Option Addr} {l : List I7} {h : Nat} {w : World} (ht : CrAt w p l h) (v : Int) (hv : WvAsk 0 l v) :
    Calls Tryz.prog 22 #[.pointer p, .int .i64 v] w fun e w' => e = .returned (.tuple #[.int .i64 (coutP l v), .int .i64 0]) ∧ Below w.heap.size w w' := by
  obtain ⟨q, hq, hk⟩ := crkept ht
  obtain ⟨hol, hll⟩ := hq.okl
  have CK := Lib.hid hk
  have CS := Lib.hid (tfind_any q l h ((0 : Nat) : Int) v 1 w hq ((wv_ask hol (by omega) v 1).2 ⟨hv, .inr rfl⟩))
  have CA := Lib.hid fun (k : Nat) (W : World) (hW : Below w.heap.size w W) => wat_any q l h k W (hq.below hW)
  have HFI := Lib.hid (wfnd_is hol (show 0 < 2 by omega) v 1)
  have HTS := Lib.hid (wtake_sums hol hll)
  have HOK := Lib.hid (ith_okn hol (wfnd 0 l v 1))
  have hvb := (wdsum_bd hol hll 0 (by omega)).2
  have hv1 := hv.1
  have hv2 := hv.2
  clear hk hq ht hv hol
  go_enter Tryz.func22, Tryz.ntmps22
  go_wp2_with fail
  refine (CK.out _ (Below.refl _ _)).mono ?_
  rintro e w1 ⟨rfl, rfl⟩
  go_wp2_with fail
  refine CS.out.mono ?_
  rintro e w2 ⟨k, z, hf, hz1, hz2, rfl, b2⟩
  obtain rfl := hf.unique HFI.out
  obtain ⟨t1, t2, t3, t4, t5, t6⟩ := HTS.out (wfnd 0 l v 1)
  have HOUT : Hid (coutP l v = if (ith l (wfnd 0 l v 1)).tag = 1 then (sall (l.take (wfnd 0 l v 1))).d1 else (sall (l.take (wfnd 0 l v 1))).d1 + v - (sall (l.take (wfnd 0 l v 1))).d0) := Lib.hid (by rw [t1, t2]; rfl)
  rw [← t1] at t3 t4
  rw [← t2] at t5 t6
  have CA2 := Lib.hid (CA.out (wfnd 0 l v 1))
  clear t1 t2 hf HFI HTS CS CA
  generalize wfnd 0 l v 1 = k at *
  generalize sall (l.take k) = s at *
  generalize ith l k = own at *
  obtain ⟨tg, id, o0, o1, o2, omx, otx⟩ := own
  have hok := HOK.out
  unfold Okn at hok
  simp only at hok HOUT
  have R3 : RawAt 116 (w2.alloc (.cells #[.int .i64 k, .int .i64 s.n, .int .i64 s.d0, .int .i64 s.d1, .int .i64 s.d2, .int .i64 s.mx, .int .i64 s.pl, .int .i64 z] 116)) w2.heap.size #[.int .i64 k, .int .i64 s.n, .int .i64 s.d0, .int .i64 s.d1, .int .i64 s.d2, .int .i64 s.mx, .int .i64 s.pl, .int .i64 z] := heap_alloc_new w2 _
  have x3 : Below w2.heap.size w2 (w2.alloc (.cells #[.int .i64 k, .int .i64 s.n, .int .i64 s.d0, .int .i64 s.d1, .int .i64 s.d2, .int .i64 s.mx, .int .i64 s.pl, .int .i64 z] 116)) := (Below.refl _ _).alloc (Nat.le_refl _) _
  have HB3 := Lib.hid (b2.trans (x3.mono b2.size))
  have HR3 := Lib.hid R3
  unfold vcs
  clear R3 x3 b2 HOK
  go_upto_region 4 with fail
  generalize hWD : (w2.alloc (.cells #[.int .i64 k, .int .i64 s.n, .int .i64 s.d0, .int .i64 s.d1, .int .i64 s.d2, .int .i64 s.mx, .int .i64 s.pl, .int .i64 z] 116)) = W3 at *
  have hbp := HR3.out.lt
  generalize w2.heap.size = bp at *
  go_cut [8, 9] from 11 (fun s9 s10 wx => ∃ bx : Nat, s9 = .pointer (some ⟨bx, 0, none⟩) ∧ Hid (RawAt 120 wx bx #[.int .i64 tg, .int .i64 id, .int .i64 o0, .int .i64 o1, .int .i64 o2, .int .i64 omx, .string otx]) ∧ Hid (RawAt 116 wx bp #[.int .i64 k, .int .i64 s.n, .int .i64 s.d0, .int .i64 s.d1, .int .i64 s.d2, .int .i64 s.mx, .int .i64 s.pl, .int .i64 z]) ∧ Hid (Below w1.heap.size w1 wx))
  case first =>
    have Rp := HR3.out
    have c0 : W3.cell? ⟨bp, 0, none⟩ = some (.int .i64 k) := RawAt.cell Rp 0
    have hW2 : Below W3.heap.size W3 W3.drew := (Below.refl _ _).drew
    have Rp : RawAt 116 W3.drew bp #[.int .i64 k, .int .i64 s.n, .int .i64 s.d0, .int .i64 s.d1, .int .i64 s.d2, .int .i64 s.mx, .int .i64 s.pl, .int .i64 z] := Rp
    have ltRp := Rp.lt
    have MK : Hid (∀ V : World, RawAt 116 V bp #[.int .i64 k, .int .i64 s.n, .int .i64 s.d0, .int .i64 s.d1, .int .i64 s.d2, .int .i64 s.mx, .int .i64 s.pl, .int .i64 z] → (fun V : World => V.cell? ⟨bp, 0, none⟩ = some (.int .i64 k)) V) := Lib.hid fun V hRp => RawAt.cell hRp 0
    have RZ0 : RawAt 120 (W3.alloc (.cells #[.int .i64 0, .int .i64 0, .int .i64 0, .int .i64 0, .int .i64 0, .int .i64 0, .string ⟨#[]⟩] 120)).drew W3.heap.size #[.int .i64 0, .int .i64 0, .int .i64 0, .int .i64 0, .int .i64 0, .int .i64 0, .string ⟨#[]⟩] := heap_alloc_new W3 _
    have hWE : Below W3.heap.size W3 (W3.alloc (.cells #[.int .i64 0, .int .i64 0, .int .i64 0, .int .i64 0, .int .i64 0, .int .i64 0, .string ⟨#[]⟩] 120)).drew := ((Below.refl _ _).alloc (Nat.le_refl _) _).drew
    have RpE : RawAt 116 (W3.alloc (.cells #[.int .i64 0, .int .i64 0, .int .i64 0, .int .i64 0, .int .i64 0, .int .i64 0, .string ⟨#[]⟩] 120)).drew bp #[.int .i64 k, .int .i64 s.n, .int .i64 s.d0, .int .i64 s.d1, .int .i64 s.d2, .int .i64 s.mx, .int .i64 s.pl, .int .i64 z] := RawAt.below Rp ((Below.refl _ _).alloc (Nat.le_refl _) _) Rp.lt
    refine wp_region_noPanic ?_
    refine wp_region_held_drew (S := (fun V => V.cell? ⟨bp, 0, none⟩ = some (.int .i64 k))) (by kernel_rfl) (MK.out _ Rp) (fun hHeld => ?_)
    refine wpAnyH_take (i := 0) (v := ?_) rfl (by kernel_rfl) (by kernel_rfl) (by kernel_rfl) (fun _ _ _ h => h) (Or.inl ⟨by rfl, ?_⟩) hHeld ?_
    rotate_left
    · intro w hSw; (try dsimp only at hSw); go_simp; try with_reducible rfl
    go_simp
    refine wpAnyH_take (i := 2) (v := ?_) rfl (by kernel_rfl) (by kernel_rfl) (by kernel_rfl) (fun _ _ _ h => h) (Or.inl ⟨by rfl, ?_⟩) hHeld ?_
    rotate_left
    · intro w hSw; (try dsimp only at hSw); go_simp; try with_reducible rfl
    go_simp
    refine wpAnyH_take (i := 3) (v := ?_) rfl (by kernel_rfl) (by kernel_rfl) (by kernel_rfl) (fun _ _ _ h => h) (Or.inl ⟨by rfl, ?_⟩) hHeld ?_
    rotate_left
    · intro w hSw; (try dsimp only at hSw); go_simp; try with_reducible rfl
    go_simp
    refine wpAnyH_ready (rs := [1, 8]) (by kernel_rfl) (by simp) ?_
    refine AllReadyH.cons rfl (fun K hK => ?_) (AllReadyH.cons rfl (fun K hK => ?_) AllReadyH.nil)
    · go_simp
      go_wp2_with (first | (go_at_call 42; ((refine (CK.out _ (HB3.out.trans (hW2.mono HB3.out.size))).mono ?_); rintro e wK ⟨rfl, hwK⟩); have hwK := hwK.symm; subst hwK) | (go_at_call 59; ((refine (CA2.out _ (HB3.out.trans (hW2.mono HB3.out.size))).mono ?_); rintro e wC ⟨⟨r, rfl⟩, bC⟩); unfold ics; have Rp := RawAt.below Rp bC Rp.lt; have hW2 := hW2.trans (bC.mono hW2.size); have RZ : RawAt 120 (wC.alloc (.cells #[.int .i64 0, .int .i64 0, .int .i64 0, .int .i64 0, .int .i64 0, .int .i64 0, .string ⟨#[]⟩] 120)) wC.heap.size #[.int .i64 0, .int .i64 0, .int .i64 0, .int .i64 0, .int .i64 0, .int .i64 0, .string ⟨#[]⟩] := heap_alloc_new wC _; have hWA := hW2.alloc hW2.size (.cells #[.int .i64 0, .int .i64 0, .int .i64 0, .int .i64 0, .int .i64 0, .int .i64 0, .string ⟨#[]⟩] 120); have RpA : RawAt 116 (wC.alloc (.cells #[.int .i64 0, .int .i64 0, .int .i64 0, .int .i64 0, .int .i64 0, .int .i64 0, .string ⟨#[]⟩] 120)) bp #[.int .i64 k, .int .i64 s.n, .int .i64 s.d0, .int .i64 s.d1, .int .i64 s.d2, .int .i64 s.mx, .int .i64 s.pl, .int .i64 z] := RawAt.below Rp ((Below.refl _ _).alloc (Nat.le_refl _) _) Rp.lt))
      refine hK.out _ _ (by first | (with_reducible exact MK.out _ Rp) | (with_reducible exact MK.out _ RpE) | (with_reducible exact MK.out _ RpA) | (with_reducible exact MK.out _ RpS)) (fun hHeld => ?_)
      clear hK K
      go_simp
      refine wpAnyH_ready (rs := [4, 8]) (by kernel_rfl) (by simp) ?_
      refine AllReadyH.cons rfl (fun K hK => ?_) (AllReadyH.cons rfl (fun K hK => ?_) AllReadyH.nil)
      · go_simp
        go_wp2_with (first | (go_at_call 42; ((refine (CK.out _ (HB3.out.trans (hW2.mono HB3.out.size))).mono ?_); rintro e wK ⟨rfl, hwK⟩); have hwK := hwK.symm; subst hwK) | (go_at_call 59; ((refine (CA2.out _ (HB3.out.trans (hW2.mono HB3.out.size))).mono ?_); rintro e wC ⟨⟨r, rfl⟩, bC⟩); unfold ics; have Rp := RawAt.below Rp bC Rp.lt; have hW2 := hW2.trans (bC.mono hW2.size); have RZ : RawAt 120 (wC.alloc (.cells #[.int .i64 0, .int .i64 0, .int .i64 0, .int .i64 0, .int .i64 0, .int .i64 0, .string ⟨#[]⟩] 120)) wC.heap.size #[.int .i64 0, .int .i64 0, .int .i64 0, .int .i64 0, .int .i64 0, .int .i64 0, .string ⟨#[]⟩] := heap_alloc_new wC _; have hWA := hW2.alloc hW2.size (.cells #[.int .i64 0, .int .i64 0, .int .i64 0, .int .i64 0, .int .i64 0, .int .i64 0, .string ⟨#[]⟩] 120); have RpA : RawAt 116 (wC.alloc (.cells #[.int .i64 0, .int .i64 0, .int .i64 0, .int .i64 0, .int .i64 0, .int .i64 0, .string ⟨#[]⟩] 120)) bp #[.int .i64 k, .int .i64 s.n, .int .i64 s.d0, .int .i64 s.d1, .int .i64 s.d2, .int .i64 s.mx, .int .i64 s.pl, .int .i64 z] := RawAt.below Rp ((Below.refl _ _).alloc (Nat.le_refl _) _) Rp.lt))
        refine hK.out _ _ (by first | (with_reducible exact MK.out _ Rp) | (with_reducible exact MK.out _ RpE) | (with_reducible exact MK.out _ RpA) | (with_reducible exact MK.out _ RpS)) (fun hHeld => ?_)
        clear hK K
        go_simp
        refine wpAnyH_take (i := 5) (v := ?_) rfl (by kernel_rfl) (by kernel_rfl) (by kernel_rfl) (fun _ _ _ h => h) (Or.inl ⟨by rfl, ?_⟩) hHeld ?_
        rotate_left
        · intro w hSw; (try dsimp only at hSw); go_simp; try with_reducible rfl
        go_simp
        refine wpAnyH_take (i := 6) (v := ?_) rfl (by kernel_rfl) (by kernel_rfl) (by kernel_rfl) (fun _ _ _ h => h) (Or.inl ⟨by rfl, ?_⟩) hHeld ?_
        rotate_left
        · intro w hSw; (try dsimp only at hSw); go_simp; try with_reducible rfl
        go_simp
        refine wpAnyH_take (i := 7) (v := ?_) rfl (by kernel_rfl) (by kernel_rfl) (by kernel_rfl) (fun _ _ _ h => h) (Or.inl ⟨by rfl, ?_⟩) hHeld ?_
        rotate_left
        · intro w hSw; (try dsimp only at hSw); go_simp; try with_reducible rfl
        go_simp
        refine wpAnyH_ready (rs := [8]) (by kernel_rfl) (by simp) ?_
        refine AllReadyH.cons rfl (fun K hK => ?_) ?_
        rotate_left
        · exact AllReadyH.nil
        go_simp
        go_wp2_with (first | (go_at_call 42; ((refine (CK.out _ (HB3.out.trans (hW2.mono HB3.out.size))).mono ?_); rintro e wK ⟨rfl, hwK⟩); have hwK := hwK.symm; subst hwK) | (go_at_call 59; ((refine (CA2.out _ (HB3.out.trans (hW2.mono HB3.out.size))).mono ?_); rintro e wC ⟨⟨r, rfl⟩, bC⟩); unfold ics; have Rp := RawAt.below Rp bC Rp.lt; have hW2 := hW2.trans (bC.mono hW2.size); have RZ : RawAt 120 (wC.alloc (.cells #[.int .i64 0, .int .i64 0, .int .i64 0, .int .i64 0, .int .i64 0, .int .i64 0, .string ⟨#[]⟩] 120)) wC.heap.size #[.int .i64 0, .int .i64 0, .int .i64 0, .int .i64 0, .int .i64 0, .int .i64 0, .string ⟨#[]⟩] := heap_alloc_new wC _; have hWA := hW2.alloc hW2.size (.cells #[.int .i64 0, .int .i64 0, .int .i64 0, .int .i64 0, .int .i64 0, .int .i64 0, .string ⟨#[]⟩] 120); have RpA : RawAt 116 (wC.alloc (.cells #[.int .i64 0, .int .i64 0, .int .i64 0, .int .i64 0, .int .i64 0, .int .i64 0, .string ⟨#[]⟩] 120)) bp #[.int .i64 k, .int .i64 s.n, .int .i64 s.d0, .int .i64 s.d1, .int .i64 s.d2, .int .i64 s.mx, .int .i64 s.pl, .int .i64 z] := RawAt.below Rp ((Below.refl _ _).alloc (Nat.le_refl _) _) Rp.lt))
        refine hK.out _ _ (by first | (with_reducible exact MK.out _ Rp) | (with_reducible exact MK.out _ RpE) | (with_reducible exact MK.out _ RpA) | (with_reducible exact MK.out _ RpS)) (fun hHeld => ?_)
        clear hK K
        go_simp
        refine wpAnyH_ready (rs := [9]) (by kernel_rfl) (by simp) ?_
        refine AllReadyH.cons rfl (fun K hK => ?_) ?_
        rotate_left
        · exact AllReadyH.nil
        have RpS := raw_row_ne RpA RZ (Nat.ne_of_lt Rp.lt) #[.int .i64 tg, .int .i64 id, .int .i64 o0, .int .i64 o1, .int .i64 o2, .int .i64 omx, .string otx]
        refine step_store_row rfl 120 _ _ rfl wC.heap.size #[.int .i64 tg, .int .i64 id, .int .i64 o0, .int .i64 o1, .int .i64 o2, .int .i64 omx, .string otx] rfl rfl RZ (by kernel_rfl) rfl (by simp [Value.oneCell']) ?_
        refine hK.out _ _ (by first | (with_reducible exact MK.out _ Rp) | (with_reducible exact MK.out _ RpE) | (with_reducible exact MK.out _ RpA) | (with_reducible exact MK.out _ RpS)) (fun hHeld => ?_)
        clear hK K
        go_simp
        refine wpAnyH_take (i := 10) (v := ?_) rfl (by kernel_rfl) (by kernel_rfl) (by kernel_rfl) (fun _ _ _ h => h) (Or.inl ⟨by rfl, ?_⟩) hHeld ?_
        rotate_left
        · intro w hSw; (try dsimp only at hSw); go_simp; try with_reducible rfl
        go_simp
        refine wpAnyH_done (by kernel_rfl) ?_ _
        refine NoPanic.normal ?_
        go_wp2_with fail
        have RN := raw_row RZ #[.int .i64 tg, .int .i64 id, .int .i64 o0, .int .i64 o1, .int .i64 o2, .int .i64 omx, .string otx]
        have Rp := RpS
        have HN := Lib.hid (HB3.out.trans ((below_setRow (g := wC.heap.size) hWA (by first | exact Nat.le_refl _ | exact hW2.size) #[.int .i64 tg, .int .i64 id, .int .i64 o0, .int .i64 o1, .int .i64 o2, .int .i64 omx, .string otx]).mono HB3.out.size))
        go_meet
        exact ⟨wC.heap.size, rfl, Lib.hid RN, Lib.hid Rp, HN⟩
      · go_simp
        go_wp2_with (first | (go_at_call 42; ((refine (CK.out _ (HB3.out.trans (hWE.mono HB3.out.size))).mono ?_); rintro e wK ⟨rfl, hwK⟩); have hwK := hwK.symm; subst hwK) | (go_at_call 59; ((refine (CA2.out _ (HB3.out.trans (hWE.mono HB3.out.size))).mono ?_); rintro e wC ⟨⟨r, rfl⟩, bC⟩); unfold ics; have Rp := RawAt.below RpE bC RpE.lt; have RZ : RawAt 120 wC W3.heap.size #[.int .i64 0, .int .i64 0, .int .i64 0, .int .i64 0, .int .i64 0, .int .i64 0, .string ⟨#[]⟩] := RawAt.below RZ0 bC RZ0.lt; have hW2 := hWE.trans (bC.mono hWE.size)))
        refine hK.out _ _ (by first | (with_reducible exact MK.out _ Rp) | (with_reducible exact MK.out _ RpE) | (with_reducible exact MK.out _ RpA) | (with_reducible exact MK.out _ RpS)) (fun hHeld => ?_)
        clear hK K
        go_simp
        refine wpAnyH_ready (rs := [4]) (by kernel_rfl) (by simp) ?_
        refine AllReadyH.cons rfl (fun K hK => ?_) ?_
        rotate_left
        · exact AllReadyH.nil
        go_simp
        go_wp2_with (first | (go_at_call 42; ((refine (CK.out _ (HB3.out.trans (hWE.mono HB3.out.size))).mono ?_); rintro e wK ⟨rfl, hwK⟩); have hwK := hwK.symm; subst hwK) | (go_at_call 59; ((refine (CA2.out _ (HB3.out.trans (hWE.mono HB3.out.size))).mono ?_); rintro e wC ⟨⟨r, rfl⟩, bC⟩); unfold ics; have Rp := RawAt.below RpE bC RpE.lt; have RZ : RawAt 120 wC W3.heap.size #[.int .i64 0, .int .i64 0, .int .i64 0, .int .i64 0, .int .i64 0, .int .i64 0, .string ⟨#[]⟩] := RawAt.below RZ0 bC RZ0.lt; have hW2 := hWE.trans (bC.mono hWE.size)))
        refine hK.out _ _ (by first | (with_reducible exact MK.out _ Rp) | (with_reducible exact MK.out _ RpE) | (with_reducible exact MK.out _ RpA) | (with_reducible exact MK.out _ RpS)) (fun hHeld => ?_)
        clear hK K
        go_simp
        refine wpAnyH_take (i := 5) (v := ?_) rfl (by kernel_rfl) (by kernel_rfl) (by kernel_rfl) (fun _ _ _ h => h) (Or.inl ⟨by rfl, ?_⟩) hHeld ?_
        rotate_left
        · intro w hSw; (try dsimp only at hSw); go_simp; try with_reducible rfl
        go_simp
        refine wpAnyH_take (i := 6) (v := ?_) rfl (by kernel_rfl) (by kernel_rfl) (by kernel_rfl) (fun _ _ _ h => h) (Or.inl ⟨by rfl, ?_⟩) hHeld ?_
        rotate_left
        · intro w hSw; (try dsimp only at hSw); go_simp; try with_reducible rfl
        go_simp
        refine wpAnyH_take (i := 7) (v := ?_) rfl (by kernel_rfl) (by kernel_rfl) (by kernel_rfl) (fun _ _ _ h => h) (Or.inl ⟨by rfl, ?_⟩) hHeld ?_
        rotate_left
        · intro w hSw; (try dsimp only at hSw); go_simp; try with_reducible rfl
        go_simp
        refine wpAnyH_ready (rs := [9]) (by kernel_rfl) (by simp) ?_
        refine AllReadyH.cons rfl (fun K hK => ?_) ?_
        rotate_left
        · exact AllReadyH.nil
        have RpS := raw_row_ne Rp RZ (Nat.ne_of_lt ltRp) #[.int .i64 tg, .int .i64 id, .int .i64 o0, .int .i64 o1, .int .i64 o2, .int .i64 omx, .string otx]
        refine step_store_row rfl 120 _ _ rfl W3.heap.size #[.int .i64 tg, .int .i64 id, .int .i64 o0, .int .i64 o1, .int .i64 o2, .int .i64 omx, .string otx] rfl rfl RZ (by kernel_rfl) rfl (by simp [Value.oneCell']) ?_
        refine hK.out _ _ (by first | (with_reducible exact MK.out _ Rp) | (with_reducible exact MK.out _ RpE) | (with_reducible exact MK.out _ RpA) | (with_reducible exact MK.out _ RpS)) (fun hHeld => ?_)
        clear hK K
        go_simp
        refine wpAnyH_take (i := 10) (v := ?_) rfl (by kernel_rfl) (by kernel_rfl) (by kernel_rfl) (fun _ _ _ h => h) (Or.inl ⟨by rfl, ?_⟩) hHeld ?_
        rotate_left
        · intro w hSw; (try dsimp only at hSw); go_simp; try with_reducible rfl
        go_simp
        refine wpAnyH_done (by kernel_rfl) ?_ _
        refine NoPanic.normal ?_
        go_wp2_with fail
        have RN := raw_row RZ #[.int .i64 tg, .int .i64 id, .int .i64 o0, .int .i64 o1, .int .i64 o2, .int .i64 omx, .string otx]
        have Rp := RpS
        have HN := Lib.hid (HB3.out.trans ((below_setRow (g := W3.heap.size) hW2 (by first | exact Nat.le_refl _ | exact hW2.size) #[.int .i64 tg, .int .i64 id, .int .i64 o0, .int .i64 o1, .int .i64 o2, .int .i64 omx, .string otx]).mono HB3.out.size))
        go_meet
        exact ⟨W3.heap.size, rfl, Lib.hid RN, Lib.hid Rp, HN⟩
    · go_simp
      go_wp2_with (first | (go_at_call 42; ((refine (CK.out _ (HB3.out.trans (hWE.mono HB3.out.size))).mono ?_); rintro e wK ⟨rfl, hwK⟩); have hwK := hwK.symm; subst hwK) | (go_at_call 59; ((refine (CA2.out _ (HB3.out.trans (hWE.mono HB3.out.size))).mono ?_); rintro e wC ⟨⟨r, rfl⟩, bC⟩); unfold ics; have Rp := RawAt.below RpE bC RpE.lt; have RZ : RawAt 120 wC W3.heap.size #[.int .i64 0, .int .i64 0, .int .i64 0, .int .i64 0, .int .i64 0, .int .i64 0, .string ⟨#[]⟩] := RawAt.below RZ0 bC RZ0.lt; have hW2 := hWE.trans (bC.mono hWE.size)))
      refine hK.out _ _ (by first | (with_reducible exact MK.out _ Rp) | (with_reducible exact MK.out _ RpE) | (with_reducible exact MK.out _ RpA) | (with_reducible exact MK.out _ RpS)) (fun hHeld => ?_)
      clear hK K
      go_simp
      refine wpAnyH_ready (rs := [1]) (by kernel_rfl) (by simp) ?_
      refine AllReadyH.cons rfl (fun K hK => ?_) ?_
      rotate_left
      · exact AllReadyH.nil
      go_simp
      go_wp2_with (first | (go_at_call 42; ((refine (CK.out _ (HB3.out.trans (hWE.mono HB3.out.size))).mono ?_); rintro e wK ⟨rfl, hwK⟩); have hwK := hwK.symm; subst hwK) | (go_at_call 59; ((refine (CA2.out _ (HB3.out.trans (hWE.mono HB3.out.size))).mono ?_); rintro e wC ⟨⟨r, rfl⟩, bC⟩); unfold ics; have Rp := RawAt.below RpE bC RpE.lt; have RZ : RawAt 120 wC W3.heap.size #[.int .i64 0, .int .i64 0, .int .i64 0, .int .i64 0, .int .i64 0, .int .i64 0, .string ⟨#[]⟩] := RawAt.below RZ0 bC RZ0.lt; have hW2 := hWE.trans (bC.mono hWE.size)))
      refine hK.out _ _ (by first | (with_reducible exact MK.out _ Rp) | (with_reducible exact MK.out _ RpE) | (with_reducible exact MK.out _ RpA) | (with_reducible exact MK.out _ RpS)) (fun hHeld => ?_)
      clear hK K
      go_simp
      refine wpAnyH_ready (rs := [4]) (by kernel_rfl) (by simp) ?_
      refine AllReadyH.cons rfl (fun K hK => ?_) ?_
      rotate_left
      · exact AllReadyH.nil
      go_simp
      go_wp2_with (first | (go_at_call 42; ((refine (CK.out _ (HB3.out.trans (hWE.mono HB3.out.size))).mono ?_); rintro e wK ⟨rfl, hwK⟩); have hwK := hwK.symm; subst hwK) | (go_at_call 59; ((refine (CA2.out _ (HB3.out.trans (hWE.mono HB3.out.size))).mono ?_); rintro e wC ⟨⟨r, rfl⟩, bC⟩); unfold ics; have Rp := RawAt.below RpE bC RpE.lt; have RZ : RawAt 120 wC W3.heap.size #[.int .i64 0, .int .i64 0, .int .i64 0, .int .i64 0, .int .i64 0, .int .i64 0, .string ⟨#[]⟩] := RawAt.below RZ0 bC RZ0.lt; have hW2 := hWE.trans (bC.mono hWE.size)))
      refine hK.out _ _ (by first | (with_reducible exact MK.out _ Rp) | (with_reducible exact MK.out _ RpE) | (with_reducible exact MK.out _ RpA) | (with_reducible exact MK.out _ RpS)) (fun hHeld => ?_)
      clear hK K
      go_simp
      refine wpAnyH_take (i := 5) (v := ?_) rfl (by kernel_rfl) (by kernel_rfl) (by kernel_rfl) (fun _ _ _ h => h) (Or.inl ⟨by rfl, ?_⟩) hHeld ?_
      rotate_left
      · intro w hSw; (try dsimp only at hSw); go_simp; try with_reducible rfl
      go_simp
      refine wpAnyH_take (i := 6) (v := ?_) rfl (by kernel_rfl) (by kernel_rfl) (by kernel_rfl) (fun _ _ _ h => h) (Or.inl ⟨by rfl, ?_⟩) hHeld ?_
      rotate_left
      · intro w hSw; (try dsimp only at hSw); go_simp; try with_reducible rfl
      go_simp
      refine wpAnyH_take (i := 7) (v := ?_) rfl (by kernel_rfl) (by kernel_rfl) (by kernel_rfl) (fun _ _ _ h => h) (Or.inl ⟨by rfl, ?_⟩) hHeld ?_
      rotate_left
      · intro w hSw; (try dsimp only at hSw); go_simp; try with_reducible rfl
      go_simp
      refine wpAnyH_ready (rs := [9]) (by kernel_rfl) (by simp) ?_
      refine AllReadyH.cons rfl (fun K hK => ?_) ?_
      rotate_left
      · exact AllReadyH.nil
      have RpS := raw_row_ne Rp RZ (Nat.ne_of_lt ltRp) #[.int .i64 tg, .int .i64 id, .int .i64 o0, .int .i64 o1, .int .i64 o2, .int .i64 omx, .string otx]
      refine step_store_row rfl 120 _ _ rfl W3.heap.size #[.int .i64 tg, .int .i64 id, .int .i64 o0, .int .i64 o1, .int .i64 o2, .int .i64 omx, .string otx] rfl rfl RZ (by kernel_rfl) rfl (by simp [Value.oneCell']) ?_
      refine hK.out _ _ (by first | (with_reducible exact MK.out _ Rp) | (with_reducible exact MK.out _ RpE) | (with_reducible exact MK.out _ RpA) | (with_reducible exact MK.out _ RpS)) (fun hHeld => ?_)
      clear hK K
      go_simp
      refine wpAnyH_take (i := 10) (v := ?_) rfl (by kernel_rfl) (by kernel_rfl) (by kernel_rfl) (fun _ _ _ h => h) (Or.inl ⟨by rfl, ?_⟩) hHeld ?_
      rotate_left
      · intro w hSw; (try dsimp only at hSw); go_simp; try with_reducible rfl
      go_simp
      refine wpAnyH_done (by kernel_rfl) ?_ _
      refine NoPanic.normal ?_
      go_wp2_with fail
      have RN := raw_row RZ #[.int .i64 tg, .int .i64 id, .int .i64 o0, .int .i64 o1, .int .i64 o2, .int .i64 omx, .string otx]
      have Rp := RpS
      have HN := Lib.hid (HB3.out.trans ((below_setRow (g := W3.heap.size) hW2 (by first | exact Nat.le_refl _ | exact hW2.size) #[.int .i64 tg, .int .i64 id, .int .i64 o0, .int .i64 o1, .int .i64 o2, .int .i64 omx, .string otx]).mono HB3.out.size))
      go_meet
      exact ⟨W3.heap.size, rfl, Lib.hid RN, Lib.hid Rp, HN⟩
  case rest =>
    obtain ⟨bx, rfl, HX, HP, HB⟩ := hcut
    clear HR3 HB3 hWD CK CA2
    have x0 := RawAt.cell HX.out 0
    have x2 := RawAt.cell HX.out 2
    have p2 := RawAt.cell HP.out 2
    have p3 := RawAt.cell HP.out 3
    simp at x0 x2 p2 p3
    have w1' : IntKind.i64.wrap (s.d1 + v) = s.d1 + v := IntWalk.i64_in _ (by omega)
    have w2' : IntKind.i64.wrap (s.d1 + v - s.d0) = s.d1 + v - s.d0 := IntWalk.i64_in _ (by omega)
    by_cases g : tg = 1
    · have HO := Lib.hid (HOUT.out.trans (if_pos g))
      clear HOUT
      subst g
      go_wp2
      refine bodyPost_ret (v := .tuple #[.int .i64 s.d1, .int .i64 0]) (by simp [results, Tryz.results22, go_sem]) rfl ⟨by rw [HO.out], HB.out⟩
    · have HO := Lib.hid (HOUT.out.trans (if_neg g))
      have k1 : (tg == 1) = false := by simpa using g
      clear HOUT
      go_wp2
      refine bodyPost_ret (v := .tuple #[.int .i64 (s.d1 + v - s.d0), .int .i64 0]) (by simp [results, Tryz.results22, go_sem]) rfl ⟨by rw [HO.out], HB.out⟩
set_option maxHeartbeats 8000000 in
set_option maxRecDepth 100000 in
theorem crIn_yes {p : Option Addr} {l : List I7} {h : Nat} {w : World} (ht : CrAt w p l h) (v : Int) (hv : WvAsk 1 l v) :
    Calls Tryz.prog 23 #[.pointer p, .int .i64 v] w fun e w' => e = .returned (.tuple #[.int .i64 (cinP l v), .int .i64 0]) ∧ Below w.heap.size w w' := by
  obtain ⟨q, hq, hk⟩ := crkept ht
  obtain ⟨hol, hll⟩ := hq.okl
  have CK := Lib.hid hk
  have CS := Lib.hid (tfind_any q l h ((1 : Nat) : Int) v 0 w hq ((wv_ask hol (by omega) v 0).2 ⟨hv, .inl rfl⟩))
  have CA := Lib.hid fun (k : Nat) (W : World) (hW : Below w.heap.size w W) => wat_any q l h k W (hq.below hW)
  have HFI := Lib.hid (wfnd_is hol (show 1 < 2 by omega) v 0)
  have HTS := Lib.hid (wtake_sums hol hll)
  have HOK := Lib.hid (ith_okn hol (wfnd 1 l v 0))
  have hvb := (wdsum_bd hol hll 1 (by omega)).2
  have hv1 := hv.1
  have hv2 := hv.2
  clear hk hq ht hv hol
  go_enter Tryz.func23, Tryz.ntmps23
  go_wp2_with fail
  refine (CK.out _ (Below.refl _ _)).mono ?_
  rintro e w1 ⟨rfl, rfl⟩
  go_wp2_with fail
  refine CS.out.mono ?_
  rintro e w2 ⟨k, z, hf, hz1, hz2, rfl, b2⟩
  obtain rfl := hf.unique HFI.out
  obtain ⟨t1, t2, t3, t4, t5, t6⟩ := HTS.out (wfnd 1 l v 0)
  have HOUT : Hid (cinP l v = if (ith l (wfnd 1 l v 0)).tag = 1 ∧ 0 < v - (sall (l.take (wfnd 1 l v 0))).d1 then (sall (l.take (wfnd 1 l v 0))).d0 + (ith l (wfnd 1 l v 0)).d0 else (sall (l.take (wfnd 1 l v 0))).d0 + (v - (sall (l.take (wfnd 1 l v 0))).d1)) := Lib.hid (by rw [t1, t2]; rfl)
  rw [← t1] at t3 t4
  rw [← t2] at t5 t6
  have CA2 := Lib.hid (CA.out (wfnd 1 l v 0))
  clear t1 t2 hf HFI HTS CS CA
  generalize wfnd 1 l v 0 = k at *
  generalize sall (l.take k) = s at *
  generalize ith l k = own at *
  obtain ⟨tg, id, o0, o1, o2, omx, otx⟩ := own
  have hok := HOK.out
  unfold Okn at hok
  simp only at hok HOUT
  have R3 : RawAt 116 (w2.alloc (.cells #[.int .i64 k, .int .i64 s.n, .int .i64 s.d0, .int .i64 s.d1, .int .i64 s.d2, .int .i64 s.mx, .int .i64 s.pl, .int .i64 z] 116)) w2.heap.size #[.int .i64 k, .int .i64 s.n, .int .i64 s.d0, .int .i64 s.d1, .int .i64 s.d2, .int .i64 s.mx, .int .i64 s.pl, .int .i64 z] := heap_alloc_new w2 _
  have x3 : Below w2.heap.size w2 (w2.alloc (.cells #[.int .i64 k, .int .i64 s.n, .int .i64 s.d0, .int .i64 s.d1, .int .i64 s.d2, .int .i64 s.mx, .int .i64 s.pl, .int .i64 z] 116)) := (Below.refl _ _).alloc (Nat.le_refl _) _
  have HB3 := Lib.hid (b2.trans (x3.mono b2.size))
  have HR3 := Lib.hid R3
  unfold vcs
  clear R3 x3 b2 HOK
  go_upto_region 4 with fail
  generalize hWD : (w2.alloc (.cells #[.int .i64 k, .int .i64 s.n, .int .i64 s.d0, .int .i64 s.d1, .int .i64 s.d2, .int .i64 s.mx, .int .i64 s.pl, .int .i64 z] 116)) = W3 at *
  have hbp := HR3.out.lt
  generalize w2.heap.size = bp at *
  go_cut [8, 9] from 12 (fun s9 s10 wx => ∃ bx : Nat, s9 = .pointer (some ⟨bx, 0, none⟩) ∧ Hid (RawAt 120 wx bx #[.int .i64 tg, .int .i64 id, .int .i64 o0, .int .i64 o1, .int .i64 o2, .int .i64 omx, .string otx]) ∧ Hid (RawAt 116 wx bp #[.int .i64 k, .int .i64 s.n, .int .i64 s.d0, .int .i64 s.d1, .int .i64 s.d2, .int .i64 s.mx, .int .i64 s.pl, .int .i64 z]) ∧ Hid (Below w1.heap.size w1 wx))
  case first =>
    have Rp := HR3.out
    have c0 : W3.cell? ⟨bp, 0, none⟩ = some (.int .i64 k) := RawAt.cell Rp 0
    have hW2 : Below W3.heap.size W3 W3.drew := (Below.refl _ _).drew
    have Rp : RawAt 116 W3.drew bp #[.int .i64 k, .int .i64 s.n, .int .i64 s.d0, .int .i64 s.d1, .int .i64 s.d2, .int .i64 s.mx, .int .i64 s.pl, .int .i64 z] := Rp
    have ltRp := Rp.lt
    have MK : Hid (∀ V : World, RawAt 116 V bp #[.int .i64 k, .int .i64 s.n, .int .i64 s.d0, .int .i64 s.d1, .int .i64 s.d2, .int .i64 s.mx, .int .i64 s.pl, .int .i64 z] → (fun V : World => V.cell? ⟨bp, 0, none⟩ = some (.int .i64 k)) V) := Lib.hid fun V hRp => RawAt.cell hRp 0
    have RZ0 : RawAt 120 (W3.alloc (.cells #[.int .i64 0, .int .i64 0, .int .i64 0, .int .i64 0, .int .i64 0, .int .i64 0, .string ⟨#[]⟩] 120)).drew W3.heap.size #[.int .i64 0, .int .i64 0, .int .i64 0, .int .i64 0, .int .i64 0, .int .i64 0, .string ⟨#[]⟩] := heap_alloc_new W3 _
    have hWE : Below W3.heap.size W3 (W3.alloc (.cells #[.int .i64 0, .int .i64 0, .int .i64 0, .int .i64 0, .int .i64 0, .int .i64 0, .string ⟨#[]⟩] 120)).drew := ((Below.refl _ _).alloc (Nat.le_refl _) _).drew
    have RpE : RawAt 116 (W3.alloc (.cells #[.int .i64 0, .int .i64 0, .int .i64 0, .int .i64 0, .int .i64 0, .int .i64 0, .string ⟨#[]⟩] 120)).drew bp #[.int .i64 k, .int .i64 s.n, .int .i64 s.d0, .int .i64 s.d1, .int .i64 s.d2, .int .i64 s.mx, .int .i64 s.pl, .int .i64 z] := RawAt.below Rp ((Below.refl _ _).alloc (Nat.le_refl _) _) Rp.lt
    refine wp_region_noPanic ?_
    refine wp_region_held_drew (S := (fun V => V.cell? ⟨bp, 0, none⟩ = some (.int .i64 k))) (by kernel_rfl) (MK.out _ Rp) (fun hHeld => ?_)
    refine wpAnyH_take (i := 0) (v := ?_) rfl (by kernel_rfl) (by kernel_rfl) (by kernel_rfl) (fun _ _ _ h => h) (Or.inl ⟨by rfl, ?_⟩) hHeld ?_
    rotate_left
    · intro w hSw; (try dsimp only at hSw); go_simp; try with_reducible rfl
    go_simp
    refine wpAnyH_take (i := 2) (v := ?_) rfl (by kernel_rfl) (by kernel_rfl) (by kernel_rfl) (fun _ _ _ h => h) (Or.inl ⟨by rfl, ?_⟩) hHeld ?_
    rotate_left
    · intro w hSw; (try dsimp only at hSw); go_simp; try with_reducible rfl
    go_simp
    refine wpAnyH_take (i := 3) (v := ?_) rfl (by kernel_rfl) (by kernel_rfl) (by kernel_rfl) (fun _ _ _ h => h) (Or.inl ⟨by rfl, ?_⟩) hHeld ?_
    rotate_left
    · intro w hSw; (try dsimp only at hSw); go_simp; try with_reducible rfl
    go_simp
    refine wpAnyH_ready (rs := [1, 8]) (by kernel_rfl) (by simp) ?_
    refine AllReadyH.cons rfl (fun K hK => ?_) (AllReadyH.cons rfl (fun K hK => ?_) AllReadyH.nil)
    · go_simp
      go_wp2_with (first | (go_at_call 42; ((refine (CK.out _ (HB3.out.trans (hW2.mono HB3.out.size))).mono ?_); rintro e wK ⟨rfl, hwK⟩); have hwK := hwK.symm; subst hwK) | (go_at_call 59; ((refine (CA2.out _ (HB3.out.trans (hW2.mono HB3.out.size))).mono ?_); rintro e wC ⟨⟨r, rfl⟩, bC⟩); unfold ics; have Rp := RawAt.below Rp bC Rp.lt; have hW2 := hW2.trans (bC.mono hW2.size); have RZ : RawAt 120 (wC.alloc (.cells #[.int .i64 0, .int .i64 0, .int .i64 0, .int .i64 0, .int .i64 0, .int .i64 0, .string ⟨#[]⟩] 120)) wC.heap.size #[.int .i64 0, .int .i64 0, .int .i64 0, .int .i64 0, .int .i64 0, .int .i64 0, .string ⟨#[]⟩] := heap_alloc_new wC _; have hWA := hW2.alloc hW2.size (.cells #[.int .i64 0, .int .i64 0, .int .i64 0, .int .i64 0, .int .i64 0, .int .i64 0, .string ⟨#[]⟩] 120); have RpA : RawAt 116 (wC.alloc (.cells #[.int .i64 0, .int .i64 0, .int .i64 0, .int .i64 0, .int .i64 0, .int .i64 0, .string ⟨#[]⟩] 120)) bp #[.int .i64 k, .int .i64 s.n, .int .i64 s.d0, .int .i64 s.d1, .int .i64 s.d2, .int .i64 s.mx, .int .i64 s.pl, .int .i64 z] := RawAt.below Rp ((Below.refl _ _).alloc (Nat.le_refl _) _) Rp.lt))
      refine hK.out _ _ (by first | (with_reducible exact MK.out _ Rp) | (with_reducible exact MK.out _ RpE) | (with_reducible exact MK.out _ RpA) | (with_reducible exact MK.out _ RpS)) (fun hHeld => ?_)
      clear hK K
      go_simp
      refine wpAnyH_ready (rs := [4, 8]) (by kernel_rfl) (by simp) ?_
      refine AllReadyH.cons rfl (fun K hK => ?_) (AllReadyH.cons rfl (fun K hK => ?_) AllReadyH.nil)
      · go_simp
        go_wp2_with (first | (go_at_call 42; ((refine (CK.out _ (HB3.out.trans (hW2.mono HB3.out.size))).mono ?_); rintro e wK ⟨rfl, hwK⟩); have hwK := hwK.symm; subst hwK) | (go_at_call 59; ((refine (CA2.out _ (HB3.out.trans (hW2.mono HB3.out.size))).mono ?_); rintro e wC ⟨⟨r, rfl⟩, bC⟩); unfold ics; have Rp := RawAt.below Rp bC Rp.lt; have hW2 := hW2.trans (bC.mono hW2.size); have RZ : RawAt 120 (wC.alloc (.cells #[.int .i64 0, .int .i64 0, .int .i64 0, .int .i64 0, .int .i64 0, .int .i64 0, .string ⟨#[]⟩] 120)) wC.heap.size #[.int .i64 0, .int .i64 0, .int .i64 0, .int .i64 0, .int .i64 0, .int .i64 0, .string ⟨#[]⟩] := heap_alloc_new wC _; have hWA := hW2.alloc hW2.size (.cells #[.int .i64 0, .int .i64 0, .int .i64 0, .int .i64 0, .int .i64 0, .int .i64 0, .string ⟨#[]⟩] 120); have RpA : RawAt 116 (wC.alloc (.cells #[.int .i64 0, .int .i64 0, .int .i64 0, .int .i64 0, .int .i64 0, .int .i64 0, .string ⟨#[]⟩] 120)) bp #[.int .i64 k, .int .i64 s.n, .int .i64 s.d0, .int .i64 s.d1, .int .i64 s.d2, .int .i64 s.mx, .int .i64 s.pl, .int .i64 z] := RawAt.below Rp ((Below.refl _ _).alloc (Nat.le_refl _) _) Rp.lt))
        refine hK.out _ _ (by first | (with_reducible exact MK.out _ Rp) | (with_reducible exact MK.out _ RpE) | (with_reducible exact MK.out _ RpA) | (with_reducible exact MK.out _ RpS)) (fun hHeld => ?_)
        clear hK K
        go_simp
        refine wpAnyH_take (i := 5) (v := ?_) rfl (by kernel_rfl) (by kernel_rfl) (by kernel_rfl) (fun _ _ _ h => h) (Or.inl ⟨by rfl, ?_⟩) hHeld ?_
        rotate_left
        · intro w hSw; (try dsimp only at hSw); go_simp; try with_reducible rfl
        go_simp
        refine wpAnyH_take (i := 6) (v := ?_) rfl (by kernel_rfl) (by kernel_rfl) (by kernel_rfl) (fun _ _ _ h => h) (Or.inl ⟨by rfl, ?_⟩) hHeld ?_
        rotate_left
        · intro w hSw; (try dsimp only at hSw); go_simp; try with_reducible rfl
        go_simp
        refine wpAnyH_take (i := 7) (v := ?_) rfl (by kernel_rfl) (by kernel_rfl) (by kernel_rfl) (fun _ _ _ h => h) (Or.inl ⟨by rfl, ?_⟩) hHeld ?_
        rotate_left
        · intro w hSw; (try dsimp only at hSw); go_simp; try with_reducible rfl
        go_simp
        refine wpAnyH_ready (rs := [8]) (by kernel_rfl) (by simp) ?_
        refine AllReadyH.cons rfl (fun K hK => ?_) ?_
        rotate_left
        · exact AllReadyH.nil
        go_simp
        go_wp2_with (first | (go_at_call 42; ((refine (CK.out _ (HB3.out.trans (hW2.mono HB3.out.size))).mono ?_); rintro e wK ⟨rfl, hwK⟩); have hwK := hwK.symm; subst hwK) | (go_at_call 59; ((refine (CA2.out _ (HB3.out.trans (hW2.mono HB3.out.size))).mono ?_); rintro e wC ⟨⟨r, rfl⟩, bC⟩); unfold ics; have Rp := RawAt.below Rp bC Rp.lt; have hW2 := hW2.trans (bC.mono hW2.size); have RZ : RawAt 120 (wC.alloc (.cells #[.int .i64 0, .int .i64 0, .int .i64 0, .int .i64 0, .int .i64 0, .int .i64 0, .string ⟨#[]⟩] 120)) wC.heap.size #[.int .i64 0, .int .i64 0, .int .i64 0, .int .i64 0, .int .i64 0, .int .i64 0, .string ⟨#[]⟩] := heap_alloc_new wC _; have hWA := hW2.alloc hW2.size (.cells #[.int .i64 0, .int .i64 0, .int .i64 0, .int .i64 0, .int .i64 0, .int .i64 0, .string ⟨#[]⟩] 120); have RpA : RawAt 116 (wC.alloc (.cells #[.int .i64 0, .int .i64 0, .int .i64 0, .int .i64 0, .int .i64 0, .int .i64 0, .string ⟨#[]⟩] 120)) bp #[.int .i64 k, .int .i64 s.n, .int .i64 s.d0, .int .i64 s.d1, .int .i64 s.d2, .int .i64 s.mx, .int .i64 s.pl, .int .i64 z] := RawAt.below Rp ((Below.refl _ _).alloc (Nat.le_refl _) _) Rp.lt))
        refine hK.out _ _ (by first | (with_reducible exact MK.out _ Rp) | (with_reducible exact MK.out _ RpE) | (with_reducible exact MK.out _ RpA) | (with_reducible exact MK.out _ RpS)) (fun hHeld => ?_)
        clear hK K
        go_simp
        refine wpAnyH_ready (rs := [9]) (by kernel_rfl) (by simp) ?_
        refine AllReadyH.cons rfl (fun K hK => ?_) ?_
        rotate_left
        · exact AllReadyH.nil
        have RpS := raw_row_ne RpA RZ (Nat.ne_of_lt Rp.lt) #[.int .i64 tg, .int .i64 id, .int .i64 o0, .int .i64 o1, .int .i64 o2, .int .i64 omx, .string otx]
        refine step_store_row rfl 120 _ _ rfl wC.heap.size #[.int .i64 tg, .int .i64 id, .int .i64 o0, .int .i64 o1, .int .i64 o2, .int .i64 omx, .string otx] rfl rfl RZ (by kernel_rfl) rfl (by simp [Value.oneCell']) ?_
        refine hK.out _ _ (by first | (with_reducible exact MK.out _ Rp) | (with_reducible exact MK.out _ RpE) | (with_reducible exact MK.out _ RpA) | (with_reducible exact MK.out _ RpS)) (fun hHeld => ?_)
        clear hK K
        go_simp
        refine wpAnyH_take (i := 10) (v := ?_) rfl (by kernel_rfl) (by kernel_rfl) (by kernel_rfl) (fun _ _ _ h => h) (Or.inl ⟨by rfl, ?_⟩) hHeld ?_
        rotate_left
        · intro w hSw; (try dsimp only at hSw); go_simp; try with_reducible rfl
        go_simp
        refine wpAnyH_done (by kernel_rfl) ?_ _
        refine NoPanic.normal ?_
        go_wp2_with fail
        have RN := raw_row RZ #[.int .i64 tg, .int .i64 id, .int .i64 o0, .int .i64 o1, .int .i64 o2, .int .i64 omx, .string otx]
        have Rp := RpS
        have HN := Lib.hid (HB3.out.trans ((below_setRow (g := wC.heap.size) hWA (by first | exact Nat.le_refl _ | exact hW2.size) #[.int .i64 tg, .int .i64 id, .int .i64 o0, .int .i64 o1, .int .i64 o2, .int .i64 omx, .string otx]).mono HB3.out.size))
        go_meet
        exact ⟨wC.heap.size, rfl, Lib.hid RN, Lib.hid Rp, HN⟩
      · go_simp
        go_wp2_with (first | (go_at_call 42; ((refine (CK.out _ (HB3.out.trans (hWE.mono HB3.out.size))).mono ?_); rintro e wK ⟨rfl, hwK⟩); have hwK := hwK.symm; subst hwK) | (go_at_call 59; ((refine (CA2.out _ (HB3.out.trans (hWE.mono HB3.out.size))).mono ?_); rintro e wC ⟨⟨r, rfl⟩, bC⟩); unfold ics; have Rp := RawAt.below RpE bC RpE.lt; have RZ : RawAt 120 wC W3.heap.size #[.int .i64 0, .int .i64 0, .int .i64 0, .int .i64 0, .int .i64 0, .int .i64 0, .string ⟨#[]⟩] := RawAt.below RZ0 bC RZ0.lt; have hW2 := hWE.trans (bC.mono hWE.size)))
        refine hK.out _ _ (by first | (with_reducible exact MK.out _ Rp) | (with_reducible exact MK.out _ RpE) | (with_reducible exact MK.out _ RpA) | (with_reducible exact MK.out _ RpS)) (fun hHeld => ?_)
        clear hK K
        go_simp
        refine wpAnyH_ready (rs := [4]) (by kernel_rfl) (by simp) ?_
        refine AllReadyH.cons rfl (fun K hK => ?_) ?_
        rotate_left
        · exact AllReadyH.nil
        go_simp
        go_wp2_with (first | (go_at_call 42; ((refine (CK.out _ (HB3.out.trans (hWE.mono HB3.out.size))).mono ?_); rintro e wK ⟨rfl, hwK⟩); have hwK := hwK.symm; subst hwK) | (go_at_call 59; ((refine (CA2.out _ (HB3.out.trans (hWE.mono HB3.out.size))).mono ?_); rintro e wC ⟨⟨r, rfl⟩, bC⟩); unfold ics; have Rp := RawAt.below RpE bC RpE.lt; have RZ : RawAt 120 wC W3.heap.size #[.int .i64 0, .int .i64 0, .int .i64 0, .int .i64 0, .int .i64 0, .int .i64 0, .string ⟨#[]⟩] := RawAt.below RZ0 bC RZ0.lt; have hW2 := hWE.trans (bC.mono hWE.size)))
        refine hK.out _ _ (by first | (with_reducible exact MK.out _ Rp) | (with_reducible exact MK.out _ RpE) | (with_reducible exact MK.out _ RpA) | (with_reducible exact MK.out _ RpS)) (fun hHeld => ?_)
        clear hK K
        go_simp
        refine wpAnyH_take (i := 5) (v := ?_) rfl (by kernel_rfl) (by kernel_rfl) (by kernel_rfl) (fun _ _ _ h => h) (Or.inl ⟨by rfl, ?_⟩) hHeld ?_
        rotate_left
        · intro w hSw; (try dsimp only at hSw); go_simp; try with_reducible rfl
        go_simp
        refine wpAnyH_take (i := 6) (v := ?_) rfl (by kernel_rfl) (by kernel_rfl) (by kernel_rfl) (fun _ _ _ h => h) (Or.inl ⟨by rfl, ?_⟩) hHeld ?_
        rotate_left
        · intro w hSw; (try dsimp only at hSw); go_simp; try with_reducible rfl
        go_simp
        refine wpAnyH_take (i := 7) (v := ?_) rfl (by kernel_rfl) (by kernel_rfl) (by kernel_rfl) (fun _ _ _ h => h) (Or.inl ⟨by rfl, ?_⟩) hHeld ?_
        rotate_left
        · intro w hSw; (try dsimp only at hSw); go_simp; try with_reducible rfl
        go_simp
        refine wpAnyH_ready (rs := [9]) (by kernel_rfl) (by simp) ?_
        refine AllReadyH.cons rfl (fun K hK => ?_) ?_
        rotate_left
        · exact AllReadyH.nil
        have RpS := raw_row_ne Rp RZ (Nat.ne_of_lt ltRp) #[.int .i64 tg, .int .i64 id, .int .i64 o0, .int .i64 o1, .int .i64 o2, .int .i64 omx, .string otx]
        refine step_store_row rfl 120 _ _ rfl W3.heap.size #[.int .i64 tg, .int .i64 id, .int .i64 o0, .int .i64 o1, .int .i64 o2, .int .i64 omx, .string otx] rfl rfl RZ (by kernel_rfl) rfl (by simp [Value.oneCell']) ?_
        refine hK.out _ _ (by first | (with_reducible exact MK.out _ Rp) | (with_reducible exact MK.out _ RpE) | (with_reducible exact MK.out _ RpA) | (with_reducible exact MK.out _ RpS)) (fun hHeld => ?_)
        clear hK K
        go_simp
        refine wpAnyH_take (i := 10) (v := ?_) rfl (by kernel_rfl) (by kernel_rfl) (by kernel_rfl) (fun _ _ _ h => h) (Or.inl ⟨by rfl, ?_⟩) hHeld ?_
        rotate_left
        · intro w hSw; (try dsimp only at hSw); go_simp; try with_reducible rfl
        go_simp
        refine wpAnyH_done (by kernel_rfl) ?_ _
        refine NoPanic.normal ?_
        go_wp2_with fail
        have RN := raw_row RZ #[.int .i64 tg, .int .i64 id, .int .i64 o0, .int .i64 o1, .int .i64 o2, .int .i64 omx, .string otx]
        have Rp := RpS
        have HN := Lib.hid (HB3.out.trans ((below_setRow (g := W3.heap.size) hW2 (by first | exact Nat.le_refl _ | exact hW2.size) #[.int .i64 tg, .int .i64 id, .int .i64 o0, .int .i64 o1, .int .i64 o2, .int .i64 omx, .string otx]).mono HB3.out.size))
        go_meet
        exact ⟨W3.heap.size, rfl, Lib.hid RN, Lib.hid Rp, HN⟩
    · go_simp
      go_wp2_with (first | (go_at_call 42; ((refine (CK.out _ (HB3.out.trans (hWE.mono HB3.out.size))).mono ?_); rintro e wK ⟨rfl, hwK⟩); have hwK := hwK.symm; subst hwK) | (go_at_call 59; ((refine (CA2.out _ (HB3.out.trans (hWE.mono HB3.out.size))).mono ?_); rintro e wC ⟨⟨r, rfl⟩, bC⟩); unfold ics; have Rp := RawAt.below RpE bC RpE.lt; have RZ : RawAt 120 wC W3.heap.size #[.int .i64 0, .int .i64 0, .int .i64 0, .int .i64 0, .int .i64 0, .int .i64 0, .string ⟨#[]⟩] := RawAt.below RZ0 bC RZ0.lt; have hW2 := hWE.trans (bC.mono hWE.size)))
      refine hK.out _ _ (by first | (with_reducible exact MK.out _ Rp) | (with_reducible exact MK.out _ RpE) | (with_reducible exact MK.out _ RpA) | (with_reducible exact MK.out _ RpS)) (fun hHeld => ?_)
      clear hK K
      go_simp
      refine wpAnyH_ready (rs := [1]) (by kernel_rfl) (by simp) ?_
      refine AllReadyH.cons rfl (fun K hK => ?_) ?_
      rotate_left
      · exact AllReadyH.nil
      go_simp
      go_wp2_with (first | (go_at_call 42; ((refine (CK.out _ (HB3.out.trans (hWE.mono HB3.out.size))).mono ?_); rintro e wK ⟨rfl, hwK⟩); have hwK := hwK.symm; subst hwK) | (go_at_call 59; ((refine (CA2.out _ (HB3.out.trans (hWE.mono HB3.out.size))).mono ?_); rintro e wC ⟨⟨r, rfl⟩, bC⟩); unfold ics; have Rp := RawAt.below RpE bC RpE.lt; have RZ : RawAt 120 wC W3.heap.size #[.int .i64 0, .int .i64 0, .int .i64 0, .int .i64 0, .int .i64 0, .int .i64 0, .string ⟨#[]⟩] := RawAt.below RZ0 bC RZ0.lt; have hW2 := hWE.trans (bC.mono hWE.size)))
      refine hK.out _ _ (by first | (with_reducible exact MK.out _ Rp) | (with_reducible exact MK.out _ RpE) | (with_reducible exact MK.out _ RpA) | (with_reducible exact MK.out _ RpS)) (fun hHeld => ?_)
      clear hK K
      go_simp
      refine wpAnyH_ready (rs := [4]) (by kernel_rfl) (by simp) ?_
      refine AllReadyH.cons rfl (fun K hK => ?_) ?_
      rotate_left
      · exact AllReadyH.nil
      go_simp
      go_wp2_with (first | (go_at_call 42; ((refine (CK.out _ (HB3.out.trans (hWE.mono HB3.out.size))).mono ?_); rintro e wK ⟨rfl, hwK⟩); have hwK := hwK.symm; subst hwK) | (go_at_call 59; ((refine (CA2.out _ (HB3.out.trans (hWE.mono HB3.out.size))).mono ?_); rintro e wC ⟨⟨r, rfl⟩, bC⟩); unfold ics; have Rp := RawAt.below RpE bC RpE.lt; have RZ : RawAt 120 wC W3.heap.size #[.int .i64 0, .int .i64 0, .int .i64 0, .int .i64 0, .int .i64 0, .int .i64 0, .string ⟨#[]⟩] := RawAt.below RZ0 bC RZ0.lt; have hW2 := hWE.trans (bC.mono hWE.size)))
      refine hK.out _ _ (by first | (with_reducible exact MK.out _ Rp) | (with_reducible exact MK.out _ RpE) | (with_reducible exact MK.out _ RpA) | (with_reducible exact MK.out _ RpS)) (fun hHeld => ?_)
      clear hK K
      go_simp
      refine wpAnyH_take (i := 5) (v := ?_) rfl (by kernel_rfl) (by kernel_rfl) (by kernel_rfl) (fun _ _ _ h => h) (Or.inl ⟨by rfl, ?_⟩) hHeld ?_
      rotate_left
      · intro w hSw; (try dsimp only at hSw); go_simp; try with_reducible rfl
      go_simp
      refine wpAnyH_take (i := 6) (v := ?_) rfl (by kernel_rfl) (by kernel_rfl) (by kernel_rfl) (fun _ _ _ h => h) (Or.inl ⟨by rfl, ?_⟩) hHeld ?_
      rotate_left
      · intro w hSw; (try dsimp only at hSw); go_simp; try with_reducible rfl
      go_simp
      refine wpAnyH_take (i := 7) (v := ?_) rfl (by kernel_rfl) (by kernel_rfl) (by kernel_rfl) (fun _ _ _ h => h) (Or.inl ⟨by rfl, ?_⟩) hHeld ?_
      rotate_left
      · intro w hSw; (try dsimp only at hSw); go_simp; try with_reducible rfl
      go_simp
      refine wpAnyH_ready (rs := [9]) (by kernel_rfl) (by simp) ?_
      refine AllReadyH.cons rfl (fun K hK => ?_) ?_
      rotate_left
      · exact AllReadyH.nil
      have RpS := raw_row_ne Rp RZ (Nat.ne_of_lt ltRp) #[.int .i64 tg, .int .i64 id, .int .i64 o0, .int .i64 o1, .int .i64 o2, .int .i64 omx, .string otx]
      refine step_store_row rfl 120 _ _ rfl W3.heap.size #[.int .i64 tg, .int .i64 id, .int .i64 o0, .int .i64 o1, .int .i64 o2, .int .i64 omx, .string otx] rfl rfl RZ (by kernel_rfl) rfl (by simp [Value.oneCell']) ?_
      refine hK.out _ _ (by first | (with_reducible exact MK.out _ Rp) | (with_reducible exact MK.out _ RpE) | (with_reducible exact MK.out _ RpA) | (with_reducible exact MK.out _ RpS)) (fun hHeld => ?_)
      clear hK K
      go_simp
      refine wpAnyH_take (i := 10) (v := ?_) rfl (by kernel_rfl) (by kernel_rfl) (by kernel_rfl) (fun _ _ _ h => h) (Or.inl ⟨by rfl, ?_⟩) hHeld ?_
      rotate_left
      · intro w hSw; (try dsimp only at hSw); go_simp; try with_reducible rfl
      go_simp
      refine wpAnyH_done (by kernel_rfl) ?_ _
      refine NoPanic.normal ?_
      go_wp2_with fail
      have RN := raw_row RZ #[.int .i64 tg, .int .i64 id, .int .i64 o0, .int .i64 o1, .int .i64 o2, .int .i64 omx, .string otx]
      have Rp := RpS
      have HN := Lib.hid (HB3.out.trans ((below_setRow (g := W3.heap.size) hW2 (by first | exact Nat.le_refl _ | exact hW2.size) #[.int .i64 tg, .int .i64 id, .int .i64 o0, .int .i64 o1, .int .i64 o2, .int .i64 omx, .string otx]).mono HB3.out.size))
      go_meet
      exact ⟨W3.heap.size, rfl, Lib.hid RN, Lib.hid Rp, HN⟩
  case rest =>
    obtain ⟨bx, rfl, HX, HP, HB⟩ := hcut
    clear HR3 HB3 hWD CK CA2
    have x0 := RawAt.cell HX.out 0
    have x2 := RawAt.cell HX.out 2
    have p2 := RawAt.cell HP.out 2
    have p3 := RawAt.cell HP.out 3
    simp at x0 x2 p2 p3
    have w1' : IntKind.i64.wrap (v - s.d1) = v - s.d1 := IntWalk.i64_in _ (by omega)
    have w2' : IntKind.i64.wrap (s.d0 + (v - s.d1)) = s.d0 + (v - s.d1) := IntWalk.i64_in _ (by omega)
    have w3' : IntKind.i64.wrap (s.d0 + o0) = s.d0 + o0 := IntWalk.i64_in _ (by omega)
    by_cases g : tg = 1
    · by_cases g2 : 0 < v - s.d1
      · have HO := Lib.hid (HOUT.out.trans (if_pos ⟨g, g2⟩))
        have k2 : decide (0 < v - s.d1) = true := decide_eq_true g2
        clear HOUT
        subst g
        go_wp2
        refine bodyPost_ret (v := .tuple #[.int .i64 (s.d0 + o0), .int .i64 0]) (by simp [results, Tryz.results23, go_sem]) rfl ⟨by rw [HO.out], HB.out⟩
      · have HO := Lib.hid (HOUT.out.trans (if_neg (fun h => g2 h.2)))
        have k2 : decide (0 < v - s.d1) = false := decide_eq_false g2
        clear HOUT
        subst g
        go_wp2
        refine bodyPost_ret (v := .tuple #[.int .i64 (s.d0 + (v - s.d1)), .int .i64 0]) (by simp [results, Tryz.results23, go_sem]) rfl ⟨by rw [HO.out], HB.out⟩
    · have HO := Lib.hid (HOUT.out.trans (if_neg (fun h => g h.1)))
      have k1 : (tg == 1) = false := by simpa using g
      clear HOUT
      go_wp2
      refine bodyPost_ret (v := .tuple #[.int .i64 (s.d0 + (v - s.d1)), .int .i64 0]) (by simp [results, Tryz.results23, go_sem]) rfl ⟨by rw [HO.out], HB.out⟩
end Go.Proofs.YtjkmkobnfhepaaaGreat
