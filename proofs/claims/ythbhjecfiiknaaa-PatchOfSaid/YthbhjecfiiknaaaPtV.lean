/- Patches of batches: the contract of the document's Of. -/
import Derived.Test.YthbhjecfiiknaaaPtU
import Derived.Test.YthbhjecfiiknaaaPtD
import Derived.Test.YthbhjecfiiknaaaRDec
import Derived.Deep.AppendLies
namespace Go.Proofs.Ythbhjecfiiknaaa
open Go.RowKit
set_option linter.unusedVariables false
theorem cut_hdO {P : Program} {t e : TypeId} (ht : P.underlying t = some (.slice e)) {i : TypeInfo} (hi : P.info? e = some i) (A : Option Addr) (n c k : Nat) (hk : k ≤ c) (w : World) :
    (Instr.slice t (.slice A n c) none (some (.int .i64 k)) none).run P w = .ok (.slice A k c) w := by
  have he : P.elem t = e := by simp [Program.elem, ht]
  subst he
  rw [run_slice_h _ _ _ _ _ ht _ _ (by omega) (by omega), run_sizeOf _ hi]
  have h0 : (A.map fun x => x.add 0) = A := by cases A <;> simp [Addr.add]
  simp [Result.andThen, sliced, h0]
theorem edit_infoO : (Try.prog.info? 36).map (fun i => (i.zero, i.size, i.bytes)) = some (some (.agg #[.int .i64 0, .int .i64 0, .string ⟨#[]⟩]), 3, 32) := by kernel_rfl
theorem egrow_takeO {l : List E3} {j : Nat} (h : j < l.length) : egrow (l.take (j + 1)) = egrow (l.take j) + egro (eth l j) := by
  rw [eth_take h]; simp [egrow]
theorem risO_at {n : Nat} : ∀ {p : Nat} {l : List E3} {j : Nat}, ERis n p l → j < l.length → ∃ a b : Nat, (eth l j).f = a ∧ (eth l j).t = b ∧ a ≤ b ∧ b ≤ n
  | _, [], _, _, hj => absurd hj (by simp)
  | p, e :: l, 0, h, _ => by
    obtain ⟨a, b, h1, h2, h3, h4, h5, h6⟩ := h
    exact ⟨a, b, h1, h2, h4, h5⟩
  | p, e :: l, j + 1, h, hj => by
    obtain ⟨a, b, h1, h2, h3, h4, h5, h6⟩ := h
    have := risO_at h6 (show j < l.length by simpa using hj)
    simpa [eth, List.getD] using this
theorem egrowO_bd {n : Nat} {l : List E3} (h : ERis n 0 l) (hn : n ≤ 1000) (hs : ∀ e ∈ l, e.x.size ≤ 500) : ∀ j, j ≤ l.length → -(1000 * (j : Int)) ≤ egrow (l.take j) ∧ egrow (l.take j) ≤ 500 * (j : Int)
  | 0, _ => by simp [egrow]
  | j + 1, hj => by
    have ih := egrowO_bd h hn hs j (by omega)
    rw [egrow_takeO (by omega)]
    obtain ⟨a, b, h1, h2, h3, h4⟩ := risO_at h (show j < l.length by omega)
    have h5 := hs _ (eth_mem2 (show j < l.length by omega))
    have h6 := dec_len (eth l j).x
    unfold egro
    omega
theorem own_setO {w : World} {base : Nat} {e : TypeId} {size g cap n : Nat} {xs : List Value} (h : w.ownsRow base e size (.slice (some ⟨g, 0, none⟩) n cap) n xs) {i : Nat} (hi : i < n * size) (u : Value) : (w.setCell ⟨g, i, none⟩ u).ownsRow base e size (.slice (some ⟨g, 0, none⟩) n cap) n (xs.set i u) := by
  refine ⟨by rw [List.length_set]; exact h.1, .inr ?_⟩
  rcases h.2 with ⟨h2, _⟩ | ⟨g', cap', cur, hv, hB, c, h3, h4, h5, h6⟩
  · cases h2
  · injection hv with hv1 hv2 hv3
    injection hv1 with hv1
    injection hv1 with hv1
    subst hv1
    subst hv3
    refine ⟨g, cap, cur.setIfInBounds i u, rfl, hB, RawAt.set_ (t := e) c i u, h3, h4, by rw [Array.size_setIfInBounds]; exact h5, ?_⟩
    rw [Array.toList_setIfInBounds, List.take_set, h6]
theorem cflat_set (o : List Ch) (d : Ch) (y z : Int) : ((cflat (o ++ [d])).set (o.length * 4 + 1) (.int .i64 y)).set (o.length * 4 + 3) (.int .i64 z) = cflat (o ++ [⟨d.oa, y, d.na, z⟩]) := by
  have hl := cflat_length o
  rw [cflat_append, cflat_append, List.set_append_right _ _ (by omega), List.set_append_right _ _ (by omega), hl, show o.length * 4 + 1 - o.length * 4 = 1 from by omega, show o.length * 4 + 3 - o.length * 4 = 3 from by omega]
  rfl
theorem pof_ofR (l : List E3) {n : Nat} (h : ERis n 0 l) : ofR [] (rawc 0 0 (tri l)) = pof l := by
  have := ofR_chg (L := LL) (tri l) 0 0 0 0 [] (ris_tri h) (Int.le_refl _) (Int.le_refl _) (fun d hd => by simp at hd)
  simpa [pof] using this
theorem own_rawO {w : World} {base : Nat} {e : TypeId} {size g cap n : Nat} {xs : List Value} (h : w.ownsRow base e size (.slice (some ⟨g, 0, none⟩) n cap) n xs) : (∀ (i : Nat) (u : Value), xs[i]? = some u → w.cell? ⟨g, i, none⟩ = some u) ∧ (∀ i, w.frozen? ⟨g, i, none⟩ = false) ∧ g < w.heap.size ∧ base ≤ g := by
  rcases h.2 with ⟨h2, _⟩ | ⟨g', cap', cur, hv, hB, c, h3, h4, h5, h6⟩
  · cases h2
  · injection hv with hv1 hv2 hv3
    injection hv1 with hv1
    injection hv1 with hv1
    subst hv1
    refine ⟨fun i u hu => ?_, fun i => RawAt.free (t := e) c i, block_lt c, hB⟩
    rw [RawAt.cell (t := e) c, ← Array.getElem?_toList]
    rw [← h6, List.getElem?_take] at hu
    split at hu
    · exact hu
    · cases hu
set_option maxHeartbeats 16000000 in
set_option maxRecDepth 100000 in
theorem rOf_any (B : Option Addr) (m d n : Nat) (l : List E3) (w : World) (hB : EdsAt w B l) (hl : l.length = m) (hd : Caps B m d) (hE : ERis n 0 l) (hn : n ≤ 1000) (hm64 : m ≤ 64) (hs : ∀ e ∈ l, e.x.size ≤ 500) :
    Calls Try.prog 19 #[.slice B m d] w fun e w' => ∃ (A' : Option Addr) (c' : Nat), e = .returned (.slice A' (pof l).length c') ∧ ChsAt w' A' (pof l) ∧ Below w.heap.size w w' := by
  have HAt := Lib.hid fun (j : Nat) (hj : j < l.length) => risO_at hE hj
  have HGB := Lib.hid fun j (hj : j ≤ l.length) => egrowO_bd hE hn hs j hj
  have HS := Lib.hid hs
  have HB := Lib.hid hB
  have HL := Lib.hid hl
  have HPO := Lib.hid (pof_ofR l hE)
  have HE0 := Lib.hid hE
  have hd1 := hd.1
  obtain ⟨i0, hi0, hz0, hz1, hz2⟩ := info_parts rchange_info
  obtain ⟨j0_, hj0, _, _, _⟩ := info_parts edit_infoO
  clear hB hl hd hE hs
  go_enter Try.func19, Try.ntmps19
  go_wp2_with fail
  go_loopg [3, 13] m (fun g v i wr => ∃ (j p : Nat) (q : Int) (o : List Ch), i = .int .i64 j ∧ j ≤ m ∧ m - j ≤ g ∧ Below w.heap.size w wr ∧ p ≤ n ∧ o.length ≤ j ∧ Hid (q - p = egrow (l.take j)) ∧ Hid (ERis n p (l.drop j)) ∧ Hid (ofR o (rawc p q (tri (l.drop j))) = pof l) ∧ Hid (wr.ownsRow w.heap.size 57 4 v o.length (cflat o)))
  case atStart => exact ⟨0, 0, 0, [], rfl, by omega, by omega, Below.refl _ _, by omega, Nat.le_refl _, Lib.hid (by simp [egrow]), HE0, HPO, Lib.hid (World.ownsRow_nil _ _ _ _)⟩
  case round =>
    obtain ⟨j, p, q, o, rfl, h1, h2, hb, hpn, hoj, hqp, hER, hof, hown⟩ := hrel
    have hszw := hb.size
    by_cases hlt : j < m
    · have hjl : j < l.length := by rw [HL.out]; exact hlt
      obtain ⟨bA, off, rfl, hbA, d0, d1, d2⟩ := (HB.out.below hb).drop1 hjl
      have hxs := HS.out _ (eth_mem2 hjl)
      have hst := hER.out
      have hof2 := hof.out
      rw [eth_drop hjl] at hst hof2
      rw [ERis] at hst
      obtain ⟨a, b, k1, k2, k3, k4, k5, hER3⟩ := hst
      have hstep : egro (eth l j) = ((dec (eth l j).x).length : Int) - ((b : Int) - (a : Int)) := by unfold egro; rw [k1, k2]
      have hgt := egrow_takeO hjl
      rw [hstep] at hgt
      have hof3 : ofR o (⟨(eth l j).f, (eth l j).t, q + ((eth l j).f - p), q + ((eth l j).f - p) + ((dec (eth l j).x).length : Int)⟩ :: rawc (eth l j).t (q + ((eth l j).f - p) + ((dec (eth l j).x).length : Int)) (tri (l.drop (j + 1)))) = pof l := hof2
      rw [k1, k2] at hof3
      rw [k1] at d0
      rw [k2] at d1
      have HER3 := Lib.hid hER3
      have HOF3 := Lib.hid hof3
      have HGT := Lib.hid hgt
      clear k1 k2 hER3 hof2 hof3 hER hof hstep hgt
      generalize hxx : (eth l j).x = xx at *
      clear hxx
      have hdl := dec_len xx
      have i1 : (0 : Int) ≤ j := by omega
      have i2 : (j : Int) < m := by omega
      have hcj : j ≤ d := by omega
      have hs1 := fun W => cut_hdO (P := Try.prog) Try.underlying33 hj0 (some ⟨bA, off, none⟩) m d j hcj W
      have x6 : Below wr.heap.size wr (wr.alloc (.cells #[.int .i64 (a : Int), .int .i64 (b : Int), .string xx] 36)) := (Below.refl _ _).alloc (Nat.le_refl _) _
      have R6 : RawAt 36 (wr.alloc (.cells #[.int .i64 (a : Int), .int .i64 (b : Int), .string xx] 36)) wr.heap.size #[.int .i64 (a : Int), .int .i64 (b : Int), .string xx] := heap_alloc_new wr _
      have HR6 := Lib.hid R6
      obtain ⟨xb, hxb⟩ : ∃ xb, xb = wr.heap.size := ⟨_, rfl⟩
      rw [← hxb] at HR6
      have HXB := Lib.hid hxb
      clear hxb R6
      have r60 := RawAt.cell HR6.out 0
      simp at r60
      go_wp2_with fail
      rw [← HXB.out]
      generalize wr.alloc (.cells #[.int .i64 (a : Int), .int .i64 (b : Int), .string xx] 36) = W6 at *
      have hb6 := hb.trans (x6.mono hszw)
      have hown6 := Lib.hid (own_below hown.out x6)
      clear hown d0 d1 d2
      obtain ⟨gO, hgO⟩ : ∃ g, g = gk := ⟨_, rfl⟩
      subst hgO
      obtain ⟨wo, hwo⟩ : ∃ x, x = wr := ⟨_, rfl⟩
      subst hwo
      go_loopg [6, 24] j (fun g at_ i w2 => ∃ (k : Nat), i = .int .i64 k ∧ k ≤ j ∧ j - k ≤ g ∧ Below W6.heap.size W6 w2 ∧ Hid (at_ = .int .i64 ((a : Int) + egrow (l.take k))))
      case atStart => exact ⟨0, rfl, by omega, by omega, Below.refl _ _, Lib.hid (by simp [egrow])⟩
      case round =>
        obtain ⟨k, rfl, k1, k2, hbk, hat⟩ := hrel
        have hat := hat.out
        have hzb := HGB.out k (by omega)
        have HGT2 := Lib.hid fun (h : k < l.length) => egrow_takeO h
        obtain ⟨zv, hzv⟩ : ∃ zv, zv = egrow (l.take k) := ⟨_, rfl⟩
        rw [← hzv] at hat HGT2 hzb
        subst hat
        have HZ := Lib.hid hzv
        clear hzv
        obtain ⟨hzb1, hzb2⟩ := hzb
        by_cases hkj : k < j
        · have hkl : k < l.length := by omega
          obtain ⟨a2, b2, g1, g2, g4, g5⟩ := HAt.out k hkl
          obtain ⟨bA2, off2, hAA, hbA2, e0, e1, e2⟩ := (HB.out.below (hb6.trans (hbk.mono hb6.size))).drop1 hkl
          injection hAA with hAA
          injection hAA with hAA1 hAA2
          subst hAA1 hAA2
          rw [g1] at e0
          rw [g2] at e1
          have hst := Lib.hid (HGT2.out hkl)
          have hxs2 := HS.out _ (eth_mem2 hkl)
          have heg : egro (eth l k) = ((dec (eth l k).x).length : Int) - ((b2 : Int) - (a2 : Int)) := by unfold egro; rw [g1, g2]
          have HEG := Lib.hid heg
          clear heg g1 g2
          generalize hyy : (eth l k).x = yy at *
          have hdl2 := dec_len yy
          have CD2 := Lib.hid fun W => (rdecode_any yy W (by omega)).mono fun e w' ⟨A, c, he, hb, _⟩ => (⟨A, c, he, hb⟩ : ∃ A c, e = Ending.returned (.slice A (dec yy).length c) ∧ Below W.heap.size W w')
          generalize (dec yy).length = cn at *
          clear hyy
          have f1 : (0 : Int) ≤ k := by omega
          have f2 : (k : Int) < j := by omega
          have hw1 : IntKind.i64.wrap ((a : Int) + zv + (cn : Int)) = (a : Int) + zv + (cn : Int) := IntWalk.i64_in _ (by omega)
          have hw2 : IntKind.i64.wrap ((b2 : Int) - (a2 : Int)) = (b2 : Int) - (a2 : Int) := IntWalk.i64_in _ (by omega)
          have hw3 : IntKind.i64.wrap ((a : Int) + zv + (cn : Int) - ((b2 : Int) - (a2 : Int))) = (a : Int) + zv + (cn : Int) - ((b2 : Int) - (a2 : Int)) := IntWalk.i64_in _ (by omega)
          have y6 : Below wr.heap.size wr (wr.alloc (.cells #[.int .i64 (a2 : Int), .int .i64 (b2 : Int), .string yy] 36)) := (Below.refl _ _).alloc (Nat.le_refl _) _
          have S6 : RawAt 36 (wr.alloc (.cells #[.int .i64 (a2 : Int), .int .i64 (b2 : Int), .string yy] 36)) wr.heap.size #[.int .i64 (a2 : Int), .int .i64 (b2 : Int), .string yy] := heap_alloc_new wr _
          have HS6 := Lib.hid S6
          obtain ⟨yb, hyb⟩ : ∃ yb, yb = wr.heap.size := ⟨_, rfl⟩
          rw [← hyb] at HS6
          have HYB := Lib.hid hyb
          clear hyb S6
          have hbk6 := hbk.trans (y6.mono hbk.size)
          go_wp2_with fail
          rw [← HYB.out]
          generalize wr.alloc (.cells #[.int .i64 (a2 : Int), .int .i64 (b2 : Int), .string yy] 36) = W7 at *
          have MK : Hid (∀ W : World, Below W7.heap.size W7 W → (fun W => W.cell? ⟨yb, 0, none⟩ = some (.int .i64 (a2 : Int)) ∧ W.cell? ⟨yb, 1, none⟩ = some (.int .i64 (b2 : Int)) ∧ W.cell? ⟨yb, 2, none⟩ = some (.string yy) ∧ Below W7.heap.size W7 W) W) := fun W hW => ⟨RawAt.cell (RawAt.below HS6.out hW (RawAt.lt HS6.out)) 0, RawAt.cell (RawAt.below HS6.out hW (RawAt.lt HS6.out)) 1, RawAt.cell (RawAt.below HS6.out hW (RawAt.lt HS6.out)) 2, hW⟩
          have hW2 : Below W7.heap.size W7 W7.drew := (Below.refl _ _).drew
          clear e0 e1 e2
          refine wp_region_noPanic ?_
          refine wp_region_held_drew (S := (fun W => W.cell? ⟨yb, 0, none⟩ = some (.int .i64 (a2 : Int)) ∧ W.cell? ⟨yb, 1, none⟩ = some (.int .i64 (b2 : Int)) ∧ W.cell? ⟨yb, 2, none⟩ = some (.string yy) ∧ Below W7.heap.size W7 W)) (by kernel_rfl) (MK.out _ hW2) (fun hHeld => ?_)
          refine wpAnyH_take (i := 0) (v := ?_) rfl (by kernel_rfl) (by kernel_rfl) (by kernel_rfl) (fun _ _ _ h => h) (Or.inl ⟨by rfl, ?_⟩) hHeld ?_
          rotate_left
          · intro w hSw
            (try dsimp only at hSw)
            go_simp
            try with_reducible rfl
          go_simp
          refine wpAnyH_take (i := 1) (v := ?_) rfl (by kernel_rfl) (by kernel_rfl) (by kernel_rfl) (fun _ _ _ h => h) (Or.inl ⟨by rfl, ?_⟩) hHeld ?_
          rotate_left
          · intro w hSw
            (try dsimp only at hSw)
            go_simp
            try with_reducible rfl
          go_simp
          refine wpAnyH_take (i := 2) (v := ?_) rfl (by kernel_rfl) (by kernel_rfl) (by kernel_rfl) (fun _ _ _ h => h) (Or.inl ⟨by rfl, ?_⟩) hHeld ?_
          rotate_left
          · intro w hSw
            (try dsimp only at hSw)
            go_simp
            try with_reducible rfl
          go_simp
          refine wpAnyH_take (i := 6) (v := ?_) rfl (by kernel_rfl) (by kernel_rfl) (by kernel_rfl) (fun _ _ _ h => h) (Or.inl ⟨by rfl, ?_⟩) hHeld ?_
          rotate_left
          · intro w hSw
            (try dsimp only at hSw)
            go_simp
            try with_reducible rfl
          go_simp
          refine wpAnyH_take (i := 7) (v := ?_) rfl (by kernel_rfl) (by kernel_rfl) (by kernel_rfl) (fun _ _ _ h => h) (Or.inl ⟨by rfl, ?_⟩) hHeld ?_
          rotate_left
          · intro w hSw
            (try dsimp only at hSw)
            go_simp
            try with_reducible rfl
          go_simp
          refine wpAnyH_take (i := 8) (v := ?_) rfl (by kernel_rfl) (by kernel_rfl) (by kernel_rfl) (fun _ _ _ h => h) (Or.inl ⟨by rfl, ?_⟩) hHeld ?_
          rotate_left
          · intro w hSw
            (try dsimp only at hSw)
            go_simp
            try with_reducible rfl
          go_simp
          refine wpAnyH_take (i := 9) (v := ?_) rfl (by kernel_rfl) (by kernel_rfl) (by kernel_rfl) (fun _ _ _ h => h) (Or.inl ⟨by rfl, ?_⟩) hHeld ?_
          rotate_left
          · intro w hSw
            (try dsimp only at hSw)
            go_simp
            try with_reducible rfl
          go_simp
          refine wpAnyH_take (i := 10) (v := ?_) rfl (by kernel_rfl) (by kernel_rfl) (by kernel_rfl) (fun _ _ _ h => h) (Or.inl ⟨by rfl, ?_⟩) hHeld ?_
          rotate_left
          · intro w hSw
            (try dsimp only at hSw)
            go_simp
            try with_reducible rfl
          go_simp
          refine wpAnyH_ready (rs := [3]) (by kernel_rfl) (by simp) ?_
          refine AllReadyH.cons rfl (fun K hK => ?_) ?_
          rotate_left
          · exact AllReadyH.nil
          go_simp
          go_wp2_with (first | (go_at_call 16; ((with_reducible refine (CD2.out _).mono ?_); rintro e w8 ⟨A8, c8, rfl, hb8⟩); have hW2 := hW2.trans (hb8.mono hW2.size)))
          refine hK.out _ _ (MK.out _ hW2) (fun hHeld => ?_)
          clear hK K
          go_simp
          refine wpAnyH_take (i := 4) (v := ?_) rfl (by kernel_rfl) (by kernel_rfl) (by kernel_rfl) (fun _ _ _ h => h) (Or.inl ⟨by rfl, ?_⟩) hHeld ?_
          rotate_left
          · intro w hSw
            (try dsimp only at hSw)
            go_simp
            try with_reducible rfl
          go_simp
          refine wpAnyH_take (i := 5) (v := ?_) rfl (by kernel_rfl) (by kernel_rfl) (by kernel_rfl) (fun _ _ _ h => h) (Or.inl ⟨by rfl, ?_⟩) hHeld ?_
          rotate_left
          · intro w hSw
            (try dsimp only at hSw)
            go_simp
            try with_reducible rfl
          go_simp
          refine wpAnyH_take (i := 11) (v := ?_) rfl (by kernel_rfl) (by kernel_rfl) (by kernel_rfl) (fun _ _ _ h => h) (Or.inl ⟨by rfl, ?_⟩) hHeld ?_
          rotate_left
          · intro w hSw
            (try dsimp only at hSw)
            go_simp
            try with_reducible rfl
          go_simp
          refine wpAnyH_take (i := 12) (v := ?_) rfl (by kernel_rfl) (by kernel_rfl) (by kernel_rfl) (fun _ _ _ h => h) (Or.inl ⟨by rfl, ?_⟩) hHeld ?_
          rotate_left
          · intro w hSw
            (try dsimp only at hSw)
            go_simp
            try with_reducible rfl
          go_simp
          refine wpAnyH_done (by kernel_rfl) ?_ _
          refine NoPanic.normal ?_
          go_wp2
          go_roundg (gk - 1)
          case measure => omega
          case rel => exact ⟨k + 1, by go_num, by omega, by omega, hbk6.trans (hW2.mono hbk6.size), Lib.hid (by rw [hst.out, HEG.out]; congr 1; omega)⟩
        · have hkj2 : k = j := by omega
          subst hkj2
          have hownk := own_below hown6.out hbk
          have HRk := Lib.hid (HR6.out.below hbk HR6.out.lt)
          have b2' := hb6.trans (hbk.mono hb6.size)
          have CD := Lib.hid fun W => (rdecode_any xx W (by omega)).mono fun e w' ⟨A, c, he, hb, _⟩ => (⟨A, c, he, hb⟩ : ∃ A c, e = Ending.returned (.slice A (dec xx).length c) ∧ Below W.heap.size W w')
          have hqz := hqp.out
          rw [← HZ.out] at hqz
          have hgt := HGT.out
          rw [← HZ.out] at hgt
          have hof := HOF3.out
          rw [show q + ((a : Int) - p) = (a : Int) + zv from by omega] at hof
          clear HGT HOF3 HGT2 hat hown6 r60 HZ hqp HAt HS HB HPO HE0 hs1
          generalize (dec xx).length = cn at *
          have hw1 : IntKind.i64.wrap ((a : Int) + zv + (cn : Int)) = (a : Int) + zv + (cn : Int) := IntWalk.i64_in _ (by omega)
          have HQ2 := Lib.hid (show (a : Int) + zv + (cn : Int) - ((b : Nat) : Int) = egrow (l.take (k + 1)) from by omega)
          have hof : ofR (if (a : Int) = b ∧ (a : Int) + zv + (cn : Int) = (a : Int) + zv then o else match o.getLast? with
              | some d => if d.ob = (a : Int) then o.dropLast ++ [⟨d.oa, b, d.na, (a : Int) + zv + (cn : Int)⟩] else o ++ [⟨a, b, (a : Int) + zv, (a : Int) + zv + (cn : Int)⟩]
              | none => o ++ [⟨a, b, (a : Int) + zv, (a : Int) + zv + (cn : Int)⟩]) (rawc (b : Int) ((a : Int) + zv + (cn : Int)) (tri (l.drop (k + 1)))) = pof l := hof
          have hbs2 := b2'.size
          have hxl := HRk.out.lt
          have hxw : w.heap.size ≤ xb := by have := HXB.out; omega
          have M1 : k + 1 ≤ m := hlt
          have M2 : m - (k + 1) ≤ gO - 1 := by omega
          have M3 : gO - 1 < gO := by omega
          have r2 := RawAt.cell HRk.out 2
          simp at r2
          clear hqz hgt hxs hdl hzb1 hzb2 HXB hb x6 hbk hb6 hbA hcj hjl hlt
          by_cases g0 : cn = 0 ∧ a = b
          · obtain ⟨rfl, rfl⟩ := g0
            rw [if_pos ⟨rfl, by omega⟩] at hof
            have HOF := Lib.hid hof
            clear hof
            go_wp2_with fail
            with_reducible refine (CD.out _).mono ?_
            rintro e w8 ⟨A8, c8, rfl, hb8⟩
            have q8 := b2'.trans (hb8.mono hbs2)
            have HR8 := Lib.hid (HRk.out.below hb8 hxl)
            have hown8 := own_below hownk hb8
            have s0 := RawAt.cell HR8.out 0
            have s1 := RawAt.cell HR8.out 1
            simp at s0 s1
            have hsz8 := q8.size
            have hx8 := HR8.out.lt
            clear hownk HRk r2 b2' hb8 CD
            have HO8 := Lib.hid hown8
            clear hown8
            go_wp2
            go_roundg (gO - 1)
            case measure => exact M3
            case rel => exact ⟨k + 1, a, (a : Int) + zv + ((0 : Nat) : Int), o, by go_num, M1, M2, q8, k5, by omega, HQ2, HER3, HOF, HO8⟩
          · rw [if_neg (fun h => g0 ⟨by omega, by omega⟩)] at hof
            have y1 : (((cn : Int) == 0) = true ∧ ((a : Int) == (b : Int)) = false) ∨ ((cn : Int) == 0) = false := by
              by_cases gc : cn = 0
              · exact .inl ⟨by simp [gc], by simp; omega⟩
              · exact .inr (by simp; omega)
            rcases List.eq_nil_or_concat o with rfl | ⟨os, dd, rfl⟩
            · have HOF := Lib.hid (show ofR ([] ++ [⟨a, b, (a : Int) + zv, (a : Int) + zv + (cn : Int)⟩]) _ = pof l from hof)
              clear hof g0
              obtain ⟨A9, c9, hv9, _, _, _⟩ := chs_of_own hownk
              subst hv9
              have kz : IntKind.i64.wrap ((0 : Int) - 1) = -1 := IntWalk.i64_in _ (by omega)
              rcases y1 with ⟨y1, y2⟩ | y1
              all_goals
                go_wp2_with fail
                with_reducible refine (CD.out _).mono ?_
                rintro e w8 ⟨A8, c8, rfl, hb8⟩
                have q8 := b2'.trans (hb8.mono hbs2)
                have HR8 := Lib.hid (HRk.out.below hb8 hxl)
                have hown8 := own_below hownk hb8
                have s0 := RawAt.cell HR8.out 0
                have s1 := RawAt.cell HR8.out 1
                simp at s0 s1
                have hsz8 := q8.size
                have hx8 := HR8.out.lt
                clear hownk HRk r2 b2' hb8 CD
                have HO9 := Lib.hid hown8
                clear hown8
                go_wp2_with fail
                have hW2 : Below w8.heap.size w8 w8.drew := (Below.refl _ _).drew
                have MK : Hid (∀ W : World, Below w8.heap.size w8 W → (fun W => W.cell? ⟨xb, 0, none⟩ = some (.int .i64 (a : Int)) ∧ Below w8.heap.size w8 W) W) := fun W hW => ⟨RawAt.cell (RawAt.below HR8.out hW hx8) 0, hW⟩
                refine wp_region_noPanic ?_
                refine wp_region_held_drew (S := (fun W => W.cell? ⟨xb, 0, none⟩ = some (.int .i64 (a : Int)) ∧ Below w8.heap.size w8 W)) (by kernel_rfl) (MK.out _ hW2) (fun hHeld => ?_)
                refine wpAnyH_take (i := 0) (v := ?_) rfl (by kernel_rfl) (by kernel_rfl) (by kernel_rfl) (fun _ _ _ h => h) (Or.inl ⟨by rfl, ?_⟩) hHeld ?_
                rotate_left
                · intro w hSw
                  (try dsimp only at hSw)
                  go_simp
                  try with_reducible rfl
                go_simp
                refine wpAnyH_take (i := 1) (v := ?_) rfl (by kernel_rfl) (by kernel_rfl) (by kernel_rfl) (fun _ _ _ h => h) (Or.inl ⟨by rfl, ?_⟩) hHeld ?_
                rotate_left
                · intro w hSw
                  (try dsimp only at hSw)
                  go_simp
                  try with_reducible rfl
                go_simp
                refine wpAnyH_take (i := 2) (v := ?_) rfl (by kernel_rfl) (by kernel_rfl) (by kernel_rfl) (fun _ _ _ h => h) (Or.inl ⟨by rfl, ?_⟩) hHeld ?_
                rotate_left
                · intro w hSw
                  (try dsimp only at hSw)
                  go_simp
                  try with_reducible rfl
                go_simp
                refine wpAnyH_take (i := 3) (v := undef) rfl (by kernel_rfl) (by kernel_rfl) (by kernel_rfl) (fun _ _ _ h => h) (Or.inr ⟨by rfl, rfl⟩) hHeld ?_
                go_simp
                refine wpAnyH_take (i := 4) (v := undef) rfl (by kernel_rfl) (by kernel_rfl) (by kernel_rfl) (fun _ _ _ h => h) (Or.inr ⟨by rfl, rfl⟩) hHeld ?_
                go_simp
                refine wpAnyH_take (i := 5) (v := undef) rfl (by kernel_rfl) (by kernel_rfl) (by kernel_rfl) (fun _ _ _ h => h) (Or.inr ⟨by rfl, rfl⟩) hHeld ?_
                go_simp
                refine wpAnyH_take (i := 6) (v := undef) rfl (by kernel_rfl) (by kernel_rfl) (by kernel_rfl) (fun _ _ _ h => h) (Or.inr ⟨by rfl, rfl⟩) hHeld ?_
                go_simp
                refine wpAnyH_take (i := 7) (v := undef) rfl (by kernel_rfl) (by kernel_rfl) (by kernel_rfl) (fun _ _ _ h => h) (Or.inr ⟨by rfl, rfl⟩) hHeld ?_
                go_simp
                refine wpAnyH_take (i := 8) (v := undef) rfl (by kernel_rfl) (by kernel_rfl) (by kernel_rfl) (fun _ _ _ h => h) (Or.inr ⟨by rfl, rfl⟩) hHeld ?_
                go_simp
                refine wpAnyH_take (i := 9) (v := undef) rfl (by kernel_rfl) (by kernel_rfl) (by kernel_rfl) (fun _ _ _ h => h) (Or.inr ⟨by rfl, rfl⟩) hHeld ?_
                go_simp
                refine wpAnyH_take (i := 10) (v := undef) rfl (by kernel_rfl) (by kernel_rfl) (by kernel_rfl) (fun _ _ _ h => h) (Or.inr ⟨by rfl, rfl⟩) hHeld ?_
                go_simp
                refine wpAnyH_take (i := 11) (v := undef) rfl (by kernel_rfl) (by kernel_rfl) (by kernel_rfl) (fun _ _ _ h => h) (Or.inr ⟨by rfl, rfl⟩) hHeld ?_
                go_simp
                refine wpAnyH_take (i := 12) (v := ?_) rfl (by kernel_rfl) (by kernel_rfl) (by kernel_rfl) (fun _ _ _ h => h) (Or.inl ⟨by rfl, ?_⟩) hHeld ?_
                rotate_left
                · intro w hSw
                  (try dsimp only at hSw)
                  go_simp
                  try with_reducible rfl
                go_simp
                refine wpAnyH_done (by kernel_rfl) ?_ _
                refine NoPanic.normal ?_
                have HO10 := Lib.hid (own_below HO9.out hW2)
                have hlt9 := HO9.out.lt
                go_wp2_with (at_builtin; refine wpList_append_own _ rfl (.tmp 85) (.tmp 97) _ rfl w.heap.size 57 i0 _ 4 32 Try.underlying25 hi0 hz0 hz1 hz2 rfl (by omega) _ (0) (cflat (([] : List Ch))) rfl (HO10.out.alloc _) ⟨w8.heap.size, 0, none⟩ 1 1 [.int .i64 (a : Int), .int .i64 (b : Int), .int .i64 ((a : Int) + zv), .int .i64 ((a : Int) + zv + (cn : Int))] rfl rfl (World.news_of_block (cs := #[.int .i64 (a : Int), .int .i64 (b : Int), .int .i64 ((a : Int) + zv), .int .i64 ((a : Int) + zv + (cn : Int))]) (t := 57) (fr := (0, 0)) (heap_alloc_new w8.drew _)) (by simp [Value.oneCell']) (by simp only [maxLen]; omega) (by omega) (by simp; omega) ?_; intro v9 w9 hown9 hg9 hnil9; clear hnil9)
                have hb9 : Below w.heap.size w w9 := ((q8.trans (hW2.mono hsz8)).alloc hsz8 (.cells #[.int .i64 (a : Int), .int .i64 (b : Int), .int .i64 ((a : Int) + zv), .int .i64 ((a : Int) + zv + (cn : Int))] 57)).grown hg9 (by simp; omega) (fun k hk => (hlt9 k hk).1)
                have HO11 := Lib.hid (show w9.ownsRow w.heap.size 57 4 v9 ((([] : List Ch)) ++ [(⟨a, b, (a : Int) + zv, (a : Int) + zv + (cn : Int)⟩ : Ch)]).length (cflat ((([] : List Ch)) ++ [(⟨a, b, (a : Int) + zv, (a : Int) + zv + (cn : Int)⟩ : Ch)])) from by rw [cflat_append, List.length_append]; exact hown9)
                clear hown9 hg9 HO9 HO10 hlt9 s0 s1 MK hHeld
                go_wp2
                go_roundg (gO - 1)
                case measure => exact M3
                case rel => exact ⟨k + 1, b, (a : Int) + zv + (cn : Int), _, by go_num, M1, M2, hb9, k5, by simp, HQ2, HER3, HOF, HO11⟩
            · rw [List.concat_eq_append] at hof hoj hownk
              rw [List.getLast?_append, List.dropLast_concat] at hof
              have hof : ofR (if dd.ob = (a : Int) then os ++ [⟨dd.oa, b, dd.na, (a : Int) + zv + (cn : Int)⟩] else (os ++ [dd]) ++ [⟨a, b, (a : Int) + zv, (a : Int) + zv + (cn : Int)⟩]) (rawc (b : Int) ((a : Int) + zv + (cn : Int)) (tri (l.drop (k + 1)))) = pof l := hof
              have hln : (os ++ [dd]).length = os.length + 1 := by simp
              rw [hln] at hoj hownk
              obtain ⟨g9, c9, hv9⟩ := own_slice hownk (by omega)
              subst hv9
              have hcd : (cflat (os ++ [dd]))[os.length * 4 + 1]? = some (.int .i64 dd.ob) ∧ (cflat (os ++ [dd]))[os.length * 4 + 3]? = some (.int .i64 dd.nb) := by
                have h1 := cflat_at (os ++ [dd]) os.length (by simp)
                have h2 : cth (os ++ [dd]) os.length = dd := by simp [cth, List.getD]
                rw [h2] at h1
                exact ⟨h1.2.1, h1.2.2.2⟩
              obtain ⟨HC1, HC3⟩ := hcd
              have HC1 := Lib.hid HC1
              have HC3 := Lib.hid HC3
              have kz : IntKind.i64.wrap ((os.length : Int) + 1 - 1) = (os.length : Int) := by rw [show (os.length : Int) + 1 - 1 = (os.length : Int) from by omega]; exact IntWalk.i64_in _ (by omega)
              have z0 : (0 : Int) ≤ (os.length : Int) := by omega
              have z1 : (os.length : Int) < (os.length : Int) + 1 := by omega
              have z2 : decide ((0 : Int) ≤ (os.length : Int)) = true := decide_eq_true z0
              by_cases g3 : dd.ob = (a : Int)
              · rw [if_pos g3] at hof
                have HOF := Lib.hid hof
                have y3 : (dd.ob == (a : Int)) = true := beq_iff_eq.2 g3
                clear hof g0 g3
                rcases y1 with ⟨y1, y2⟩ | y1
                all_goals
                  go_wp2_with fail
                  with_reducible refine (CD.out _).mono ?_
                  rintro e w8 ⟨A8, c8, rfl, hb8⟩
                  have q8 := b2'.trans (hb8.mono hbs2)
                  have HR8 := Lib.hid (HRk.out.below hb8 hxl)
                  have hown8 := own_below hownk hb8
                  have s0 := RawAt.cell HR8.out 0
                  have s1 := RawAt.cell HR8.out 1
                  simp at s0 s1
                  have hsz8 := q8.size
                  have hx8 := HR8.out.lt
                  clear hownk HRk r2 b2' hb8 CD
                  have HO9 := Lib.hid hown8
                  clear hown8
                  go_wp2_with fail
                  have hraw := own_rawO HO9.out
                  have hW2 : Below w8.heap.size w8 w8.drew := (Below.refl _ _).drew
                  have MK : Hid (∀ W : World, Below w8.heap.size w8 W → (fun W => W.cell? ⟨xb, 0, none⟩ = some (.int .i64 (a : Int)) ∧ W.cell? ⟨g9, os.length * 4 + 1, none⟩ = some (.int .i64 dd.ob) ∧ Below w8.heap.size w8 W) W) := fun W hW => ⟨RawAt.cell (RawAt.below HR8.out hW hx8) 0, ((old_cells hW).1 _ _ hraw.2.2.1).trans (hraw.1 _ _ HC1.out), hW⟩
                  refine wp_region_noPanic ?_
                  refine wp_region_held_drew (S := (fun W => W.cell? ⟨xb, 0, none⟩ = some (.int .i64 (a : Int)) ∧ W.cell? ⟨g9, os.length * 4 + 1, none⟩ = some (.int .i64 dd.ob) ∧ Below w8.heap.size w8 W)) (by kernel_rfl) (MK.out _ hW2) (fun hHeld => ?_)
                  refine wpAnyH_take (i := 0) (v := ?_) rfl (by kernel_rfl) (by kernel_rfl) (by kernel_rfl) (fun _ _ _ h => h) (Or.inl ⟨by rfl, ?_⟩) hHeld ?_
                  rotate_left
                  · intro w hSw
                    (try dsimp only at hSw)
                    go_simp
                    try with_reducible rfl
                  go_simp
                  refine wpAnyH_take (i := 1) (v := ?_) rfl (by kernel_rfl) (by kernel_rfl) (by kernel_rfl) (fun _ _ _ h => h) (Or.inl ⟨by rfl, ?_⟩) hHeld ?_
                  rotate_left
                  · intro w hSw
                    (try dsimp only at hSw)
                    go_simp
                    try with_reducible rfl
                  go_simp
                  refine wpAnyH_take (i := 2) (v := ?_) rfl (by kernel_rfl) (by kernel_rfl) (by kernel_rfl) (fun _ _ _ h => h) (Or.inl ⟨by rfl, ?_⟩) hHeld ?_
                  rotate_left
                  · intro w hSw
                    (try dsimp only at hSw)
                    go_simp
                    try with_reducible rfl
                  go_simp
                  refine wpAnyH_take (i := 3) (v := ?_) rfl (by kernel_rfl) (by kernel_rfl) (by kernel_rfl) (fun _ _ _ h => h) (Or.inl ⟨by rfl, ?_⟩) hHeld ?_
                  rotate_left
                  · intro w hSw
                    (try dsimp only at hSw)
                    go_simp
                    try with_reducible rfl
                  go_simp
                  refine wpAnyH_take (i := 4) (v := ?_) rfl (by kernel_rfl) (by kernel_rfl) (by kernel_rfl) (fun _ _ _ h => h) (Or.inl ⟨by rfl, ?_⟩) hHeld ?_
                  rotate_left
                  · intro w hSw
                    (try dsimp only at hSw)
                    go_simp
                    try with_reducible rfl
                  go_simp
                  refine wpAnyH_take (i := 5) (v := ?_) rfl (by kernel_rfl) (by kernel_rfl) (by kernel_rfl) (fun _ _ _ h => h) (Or.inl ⟨by rfl, ?_⟩) hHeld ?_
                  rotate_left
                  · intro w hSw
                    (try dsimp only at hSw)
                    go_simp
                    try with_reducible rfl
                  go_simp
                  refine wpAnyH_take (i := 6) (v := ?_) rfl (by kernel_rfl) (by kernel_rfl) (by kernel_rfl) (fun _ _ _ h => h) (Or.inl ⟨by rfl, ?_⟩) hHeld ?_
                  rotate_left
                  · intro w hSw
                    (try dsimp only at hSw)
                    go_simp
                    try with_reducible rfl
                  go_simp
                  refine wpAnyH_take (i := 7) (v := ?_) rfl (by kernel_rfl) (by kernel_rfl) (by kernel_rfl) (fun _ _ _ h => h) (Or.inl ⟨by rfl, ?_⟩) hHeld ?_
                  rotate_left
                  · intro w hSw
                    (try dsimp only at hSw)
                    go_simp
                    try with_reducible rfl
                  go_simp
                  refine wpAnyH_take (i := 8) (v := ?_) rfl (by kernel_rfl) (by kernel_rfl) (by kernel_rfl) (fun _ _ _ h => h) (Or.inl ⟨by rfl, ?_⟩) hHeld ?_
                  rotate_left
                  · intro w hSw
                    (try dsimp only at hSw)
                    go_simp
                    try with_reducible rfl
                  go_simp
                  refine wpAnyH_take (i := 9) (v := ?_) rfl (by kernel_rfl) (by kernel_rfl) (by kernel_rfl) (fun _ _ _ h => h) (Or.inl ⟨by rfl, ?_⟩) hHeld ?_
                  rotate_left
                  · intro w hSw
                    (try dsimp only at hSw)
                    go_simp
                    try with_reducible rfl
                  go_simp
                  refine wpAnyH_take (i := 10) (v := ?_) rfl (by kernel_rfl) (by kernel_rfl) (by kernel_rfl) (fun _ _ _ h => h) (Or.inl ⟨by rfl, ?_⟩) hHeld ?_
                  rotate_left
                  · intro w hSw
                    (try dsimp only at hSw)
                    go_simp
                    try with_reducible rfl
                  go_simp
                  refine wpAnyH_take (i := 11) (v := ?_) rfl (by kernel_rfl) (by kernel_rfl) (by kernel_rfl) (fun _ _ _ h => h) (Or.inl ⟨by rfl, ?_⟩) hHeld ?_
                  rotate_left
                  · intro w hSw
                    (try dsimp only at hSw)
                    go_simp
                    try with_reducible rfl
                  go_simp
                  refine wpAnyH_take (i := 12) (v := ?_) rfl (by kernel_rfl) (by kernel_rfl) (by kernel_rfl) (fun _ _ _ h => h) (Or.inl ⟨by rfl, ?_⟩) hHeld ?_
                  rotate_left
                  · intro w hSw
                    (try dsimp only at hSw)
                    go_simp
                    try with_reducible rfl
                  go_simp
                  refine wpAnyH_done (by kernel_rfl) ?_ _
                  refine NoPanic.normal ?_
                  have HO10 := Lib.hid (own_below HO9.out hW2)
                  have e1 := (own_rawO HO10.out).1 _ _ HC1.out
                  have e3 := (own_rawO HO10.out).1 _ _ HC3.out
                  have f1 := (own_rawO HO10.out).2.1 (os.length * 4 + 1)
                  have f3 := (own_rawO HO10.out).2.1 (os.length * 4 + 3)
                  have HO12 := Lib.hid (own_below (own_setO HO9.out (i := os.length * 4 + 1) (by omega) (.int .i64 (b : Int))) (show Below _ _ (w8.setCell ⟨g9, os.length * 4 + 1, none⟩ (.int .i64 (b : Int))).drew from (Below.refl _ _).drew))
                  have hc3 : ((cflat (os ++ [dd])).set (os.length * 4 + 1) (.int .i64 (b : Int)))[os.length * 4 + 3]? = some (.int .i64 dd.nb) := by rw [List.getElem?_set_ne (by omega)]; exact HC3.out
                  have e4 := (own_rawO HO12.out).1 _ _ hc3
                  have f4 := (own_rawO HO12.out).2.1 (os.length * 4 + 3)
                  clear hc3
                  have hg9 := hraw.2.2.2
                  have HO11 := Lib.hid (show ((w8.drew.setCell ⟨g9, os.length * 4 + 1, none⟩ (.int .i64 (b : Int))).setCell ⟨g9, os.length * 4 + 3, none⟩ (.int .i64 ((a : Int) + zv + (cn : Int)))).ownsRow w.heap.size 57 4 (.slice (some ⟨g9, 0, none⟩) (os.length + 1) c9) (os ++ [(⟨dd.oa, b, dd.na, (a : Int) + zv + (cn : Int)⟩ : Ch)]).length (cflat (os ++ [(⟨dd.oa, b, dd.na, (a : Int) + zv + (cn : Int)⟩ : Ch)])) from by
                    rw [← cflat_set, show (os ++ [(⟨dd.oa, b, dd.na, (a : Int) + zv + (cn : Int)⟩ : Ch)]).length = os.length + 1 from by simp]
                    exact own_setO (own_setO HO10.out (by omega) _) (by omega) _)
                  have hb9 : Below w.heap.size w ((w8.drew.setCell ⟨g9, os.length * 4 + 1, none⟩ (.int .i64 (b : Int))).setCell ⟨g9, os.length * 4 + 3, none⟩ (.int .i64 ((a : Int) + zv + (cn : Int)))) := ((q8.trans (hW2.mono hsz8)).setCell (p := ⟨g9, _, none⟩) hg9 _).setCell (p := ⟨g9, _, none⟩) hg9 _
                  clear HO9 HO10 HO12 MK hHeld hraw HC1 HC3
                  go_wp2
                  go_roundg (gO - 1)
                  case measure => exact M3
                  case rel => exact ⟨k + 1, b, (a : Int) + zv + (cn : Int), _, by go_num, M1, M2, hb9, k5, by simp; omega, HQ2, HER3, HOF, HO11⟩
              · rw [if_neg g3] at hof
                have HOF := Lib.hid hof
                have y3 : (dd.ob == (a : Int)) = false := by simp [g3]
                clear hof g0 g3
                rcases y1 with ⟨y1, y2⟩ | y1
                all_goals
                  go_wp2_with fail
                  with_reducible refine (CD.out _).mono ?_
                  rintro e w8 ⟨A8, c8, rfl, hb8⟩
                  have q8 := b2'.trans (hb8.mono hbs2)
                  have HR8 := Lib.hid (HRk.out.below hb8 hxl)
                  have hown8 := own_below hownk hb8
                  have s0 := RawAt.cell HR8.out 0
                  have s1 := RawAt.cell HR8.out 1
                  simp at s0 s1
                  have hsz8 := q8.size
                  have hx8 := HR8.out.lt
                  clear hownk HRk r2 b2' hb8 CD
                  have HO9 := Lib.hid hown8
                  clear hown8
                  go_wp2_with fail
                  have hraw := own_rawO HO9.out
                  have hW2 : Below w8.heap.size w8 w8.drew := (Below.refl _ _).drew
                  have MK : Hid (∀ W : World, Below w8.heap.size w8 W → (fun W => W.cell? ⟨xb, 0, none⟩ = some (.int .i64 (a : Int)) ∧ W.cell? ⟨g9, os.length * 4 + 1, none⟩ = some (.int .i64 dd.ob) ∧ Below w8.heap.size w8 W) W) := fun W hW => ⟨RawAt.cell (RawAt.below HR8.out hW hx8) 0, ((old_cells hW).1 _ _ hraw.2.2.1).trans (hraw.1 _ _ HC1.out), hW⟩
                  refine wp_region_noPanic ?_
                  refine wp_region_held_drew (S := (fun W => W.cell? ⟨xb, 0, none⟩ = some (.int .i64 (a : Int)) ∧ W.cell? ⟨g9, os.length * 4 + 1, none⟩ = some (.int .i64 dd.ob) ∧ Below w8.heap.size w8 W)) (by kernel_rfl) (MK.out _ hW2) (fun hHeld => ?_)
                  refine wpAnyH_take (i := 0) (v := ?_) rfl (by kernel_rfl) (by kernel_rfl) (by kernel_rfl) (fun _ _ _ h => h) (Or.inl ⟨by rfl, ?_⟩) hHeld ?_
                  rotate_left
                  · intro w hSw
                    (try dsimp only at hSw)
                    go_simp
                    try with_reducible rfl
                  go_simp
                  refine wpAnyH_take (i := 1) (v := ?_) rfl (by kernel_rfl) (by kernel_rfl) (by kernel_rfl) (fun _ _ _ h => h) (Or.inl ⟨by rfl, ?_⟩) hHeld ?_
                  rotate_left
                  · intro w hSw
                    (try dsimp only at hSw)
                    go_simp
                    try with_reducible rfl
                  go_simp
                  refine wpAnyH_take (i := 2) (v := ?_) rfl (by kernel_rfl) (by kernel_rfl) (by kernel_rfl) (fun _ _ _ h => h) (Or.inl ⟨by rfl, ?_⟩) hHeld ?_
                  rotate_left
                  · intro w hSw
                    (try dsimp only at hSw)
                    go_simp
                    try with_reducible rfl
                  go_simp
                  refine wpAnyH_take (i := 3) (v := ?_) rfl (by kernel_rfl) (by kernel_rfl) (by kernel_rfl) (fun _ _ _ h => h) (Or.inl ⟨by rfl, ?_⟩) hHeld ?_
                  rotate_left
                  · intro w hSw
                    (try dsimp only at hSw)
                    go_simp
                    try with_reducible rfl
                  go_simp
                  refine wpAnyH_take (i := 4) (v := ?_) rfl (by kernel_rfl) (by kernel_rfl) (by kernel_rfl) (fun _ _ _ h => h) (Or.inl ⟨by rfl, ?_⟩) hHeld ?_
                  rotate_left
                  · intro w hSw
                    (try dsimp only at hSw)
                    go_simp
                    try with_reducible rfl
                  go_simp
                  refine wpAnyH_take (i := 5) (v := ?_) rfl (by kernel_rfl) (by kernel_rfl) (by kernel_rfl) (fun _ _ _ h => h) (Or.inl ⟨by rfl, ?_⟩) hHeld ?_
                  rotate_left
                  · intro w hSw
                    (try dsimp only at hSw)
                    go_simp
                    try with_reducible rfl
                  go_simp
                  refine wpAnyH_take (i := 6) (v := ?_) rfl (by kernel_rfl) (by kernel_rfl) (by kernel_rfl) (fun _ _ _ h => h) (Or.inl ⟨by rfl, ?_⟩) hHeld ?_
                  rotate_left
                  · intro w hSw
                    (try dsimp only at hSw)
                    go_simp
                    try with_reducible rfl
                  go_simp
                  refine wpAnyH_take (i := 7) (v := ?_) rfl (by kernel_rfl) (by kernel_rfl) (by kernel_rfl) (fun _ _ _ h => h) (Or.inl ⟨by rfl, ?_⟩) hHeld ?_
                  rotate_left
                  · intro w hSw
                    (try dsimp only at hSw)
                    go_simp
                    try with_reducible rfl
                  go_simp
                  refine wpAnyH_take (i := 8) (v := ?_) rfl (by kernel_rfl) (by kernel_rfl) (by kernel_rfl) (fun _ _ _ h => h) (Or.inl ⟨by rfl, ?_⟩) hHeld ?_
                  rotate_left
                  · intro w hSw
                    (try dsimp only at hSw)
                    go_simp
                    try with_reducible rfl
                  go_simp
                  refine wpAnyH_take (i := 9) (v := ?_) rfl (by kernel_rfl) (by kernel_rfl) (by kernel_rfl) (fun _ _ _ h => h) (Or.inl ⟨by rfl, ?_⟩) hHeld ?_
                  rotate_left
                  · intro w hSw
                    (try dsimp only at hSw)
                    go_simp
                    try with_reducible rfl
                  go_simp
                  refine wpAnyH_take (i := 10) (v := ?_) rfl (by kernel_rfl) (by kernel_rfl) (by kernel_rfl) (fun _ _ _ h => h) (Or.inl ⟨by rfl, ?_⟩) hHeld ?_
                  rotate_left
                  · intro w hSw
                    (try dsimp only at hSw)
                    go_simp
                    try with_reducible rfl
                  go_simp
                  refine wpAnyH_take (i := 11) (v := ?_) rfl (by kernel_rfl) (by kernel_rfl) (by kernel_rfl) (fun _ _ _ h => h) (Or.inl ⟨by rfl, ?_⟩) hHeld ?_
                  rotate_left
                  · intro w hSw
                    (try dsimp only at hSw)
                    go_simp
                    try with_reducible rfl
                  go_simp
                  refine wpAnyH_take (i := 12) (v := ?_) rfl (by kernel_rfl) (by kernel_rfl) (by kernel_rfl) (fun _ _ _ h => h) (Or.inl ⟨by rfl, ?_⟩) hHeld ?_
                  rotate_left
                  · intro w hSw
                    (try dsimp only at hSw)
                    go_simp
                    try with_reducible rfl
                  go_simp
                  refine wpAnyH_done (by kernel_rfl) ?_ _
                  refine NoPanic.normal ?_
                  clear hraw HC1 HC3
                  rw [← hln] at HO9
                  have HO10 := Lib.hid (own_below HO9.out hW2)
                  have hlt9 := HO9.out.lt
                  go_wp2_with (at_builtin; refine wpList_append_own _ rfl (.tmp 85) (.tmp 97) _ rfl w.heap.size 57 i0 _ 4 32 Try.underlying25 hi0 hz0 hz1 hz2 rfl (by omega) (.slice (some ⟨g9, 0, none⟩) (os ++ [dd]).length c9) ((os ++ [dd]).length) (cflat (os ++ [dd])) (by rw [hln]; rfl) (HO10.out.alloc _) ⟨w8.heap.size, 0, none⟩ 1 1 [.int .i64 (a : Int), .int .i64 (b : Int), .int .i64 ((a : Int) + zv), .int .i64 ((a : Int) + zv + (cn : Int))] rfl rfl (World.news_of_block (cs := #[.int .i64 (a : Int), .int .i64 (b : Int), .int .i64 ((a : Int) + zv), .int .i64 ((a : Int) + zv + (cn : Int))]) (t := 57) (fr := (0, 0)) (heap_alloc_new w8.drew _)) (by simp [Value.oneCell']) (by rw [hln]; simp only [maxLen]; omega) (by rw [hln]; omega) (by simp; omega) ?_; intro v9 w9 hown9 hg9 hnil9; clear hnil9)
                  have hb9 : Below w.heap.size w w9 := ((q8.trans (hW2.mono hsz8)).alloc hsz8 (.cells #[.int .i64 (a : Int), .int .i64 (b : Int), .int .i64 ((a : Int) + zv), .int .i64 ((a : Int) + zv + (cn : Int))] 57)).grown hg9 (by simp; omega) (fun k hk => (hlt9 k hk).1)
                  have HO11 := Lib.hid (show w9.ownsRow w.heap.size 57 4 v9 ((os ++ [dd]) ++ [(⟨a, b, (a : Int) + zv, (a : Int) + zv + (cn : Int)⟩ : Ch)]).length (cflat ((os ++ [dd]) ++ [(⟨a, b, (a : Int) + zv, (a : Int) + zv + (cn : Int)⟩ : Ch)])) from by rw [cflat_append, List.length_append]; exact hown9)
                  clear hown9 hg9 HO9 HO10 hlt9 s0 s1 MK hHeld
                  go_wp2
                  go_roundg (gO - 1)
                  case measure => exact M3
                  case rel => exact ⟨k + 1, b, (a : Int) + zv + (cn : Int), _, by go_num, M1, M2, hb9, k5, by simp; omega, HQ2, HER3, HOF, HO11⟩
    · have hj : j = m := by omega
      have hof2 := hof.out
      rw [List.drop_of_length_le (by rw [HL.out]; omega)] at hof2
      have hof3 : o = pof l := hof2
      obtain ⟨A7, c7, e7, hI7, hl7, hC7⟩ := chs_of_own hown.out
      have HI7 := Lib.hid hI7
      have HO7 := Lib.hid hof3
      subst e7
      clear hI7 hC7 hl7 hown hof2 hof3 hof hER hqp
      go_wp2
      go_ret
      exact ⟨A7, c7, by rw [← HO7.out]; rfl, by rw [← HO7.out]; exact HI7.out, hb⟩
end Go.Proofs.Ythbhjecfiiknaaa
