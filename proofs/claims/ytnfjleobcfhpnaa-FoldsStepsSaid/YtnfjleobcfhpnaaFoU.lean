/- Folds: the document's Over; the law's is. -/
import Derived.Test.YtnfjleobcfhpnaaFoS
import Derived.Test.YtnfjleobcfhpnaaFoE
import Derived.Test.YtnfjleobcfhpnaaFoT
namespace Go.Proofs.Ytnfjleobcfhpnaa
open Go.RowKit Go.Sort
set_option linter.unusedVariables false
/-- What the document's Over answers. -/
def ovB (r : Option Fo) : Fo := match r with | some x => x | none => ⟨-1, 0⟩
set_option maxHeartbeats 16000000 in
set_option maxRecDepth 100000 in
theorem rOverAt15 (n : Int) (A : Option Addr) (m c : Nat) (er at_ : Int) (o : List Fo) (w : World) (hA : RowsAt encF 2 w A o) (hcap : Caps A m c) (hl : o.length = m) (hm : m ≤ 1000) (hg : FGood o) :
    Calls Try.prog 15 #[.agg #[.int .i64 n, .slice A m c, .int .i64 er], .int .i64 at_] w fun e w' => e = .returned (.agg #[.int .i64 (ovB (ovL (hidL o) at_)).f, .int .i64 (ovB (ovL (hidL o) at_)).t]) ∧ Below w.heap.size w w' := by
  have CH := Lib.hid fun (W : World) (hW : Below w.heap.size w W) => rHidden15 n A m c er o W (hA.below hW) hcap hl hm hg
  have hll : (hidL o).length ≤ 1000 := by
    by_cases e : o = []
    · subst e; simp [hidL]
    · obtain ⟨L, y, h1, h2, _⟩ := hid_split _ o rfl e
      rw [h1, List.length_append]; simp; omega
  obtain ⟨hs, hhs⟩ : ∃ hs, hs = hidL o := ⟨_, rfl⟩
  rw [← hhs] at CH hll ⊢
  obtain ⟨M, hM⟩ : ∃ M, M = hs.length := ⟨_, rfl⟩
  have HM := Lib.hid hM
  rw [← hM] at CH hll
  obtain ⟨r, hr⟩ : ∃ r, r = ovL hs at_ := ⟨_, rfl⟩
  have HR := Lib.hid hr
  rw [← hr]
  have xb : Below w.heap.size w ((w.alloc (.cells #[.int .i64 n, .slice A m c, .int .i64 er] 29)).alloc (.cells #[.int .i64 0, .int .i64 0] 33)) := ((Below.refl _ _).alloc (Nat.le_refl _) _).alloc (by simp) _
  have x1 : RawAt 29 ((w.alloc (.cells #[.int .i64 n, .slice A m c, .int .i64 er] 29)).alloc (.cells #[.int .i64 0, .int .i64 0] 33)) w.heap.size #[.int .i64 n, .slice A m c, .int .i64 er] := (new2 w _ _ _ _).1
  have x2 : RawAt 33 ((w.alloc (.cells #[.int .i64 n, .slice A m c, .int .i64 er] 29)).alloc (.cells #[.int .i64 0, .int .i64 0] 33)) (w.heap.size + 1) #[.int .i64 0, .int .i64 0] := (new2 w _ _ _ _).2.1
  obtain ⟨W0, hW0⟩ : ∃ W0, W0 = (w.alloc (.cells #[.int .i64 n, .slice A m c, .int .i64 er] 29)).alloc (.cells #[.int .i64 0, .int .i64 0] 33) := ⟨_, rfl⟩
  rw [← hW0] at xb x1 x2
  have HW0 := Lib.hid hW0
  have X0 := Lib.hid xb
  have R0 := Lib.hid x2
  have c0 := RawAt.cell x1 0
  have c1 := RawAt.cell x1 1
  have c2 := RawAt.cell x1 2
  simp at c0 c1 c2
  clear hA hcap hl hg hhs hM hr hW0 xb x1 x2
  go_enter Try.func15, Try.ntmps15
  go_wp2_with fail
  rw [← HW0.out]
  go_wp2_with fail
  with_reducible refine (CH.out _ X0.out).mono ?_
  rintro e1 w1 ⟨v1, rfl, o1, b1⟩
  have o1' := o1
  rw [HM.out] at o1'
  obtain ⟨A1, c1', e1, hR1, _, _⟩ := rows_of_own encF_len (by omega) o1'
  rw [← HM.out] at e1
  subst e1
  have HR1 := Lib.hid hR1
  have HB1 := Lib.hid (X0.out.trans (b1.mono X0.out.size))
  have HZ1 := Lib.hid (RawAt.below R0.out b1 R0.out.lt)
  clear o1 o1' hR1 b1 CH R0 X0 c0 c1 c2 HW0
  obtain ⟨z, hz⟩ : ∃ z, z = w.heap.size + 1 := ⟨_, rfl⟩
  have hzle : w.heap.size ≤ z := by omega
  rw [← hz] at HZ1 ⊢
  clear hz
  go_wp2_with fail
  go_loopg [10] M (fun g i wr => ∃ (k : Nat), i = .int .i64 k ∧ k ≤ M ∧ M - k ≤ g ∧ Hid (Below w.heap.size w wr) ∧ Hid (Below w1.heap.size w1 wr) ∧ Hid (r = ovL (hs.drop k) at_))
  case atStart => exact ⟨0, rfl, by omega, by omega, HB1, Lib.hid (Below.refl _ _), Lib.hid (by simpa using HR.out)⟩
  case round =>
    clear HB1 HR
    obtain ⟨k, rfl, h1, h2, hb, hb1, hr⟩ := hrel
    have u0 := RawAt.below HZ1.out hb1.out HZ1.out.lt
    have q0 := RawAt.cell u0 0
    have q1 := RawAt.cell u0 1
    have f0 := RawAt.free u0 0
    have f1 := RawAt.free u0 1
    simp at q0 q1
    have hzl : z < wr.heap.size := u0.lt
    by_cases hlt : k < M
    · have hkl : k < hs.length := by rw [← HM.out]; exact hlt
      obtain ⟨bA, off, rfl, hbA, d0, d1⟩ := (HR1.out.below hb1.out).in2F hkl
      have hst := hr.out
      rw [ovL_step hkl] at hst
      have HST := Lib.hid hst
      clear hst hr
      generalize hs[k] = x at *
      have i1 : (0 : Int) ≤ k := by omega
      have i2 : (k : Int) < M := by omega
      have x3 : Below wr.heap.size wr (wr.alloc (.cells #[.int .i64 x.f, .int .i64 x.t] 33)) := (Below.refl _ _).alloc (Nat.le_refl _) _
      have HB3 := Lib.hid (hb.out.trans (x3.mono hb.out.size))
      have HB13 := Lib.hid (hb1.out.trans (x3.mono hb1.out.size))
      have HB0 := Lib.hid hb.out
      have HU0 := Lib.hid u0
      clear hb hb1 u0 x3
      by_cases g1 : x.f < at_
      · have k1 : decide (x.f < at_) = true := decide_eq_true g1
        by_cases g2 : at_ < x.t
        · have k2 : decide (at_ < x.t) = true := decide_eq_true g2
          have e : r = some x := by rw [HST.out, if_pos ⟨g1, g2⟩]
          subst e
          have t00 := (HU0.out.set_ 0 (.int .i64 x.f)).set_ 1 (.int .i64 x.t)
          have hbz := (HB0.out.setCell (p := ⟨z, 0, none⟩) hzle (.int .i64 x.f)).setCell (p := ⟨z, 1, none⟩) hzle (.int .i64 x.t)
          have x5 : Below ((wr.setCell ⟨z, 0, none⟩ (.int .i64 x.f)).setCell ⟨z, 1, none⟩ (.int .i64 x.t)).heap.size ((wr.setCell ⟨z, 0, none⟩ (.int .i64 x.f)).setCell ⟨z, 1, none⟩ (.int .i64 x.t)) (((wr.setCell ⟨z, 0, none⟩ (.int .i64 x.f)).setCell ⟨z, 1, none⟩ (.int .i64 x.t)).alloc (.cells #[.int .i64 x.f, .int .i64 x.t] 33)) := (Below.refl _ _).alloc (Nat.le_refl _) _
          have t0 := RawAt.below t00 x5 t00.lt
          have HBZ := Lib.hid (hbz.trans (x5.mono hbz.size))
          have z0 := RawAt.cell t0 0
          have z1 := RawAt.cell t0 1
          simp at z0 z1
          clear HST g1 g2 t00 hbz x5 t0
          go_wp2
          refine bodyPost_ret (v := .agg #[.int .i64 x.f, .int .i64 x.t]) (by simp [results, Try.results15, go_sem, z0, z1]) rfl ⟨rfl, HBZ.out⟩
        · have k2 : decide (at_ < x.t) = false := decide_eq_false g2
          have HN : Hid (r = ovL (hs.drop (k + 1)) at_) := Lib.hid (by rw [HST.out, if_neg (fun h => g2 h.2)])
          clear HST g1 g2
          go_wp2
          go_roundg (gk - 1)
          case measure => omega
          case rel => exact ⟨k + 1, by go_num, by omega, by omega, HB3, HB13, HN⟩
      · have k1 : decide (x.f < at_) = false := decide_eq_false g1
        have HN : Hid (r = ovL (hs.drop (k + 1)) at_) := Lib.hid (by rw [HST.out, if_neg (fun h => g1 h.1)])
        clear HST g1
        go_wp2
        go_roundg (gk - 1)
        case measure => omega
        case rel => exact ⟨k + 1, by go_num, by omega, by omega, HB3, HB13, HN⟩
    · obtain rfl : M = k := by omega
      have hr2 := hr.out
      rw [List.drop_of_length_le (by rw [← HM.out]; exact Nat.le_refl _)] at hr2
      have e : r = none := by rw [hr2]; rfl
      subst e
      have HBZ := Lib.hid ((hb.out.setCell (p := ⟨z, 0, none⟩) hzle (.int .i64 (-1))).setCell (p := ⟨z, 1, none⟩) hzle (.int .i64 0))
      clear hr hr2 hb hb1 u0
      go_wp2
      refine bodyPost_ret (v := .agg #[.int .i64 (-1), .int .i64 0]) (by simp [results, Try.results15, go_sem, q0, q1]) rfl ⟨rfl, HBZ.out⟩
set_option maxHeartbeats 16000000 in
set_option maxRecDepth 100000 in
theorem fIs_set {sb : Nat} {n : Int} {o : List Fo} {w : World} (h : FSet w sb n o) (A : Option Addr) (m c : Nat) (hA : RowsAt encF 2 w A o) (hcap : Caps A m c) (hl : o.length = m) (hm : m ≤ 1000) (hg : FGood o) :
    Calls Try.prog 13 #[.pointer (some ⟨sb, 0, none⟩), .int .i64 0, .agg #[.int .i64 n, .slice A m c, .int .i64 0]] w fun e w' => e = .returned (.bool true) ∧ Below w.heap.size w w' := by
  have CA := Lib.hid fun (W : World) (hW : Below w.heap.size w W) => fAll_any (h.below hW) (by omega)
  have CL := Lib.hid fun (W : World) (hW : Below w.heap.size w W) => fLen_any (h.below hW)
  have CH := Lib.hid fun (W : World) (hW : Below w.heap.size w W) => fHidden_any (h.below hW) (by omega)
  have CR := Lib.hid fun (W : World) (hW : Below w.heap.size w W) => rHidden15 n A m c 0 o W (hA.below hW) hcap hl hm hg
  have CS := Lib.hid fun (B : Option Addr) (d : Nat) (W : World) (hW : Below w.heap.size w W) (hB : RowsAt encF 2 W B o) => plsp_any B A m d c o W hB (hA.below hW) hl (by omega)
  have hll : (hidL o).length ≤ 1000 := by
    by_cases e : o = []
    · subst e; simp [hidL]
    · obtain ⟨L, y, h1, h2, _⟩ := hid_split _ o rfl e
      rw [h1, List.length_append]; simp; omega
  have CT := Lib.hid fun (B C : Option Addr) (d d' : Nat) (W : World) (hB : RowsAt encF 2 W B (hidL o)) (hC : RowsAt encF 2 W C (hidL o)) => plsp_any B C (hidL o).length d d' (hidL o) W hB hC rfl (by omega)
  have xb : Below w.heap.size w (w.alloc (.cells #[.int .i64 n, .slice A m c, .int .i64 0] 29)) := (Below.refl _ _).alloc (Nat.le_refl _) _
  have x1 : RawAt 29 (w.alloc (.cells #[.int .i64 n, .slice A m c, .int .i64 0] 29)) w.heap.size #[.int .i64 n, .slice A m c, .int .i64 0] := heap_alloc_new w _
  obtain ⟨W0, hW0⟩ : ∃ W0, W0 = w.alloc (.cells #[.int .i64 n, .slice A m c, .int .i64 0] 29) := ⟨_, rfl⟩
  rw [← hW0] at xb x1
  have HW0 := Lib.hid hW0
  have X0 := Lib.hid xb
  have R0 := Lib.hid x1
  have HLL := Lib.hid hl
  rw [hl] at CA
  clear h hA hcap hl hg hW0 xb x1
  have MK : Hid (∀ W : World, Below W0.heap.size W0 W → (fun W => W.cell? ⟨w.heap.size, 0, none⟩ = some (.int .i64 n) ∧ W.cell? ⟨w.heap.size, 1, none⟩ = some (.slice A m c) ∧ W.cell? ⟨w.heap.size, 2, none⟩ = some (.int .i64 0)) W) := Lib.hid fun W hW => ⟨RawAt.cell (R0.out.below hW R0.out.lt) 0, RawAt.cell (R0.out.below hW R0.out.lt) 1, RawAt.cell (R0.out.below hW R0.out.lt) 2⟩
  have hW2 : Below W0.heap.size W0 W0.drew := (Below.refl _ _).drew
  go_enter Try.func13, Try.ntmps13
  go_wp2_with fail
  rw [← HW0.out]
  refine wp_region_noPanic ?_
  refine wp_region_held_drew (S := (fun W => W.cell? ⟨w.heap.size, 0, none⟩ = some (.int .i64 n) ∧ W.cell? ⟨w.heap.size, 1, none⟩ = some (.slice A m c) ∧ W.cell? ⟨w.heap.size, 2, none⟩ = some (.int .i64 0))) (by kernel_rfl) (MK.out _ hW2) (fun hHeld => ?_)
  refine wpAnyH_take (i := 0) (v := ?_) rfl (by kernel_rfl) (by kernel_rfl) (by kernel_rfl) (fun _ _ _ h => h) (Or.inl ⟨by rfl, ?_⟩) hHeld ?_
  rotate_left
  · intro w hSw
    (try dsimp only at hSw)
    go_simp
    try with_reducible rfl
  go_simp
  refine wpAnyH_take (i := 1) (v := ?_) rfl (by kernel_rfl) (by kernel_rfl) (by kernel_rfl) (fun _ _ _ h => h) (Or.inl ⟨by rfl, ?_⟩) hHeld ?_
  rotate_left
  · intro w hSw
    (try dsimp only at hSw)
    go_simp
    try with_reducible rfl
  go_simp
  refine wpAnyH_take (i := 2) (v := ?_) rfl (by kernel_rfl) (by kernel_rfl) (by kernel_rfl) (fun _ _ _ h => h) (Or.inl ⟨by rfl, ?_⟩) hHeld ?_
  rotate_left
  · intro w hSw
    (try dsimp only at hSw)
    go_simp
    try with_reducible rfl
  go_simp
  refine wpAnyH_take (i := 3) (v := ?_) rfl (by kernel_rfl) (by kernel_rfl) (by kernel_rfl) (fun _ _ _ h => h) (Or.inl ⟨by rfl, ?_⟩) hHeld ?_
  rotate_left
  · intro w hSw
    (try dsimp only at hSw)
    go_simp
    try with_reducible rfl
  go_simp
  refine wpAnyH_take (i := 5) (v := ?_) rfl (by kernel_rfl) (by kernel_rfl) (by kernel_rfl) (fun _ _ _ h => h) (Or.inl ⟨by rfl, ?_⟩) hHeld ?_
  rotate_left
  · intro w hSw
    (try dsimp only at hSw)
    go_simp
    try with_reducible rfl
  go_simp
  refine wpAnyH_take (i := 6) (v := ?_) rfl (by kernel_rfl) (by kernel_rfl) (by kernel_rfl) (fun _ _ _ h => h) (Or.inl ⟨by rfl, ?_⟩) hHeld ?_
  rotate_left
  · intro w hSw
    (try dsimp only at hSw)
    go_simp
    try with_reducible rfl
  go_simp
  refine wpAnyH_ready (rs := [4]) (by kernel_rfl) (by simp) ?_
  refine AllReadyH.cons rfl (fun K hK => ?_) ?_
  rotate_left
  · exact AllReadyH.nil
  go_simp
  go_wp2_with (first | (go_at_call 24; ((with_reducible refine (CA.out _ (X0.out.trans (hW2.mono X0.out.size))).mono ?_); rintro e w2 ⟨v2, rfl, o2, b2⟩); obtain ⟨A2, c2, rfl, hR2, _, _⟩ := rows_of_own encF_len (by omega) o2; have hW2 := hW2.trans (b2.mono hW2.size); clear o2) | (go_at_call 34; ((with_reducible refine (CL.out _ (X0.out.trans (hW2.mono X0.out.size))).mono ?_); rintro e w4 ⟨rfl, b4⟩); have hW2 := hW2.trans (b4.mono hW2.size)) | (go_at_call 23; ((with_reducible refine (CH.out _ (X0.out.trans (hW2.mono X0.out.size))).mono ?_); rintro e w5 ⟨v5, rfl, o5, b5⟩); obtain ⟨A5, c5, rfl, hR5, _, _⟩ := rows_of_own encF_len (by omega) o5; have hW2 := hW2.trans (b5.mono hW2.size); clear o5) | (go_at_call 39; ((with_reducible refine (CR.out _ (X0.out.trans (hW2.mono X0.out.size))).mono ?_); rintro e w6 ⟨v6, rfl, o6, b6⟩); obtain ⟨A6, c6, rfl, hR6, _, _⟩ := rows_of_own encF_len (by omega) o6; have hR56 := hR5.below b6; have hW2 := hW2.trans (b6.mono hW2.size); clear o6) | (go_at_call 33; ((with_reducible refine (CT.out _ _ _ _ _ hR56 hR6).mono ?_); rintro e w7 ⟨rfl, b7⟩); have hW2 := hW2.trans (b7.mono hW2.size)) | (go_at_call 33; ((with_reducible refine (CS.out _ _ _ (X0.out.trans (hW2.mono X0.out.size)) hR2).mono ?_); rintro e w3 ⟨rfl, b3⟩); have hW2 := hW2.trans (b3.mono hW2.size)))
  refine hK.out _ _ (MK.out _ hW2) (fun hHeld => ?_)
  clear hK K
  go_simp
  refine wpAnyH_ready (rs := [7]) (by kernel_rfl) (by simp) ?_
  refine AllReadyH.cons rfl (fun K hK => ?_) ?_
  rotate_left
  · exact AllReadyH.nil
  go_simp
  go_wp2_with (first | (go_at_call 24; ((with_reducible refine (CA.out _ (X0.out.trans (hW2.mono X0.out.size))).mono ?_); rintro e w2 ⟨v2, rfl, o2, b2⟩); obtain ⟨A2, c2, rfl, hR2, _, _⟩ := rows_of_own encF_len (by omega) o2; have hW2 := hW2.trans (b2.mono hW2.size); clear o2) | (go_at_call 34; ((with_reducible refine (CL.out _ (X0.out.trans (hW2.mono X0.out.size))).mono ?_); rintro e w4 ⟨rfl, b4⟩); have hW2 := hW2.trans (b4.mono hW2.size)) | (go_at_call 23; ((with_reducible refine (CH.out _ (X0.out.trans (hW2.mono X0.out.size))).mono ?_); rintro e w5 ⟨v5, rfl, o5, b5⟩); obtain ⟨A5, c5, rfl, hR5, _, _⟩ := rows_of_own encF_len (by omega) o5; have hW2 := hW2.trans (b5.mono hW2.size); clear o5) | (go_at_call 39; ((with_reducible refine (CR.out _ (X0.out.trans (hW2.mono X0.out.size))).mono ?_); rintro e w6 ⟨v6, rfl, o6, b6⟩); obtain ⟨A6, c6, rfl, hR6, _, _⟩ := rows_of_own encF_len (by omega) o6; have hR56 := hR5.below b6; have hW2 := hW2.trans (b6.mono hW2.size); clear o6) | (go_at_call 33; ((with_reducible refine (CT.out _ _ _ _ _ hR56 hR6).mono ?_); rintro e w7 ⟨rfl, b7⟩); have hW2 := hW2.trans (b7.mono hW2.size)) | (go_at_call 33; ((with_reducible refine (CS.out _ _ _ (X0.out.trans (hW2.mono X0.out.size)) hR2).mono ?_); rintro e w3 ⟨rfl, b3⟩); have hW2 := hW2.trans (b3.mono hW2.size)))
  refine hK.out _ _ (MK.out _ hW2) (fun hHeld => ?_)
  clear hK K
  go_simp
  refine wpAnyH_take (i := 8) (v := ?_) rfl (by kernel_rfl) (by kernel_rfl) (by kernel_rfl) (fun _ _ _ h => h) (Or.inl ⟨by rfl, ?_⟩) hHeld ?_
  rotate_left
  · intro w hSw
    (try dsimp only at hSw)
    go_simp
    try with_reducible rfl
  go_simp
  refine wpAnyH_take (i := 9) (v := ?_) rfl (by kernel_rfl) (by kernel_rfl) (by kernel_rfl) (fun _ _ _ h => h) (Or.inl ⟨by rfl, ?_⟩) hHeld ?_
  rotate_left
  · intro w hSw
    (try dsimp only at hSw)
    go_simp
    try with_reducible rfl
  go_simp
  refine wpAnyH_take (i := 11) (v := ?_) rfl (by kernel_rfl) (by kernel_rfl) (by kernel_rfl) (fun _ _ _ h => h) (Or.inl ⟨by rfl, ?_⟩) hHeld ?_
  rotate_left
  · intro w hSw
    (try dsimp only at hSw)
    go_simp
    try with_reducible rfl
  go_simp
  refine wpAnyH_take (i := 12) (v := ?_) rfl (by kernel_rfl) (by kernel_rfl) (by kernel_rfl) (fun _ _ _ h => h) (Or.inl ⟨by rfl, ?_⟩) hHeld ?_
  rotate_left
  · intro w hSw
    (try dsimp only at hSw)
    go_simp
    try with_reducible rfl
  go_simp
  refine wpAnyH_ready (rs := [10]) (by kernel_rfl) (by simp) ?_
  refine AllReadyH.cons rfl (fun K hK => ?_) ?_
  rotate_left
  · exact AllReadyH.nil
  go_simp
  go_wp2_with (first | (go_at_call 24; ((with_reducible refine (CA.out _ (X0.out.trans (hW2.mono X0.out.size))).mono ?_); rintro e w2 ⟨v2, rfl, o2, b2⟩); obtain ⟨A2, c2, rfl, hR2, _, _⟩ := rows_of_own encF_len (by omega) o2; have hW2 := hW2.trans (b2.mono hW2.size); clear o2) | (go_at_call 34; ((with_reducible refine (CL.out _ (X0.out.trans (hW2.mono X0.out.size))).mono ?_); rintro e w4 ⟨rfl, b4⟩); have hW2 := hW2.trans (b4.mono hW2.size)) | (go_at_call 23; ((with_reducible refine (CH.out _ (X0.out.trans (hW2.mono X0.out.size))).mono ?_); rintro e w5 ⟨v5, rfl, o5, b5⟩); obtain ⟨A5, c5, rfl, hR5, _, _⟩ := rows_of_own encF_len (by omega) o5; have hW2 := hW2.trans (b5.mono hW2.size); clear o5) | (go_at_call 39; ((with_reducible refine (CR.out _ (X0.out.trans (hW2.mono X0.out.size))).mono ?_); rintro e w6 ⟨v6, rfl, o6, b6⟩); obtain ⟨A6, c6, rfl, hR6, _, _⟩ := rows_of_own encF_len (by omega) o6; have hR56 := hR5.below b6; have hW2 := hW2.trans (b6.mono hW2.size); clear o6) | (go_at_call 33; ((with_reducible refine (CT.out _ _ _ _ _ hR56 hR6).mono ?_); rintro e w7 ⟨rfl, b7⟩); have hW2 := hW2.trans (b7.mono hW2.size)) | (go_at_call 33; ((with_reducible refine (CS.out _ _ _ (X0.out.trans (hW2.mono X0.out.size)) hR2).mono ?_); rintro e w3 ⟨rfl, b3⟩); have hW2 := hW2.trans (b3.mono hW2.size)))
  refine hK.out _ _ (MK.out _ hW2) (fun hHeld => ?_)
  clear hK K
  go_simp
  refine wpAnyH_take (i := 13) (v := ?_) rfl (by kernel_rfl) (by kernel_rfl) (by kernel_rfl) (fun _ _ _ h => h) (Or.inl ⟨by rfl, ?_⟩) hHeld ?_
  rotate_left
  · intro w hSw
    (try dsimp only at hSw)
    go_simp
    try with_reducible rfl
  go_simp
  refine wpAnyH_take (i := 14) (v := ?_) rfl (by kernel_rfl) (by kernel_rfl) (by kernel_rfl) (fun _ _ _ h => h) (Or.inl ⟨by rfl, ?_⟩) hHeld ?_
  rotate_left
  · intro w hSw
    (try dsimp only at hSw)
    go_simp
    try with_reducible rfl
  go_simp
  refine wpAnyH_take (i := 15) (v := ?_) rfl (by kernel_rfl) (by kernel_rfl) (by kernel_rfl) (fun _ _ _ h => h) (Or.inl ⟨by rfl, ?_⟩) hHeld ?_
  rotate_left
  · intro w hSw
    (try dsimp only at hSw)
    go_simp
    try with_reducible rfl
  go_simp
  refine wpAnyH_take (i := 16) (v := ?_) rfl (by kernel_rfl) (by kernel_rfl) (by kernel_rfl) (fun _ _ _ h => h) (Or.inl ⟨by rfl, ?_⟩) hHeld ?_
  rotate_left
  · intro w hSw
    (try dsimp only at hSw)
    go_simp
    try with_reducible rfl
  go_simp
  refine wpAnyH_take (i := 18) (v := ?_) rfl (by kernel_rfl) (by kernel_rfl) (by kernel_rfl) (fun _ _ _ h => h) (Or.inl ⟨by rfl, ?_⟩) hHeld ?_
  rotate_left
  · intro w hSw
    (try dsimp only at hSw)
    go_simp
    try with_reducible rfl
  go_simp
  refine wpAnyH_ready (rs := [17]) (by kernel_rfl) (by simp) ?_
  refine AllReadyH.cons rfl (fun K hK => ?_) ?_
  rotate_left
  · exact AllReadyH.nil
  go_simp
  go_wp2_with (first | (go_at_call 24; ((with_reducible refine (CA.out _ (X0.out.trans (hW2.mono X0.out.size))).mono ?_); rintro e w2 ⟨v2, rfl, o2, b2⟩); obtain ⟨A2, c2, rfl, hR2, _, _⟩ := rows_of_own encF_len (by omega) o2; have hW2 := hW2.trans (b2.mono hW2.size); clear o2) | (go_at_call 34; ((with_reducible refine (CL.out _ (X0.out.trans (hW2.mono X0.out.size))).mono ?_); rintro e w4 ⟨rfl, b4⟩); have hW2 := hW2.trans (b4.mono hW2.size)) | (go_at_call 23; ((with_reducible refine (CH.out _ (X0.out.trans (hW2.mono X0.out.size))).mono ?_); rintro e w5 ⟨v5, rfl, o5, b5⟩); obtain ⟨A5, c5, rfl, hR5, _, _⟩ := rows_of_own encF_len (by omega) o5; have hW2 := hW2.trans (b5.mono hW2.size); clear o5) | (go_at_call 39; ((with_reducible refine (CR.out _ (X0.out.trans (hW2.mono X0.out.size))).mono ?_); rintro e w6 ⟨v6, rfl, o6, b6⟩); obtain ⟨A6, c6, rfl, hR6, _, _⟩ := rows_of_own encF_len (by omega) o6; have hR56 := hR5.below b6; have hW2 := hW2.trans (b6.mono hW2.size); clear o6) | (go_at_call 33; ((with_reducible refine (CT.out _ _ _ _ _ hR56 hR6).mono ?_); rintro e w7 ⟨rfl, b7⟩); have hW2 := hW2.trans (b7.mono hW2.size)) | (go_at_call 33; ((with_reducible refine (CS.out _ _ _ (X0.out.trans (hW2.mono X0.out.size)) hR2).mono ?_); rintro e w3 ⟨rfl, b3⟩); have hW2 := hW2.trans (b3.mono hW2.size)))
  refine hK.out _ _ (MK.out _ hW2) (fun hHeld => ?_)
  clear hK K
  go_simp
  refine wpAnyH_ready (rs := [19]) (by kernel_rfl) (by simp) ?_
  refine AllReadyH.cons rfl (fun K hK => ?_) ?_
  rotate_left
  · exact AllReadyH.nil
  go_simp
  go_wp2_with (first | (go_at_call 24; ((with_reducible refine (CA.out _ (X0.out.trans (hW2.mono X0.out.size))).mono ?_); rintro e w2 ⟨v2, rfl, o2, b2⟩); obtain ⟨A2, c2, rfl, hR2, _, _⟩ := rows_of_own encF_len (by omega) o2; have hW2 := hW2.trans (b2.mono hW2.size); clear o2) | (go_at_call 34; ((with_reducible refine (CL.out _ (X0.out.trans (hW2.mono X0.out.size))).mono ?_); rintro e w4 ⟨rfl, b4⟩); have hW2 := hW2.trans (b4.mono hW2.size)) | (go_at_call 23; ((with_reducible refine (CH.out _ (X0.out.trans (hW2.mono X0.out.size))).mono ?_); rintro e w5 ⟨v5, rfl, o5, b5⟩); obtain ⟨A5, c5, rfl, hR5, _, _⟩ := rows_of_own encF_len (by omega) o5; have hW2 := hW2.trans (b5.mono hW2.size); clear o5) | (go_at_call 39; ((with_reducible refine (CR.out _ (X0.out.trans (hW2.mono X0.out.size))).mono ?_); rintro e w6 ⟨v6, rfl, o6, b6⟩); obtain ⟨A6, c6, rfl, hR6, _, _⟩ := rows_of_own encF_len (by omega) o6; have hR56 := hR5.below b6; have hW2 := hW2.trans (b6.mono hW2.size); clear o6) | (go_at_call 33; ((with_reducible refine (CT.out _ _ _ _ _ hR56 hR6).mono ?_); rintro e w7 ⟨rfl, b7⟩); have hW2 := hW2.trans (b7.mono hW2.size)) | (go_at_call 33; ((with_reducible refine (CS.out _ _ _ (X0.out.trans (hW2.mono X0.out.size)) hR2).mono ?_); rintro e w3 ⟨rfl, b3⟩); have hW2 := hW2.trans (b3.mono hW2.size)))
  refine hK.out _ _ (MK.out _ hW2) (fun hHeld => ?_)
  clear hK K
  go_simp
  refine wpAnyH_ready (rs := [20]) (by kernel_rfl) (by simp) ?_
  refine AllReadyH.cons rfl (fun K hK => ?_) ?_
  rotate_left
  · exact AllReadyH.nil
  go_simp
  go_wp2_with (first | (go_at_call 24; ((with_reducible refine (CA.out _ (X0.out.trans (hW2.mono X0.out.size))).mono ?_); rintro e w2 ⟨v2, rfl, o2, b2⟩); obtain ⟨A2, c2, rfl, hR2, _, _⟩ := rows_of_own encF_len (by omega) o2; have hW2 := hW2.trans (b2.mono hW2.size); clear o2) | (go_at_call 34; ((with_reducible refine (CL.out _ (X0.out.trans (hW2.mono X0.out.size))).mono ?_); rintro e w4 ⟨rfl, b4⟩); have hW2 := hW2.trans (b4.mono hW2.size)) | (go_at_call 23; ((with_reducible refine (CH.out _ (X0.out.trans (hW2.mono X0.out.size))).mono ?_); rintro e w5 ⟨v5, rfl, o5, b5⟩); obtain ⟨A5, c5, rfl, hR5, _, _⟩ := rows_of_own encF_len (by omega) o5; have hW2 := hW2.trans (b5.mono hW2.size); clear o5) | (go_at_call 39; ((with_reducible refine (CR.out _ (X0.out.trans (hW2.mono X0.out.size))).mono ?_); rintro e w6 ⟨v6, rfl, o6, b6⟩); obtain ⟨A6, c6, rfl, hR6, _, _⟩ := rows_of_own encF_len (by omega) o6; have hR56 := hR5.below b6; have hW2 := hW2.trans (b6.mono hW2.size); clear o6) | (go_at_call 33; ((with_reducible refine (CT.out _ _ _ _ _ hR56 hR6).mono ?_); rintro e w7 ⟨rfl, b7⟩); have hW2 := hW2.trans (b7.mono hW2.size)) | (go_at_call 33; ((with_reducible refine (CS.out _ _ _ (X0.out.trans (hW2.mono X0.out.size)) hR2).mono ?_); rintro e w3 ⟨rfl, b3⟩); have hW2 := hW2.trans (b3.mono hW2.size)))
  refine hK.out _ _ (MK.out _ hW2) (fun hHeld => ?_)
  clear hK K
  go_simp
  refine wpAnyH_take (i := 21) (v := ?_) rfl (by kernel_rfl) (by kernel_rfl) (by kernel_rfl) (fun _ _ _ h => h) (Or.inl ⟨by rfl, ?_⟩) hHeld ?_
  rotate_left
  · intro w hSw
    (try dsimp only at hSw)
    go_simp
    try with_reducible rfl
  go_simp
  refine wpAnyH_take (i := 22) (v := ?_) rfl (by kernel_rfl) (by kernel_rfl) (by kernel_rfl) (fun _ _ _ h => h) (Or.inl ⟨by rfl, ?_⟩) hHeld ?_
  rotate_left
  · intro w hSw
    (try dsimp only at hSw)
    go_simp
    try with_reducible rfl
  go_simp
  refine wpAnyH_take (i := 23) (v := ?_) rfl (by kernel_rfl) (by kernel_rfl) (by kernel_rfl) (fun _ _ _ h => h) (Or.inl ⟨by rfl, ?_⟩) hHeld ?_
  rotate_left
  · intro w hSw
    (try dsimp only at hSw)
    go_simp
    try with_reducible rfl
  go_simp
  refine wpAnyH_done (by kernel_rfl) ?_ _
  refine NoPanic.normal ?_
  have HBZ := Lib.hid (X0.out.trans (hW2.mono X0.out.size))
  clear hW2 hHeld
  go_wp2
  go_ret
  exact ⟨rfl, HBZ.out⟩
set_option maxHeartbeats 16000000 in
set_option maxRecDepth 100000 in
theorem fIs_none (n r : Int) (A : Option Addr) (m c : Nat) (w : World) (hr : r ≠ 0) :
    Calls Try.prog 13 #[.pointer none, .int .i64 r, .agg #[.int .i64 n, .slice A m c, .int .i64 r]] w fun e w' => e = .returned (.bool true) ∧ Below w.heap.size w w' := by
  have xb : Below w.heap.size w (w.alloc (.cells #[.int .i64 n, .slice A m c, .int .i64 r] 29)) := (Below.refl _ _).alloc (Nat.le_refl _) _
  have x1 : RawAt 29 (w.alloc (.cells #[.int .i64 n, .slice A m c, .int .i64 r] 29)) w.heap.size #[.int .i64 n, .slice A m c, .int .i64 r] := heap_alloc_new w _
  obtain ⟨W0, hW0⟩ : ∃ W0, W0 = w.alloc (.cells #[.int .i64 n, .slice A m c, .int .i64 r] 29) := ⟨_, rfl⟩
  have k1 : decide (r = 0) = false := decide_eq_false hr
  have k2 : (r == 0) = false := by simp [hr]
  have k3 : (r != 0) = true := by simp [hr]
  rw [← hW0] at xb x1
  have HW0 := Lib.hid hW0
  have X0 := Lib.hid xb
  have R0 := Lib.hid x1
  clear hW0 xb x1
  have MK : Hid (∀ W : World, Below W0.heap.size W0 W → (fun W => W.cell? ⟨w.heap.size, 0, none⟩ = some (.int .i64 n) ∧ W.cell? ⟨w.heap.size, 1, none⟩ = some (.slice A m c) ∧ W.cell? ⟨w.heap.size, 2, none⟩ = some (.int .i64 r)) W) := Lib.hid fun W hW => ⟨RawAt.cell (R0.out.below hW R0.out.lt) 0, RawAt.cell (R0.out.below hW R0.out.lt) 1, RawAt.cell (R0.out.below hW R0.out.lt) 2⟩
  have hW2 : Below W0.heap.size W0 W0.drew := (Below.refl _ _).drew
  go_enter Try.func13, Try.ntmps13
  go_wp2_with fail
  rw [← HW0.out]
  refine wp_region_noPanic ?_
  refine wp_region_held_drew (S := (fun W => W.cell? ⟨w.heap.size, 0, none⟩ = some (.int .i64 n) ∧ W.cell? ⟨w.heap.size, 1, none⟩ = some (.slice A m c) ∧ W.cell? ⟨w.heap.size, 2, none⟩ = some (.int .i64 r))) (by kernel_rfl) (MK.out _ hW2) (fun hHeld => ?_)
  refine wpAnyH_take (i := 0) (v := ?_) rfl (by kernel_rfl) (by kernel_rfl) (by kernel_rfl) (fun _ _ _ h => h) (Or.inl ⟨by rfl, ?_⟩) hHeld ?_
  rotate_left
  · intro w hSw
    (try dsimp only at hSw)
    go_simp
    try with_reducible rfl
  go_simp
  refine wpAnyH_take (i := 1) (v := ?_) rfl (by kernel_rfl) (by kernel_rfl) (by kernel_rfl) (fun _ _ _ h => h) (Or.inl ⟨by rfl, ?_⟩) hHeld ?_
  rotate_left
  · intro w hSw
    (try dsimp only at hSw)
    go_simp
    try with_reducible rfl
  go_simp
  refine wpAnyH_take (i := 2) (v := ?_) rfl (by kernel_rfl) (by kernel_rfl) (by kernel_rfl) (fun _ _ _ h => h) (Or.inl ⟨by rfl, ?_⟩) hHeld ?_
  rotate_left
  · intro w hSw
    (try dsimp only at hSw)
    go_simp
    try with_reducible rfl
  go_simp
  refine wpAnyH_take (i := 3) (v := undef) rfl (by kernel_rfl) (by kernel_rfl) (by kernel_rfl) (fun _ _ _ h => h) (Or.inr ⟨by rfl, rfl⟩) hHeld ?_
  go_simp
  refine wpAnyH_take (i := 4) (v := undef) rfl (by kernel_rfl) (by kernel_rfl) (by kernel_rfl) (fun _ _ _ h => h) (Or.inr ⟨by rfl, rfl⟩) hHeld ?_
  go_simp
  refine wpAnyH_take (i := 5) (v := undef) rfl (by kernel_rfl) (by kernel_rfl) (by kernel_rfl) (fun _ _ _ h => h) (Or.inr ⟨by rfl, rfl⟩) hHeld ?_
  go_simp
  refine wpAnyH_take (i := 6) (v := undef) rfl (by kernel_rfl) (by kernel_rfl) (by kernel_rfl) (fun _ _ _ h => h) (Or.inr ⟨by rfl, rfl⟩) hHeld ?_
  go_simp
  refine wpAnyH_take (i := 7) (v := undef) rfl (by kernel_rfl) (by kernel_rfl) (by kernel_rfl) (fun _ _ _ h => h) (Or.inr ⟨by rfl, rfl⟩) hHeld ?_
  go_simp
  refine wpAnyH_take (i := 8) (v := undef) rfl (by kernel_rfl) (by kernel_rfl) (by kernel_rfl) (fun _ _ _ h => h) (Or.inr ⟨by rfl, rfl⟩) hHeld ?_
  go_simp
  refine wpAnyH_take (i := 9) (v := undef) rfl (by kernel_rfl) (by kernel_rfl) (by kernel_rfl) (fun _ _ _ h => h) (Or.inr ⟨by rfl, rfl⟩) hHeld ?_
  go_simp
  refine wpAnyH_take (i := 10) (v := undef) rfl (by kernel_rfl) (by kernel_rfl) (by kernel_rfl) (fun _ _ _ h => h) (Or.inr ⟨by rfl, rfl⟩) hHeld ?_
  go_simp
  refine wpAnyH_take (i := 11) (v := undef) rfl (by kernel_rfl) (by kernel_rfl) (by kernel_rfl) (fun _ _ _ h => h) (Or.inr ⟨by rfl, rfl⟩) hHeld ?_
  go_simp
  refine wpAnyH_take (i := 12) (v := undef) rfl (by kernel_rfl) (by kernel_rfl) (by kernel_rfl) (fun _ _ _ h => h) (Or.inr ⟨by rfl, rfl⟩) hHeld ?_
  go_simp
  refine wpAnyH_take (i := 13) (v := undef) rfl (by kernel_rfl) (by kernel_rfl) (by kernel_rfl) (fun _ _ _ h => h) (Or.inr ⟨by rfl, rfl⟩) hHeld ?_
  go_simp
  refine wpAnyH_take (i := 14) (v := undef) rfl (by kernel_rfl) (by kernel_rfl) (by kernel_rfl) (fun _ _ _ h => h) (Or.inr ⟨by rfl, rfl⟩) hHeld ?_
  go_simp
  refine wpAnyH_take (i := 15) (v := undef) rfl (by kernel_rfl) (by kernel_rfl) (by kernel_rfl) (fun _ _ _ h => h) (Or.inr ⟨by rfl, rfl⟩) hHeld ?_
  go_simp
  refine wpAnyH_take (i := 16) (v := undef) rfl (by kernel_rfl) (by kernel_rfl) (by kernel_rfl) (fun _ _ _ h => h) (Or.inr ⟨by rfl, rfl⟩) hHeld ?_
  go_simp
  refine wpAnyH_take (i := 17) (v := undef) rfl (by kernel_rfl) (by kernel_rfl) (by kernel_rfl) (fun _ _ _ h => h) (Or.inr ⟨by rfl, rfl⟩) hHeld ?_
  go_simp
  refine wpAnyH_take (i := 18) (v := undef) rfl (by kernel_rfl) (by kernel_rfl) (by kernel_rfl) (fun _ _ _ h => h) (Or.inr ⟨by rfl, rfl⟩) hHeld ?_
  go_simp
  refine wpAnyH_take (i := 19) (v := undef) rfl (by kernel_rfl) (by kernel_rfl) (by kernel_rfl) (fun _ _ _ h => h) (Or.inr ⟨by rfl, rfl⟩) hHeld ?_
  go_simp
  refine wpAnyH_take (i := 20) (v := undef) rfl (by kernel_rfl) (by kernel_rfl) (by kernel_rfl) (fun _ _ _ h => h) (Or.inr ⟨by rfl, rfl⟩) hHeld ?_
  go_simp
  refine wpAnyH_take (i := 21) (v := undef) rfl (by kernel_rfl) (by kernel_rfl) (by kernel_rfl) (fun _ _ _ h => h) (Or.inr ⟨by rfl, rfl⟩) hHeld ?_
  go_simp
  refine wpAnyH_take (i := 22) (v := ?_) rfl (by kernel_rfl) (by kernel_rfl) (by kernel_rfl) (fun _ _ _ h => h) (Or.inl ⟨by rfl, ?_⟩) hHeld ?_
  rotate_left
  · intro w hSw
    (try dsimp only at hSw)
    go_simp
    try with_reducible rfl
  go_simp
  refine wpAnyH_take (i := 23) (v := ?_) rfl (by kernel_rfl) (by kernel_rfl) (by kernel_rfl) (fun _ _ _ h => h) (Or.inl ⟨by rfl, ?_⟩) hHeld ?_
  rotate_left
  · intro w hSw
    (try dsimp only at hSw)
    go_simp
    try with_reducible rfl
  go_simp
  refine wpAnyH_done (by kernel_rfl) ?_ _
  refine NoPanic.normal ?_
  have HBZ := Lib.hid (X0.out.trans (hW2.mono X0.out.size))
  clear hW2 hHeld
  go_wp2
  go_ret
  exact ⟨rfl, HBZ.out⟩
end Go.Proofs.Ytnfjleobcfhpnaa
