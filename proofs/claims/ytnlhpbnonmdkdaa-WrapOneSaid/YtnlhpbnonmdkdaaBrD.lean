/- Breaks: takes, opening, Takes, Indent. -/
import Derived.Test.YtnlhpbnonmdkdaaBrC
import Derived.Lib.SliceRun
namespace Go.Proofs.Ytnlhpbnonmdkdaa
open Go.RowKit
set_option linter.unusedVariables false
theorem tak_full {l : List Cl} {r : Int} (h : fitN l r = l.length) : tak l r = fitN l r := by unfold tak; rw [if_pos h]
theorem tak_bnd {l : List Cl} {r : Int} {j : Nat} (h : ¬ fitN l r = l.length) (h0 : 0 < j) (hj : j ≤ fitN l r) (hb : bnd l j = true) (hn : ∀ i, j < i → i ≤ fitN l r → bnd l i = false) : tak l r = j := by
  unfold tak
  rw [if_neg h, lastB_at hj hb hn, if_neg (by omega)]
theorem tak_no {l : List Cl} {r : Int} (h : ¬ fitN l r = l.length) (hn : ∀ i, 0 < i → i ≤ fitN l r → bnd l i = false) : tak l r = fitN l r := by
  unfold tak
  rw [if_neg h, if_pos (lastB_no hn)]
set_option maxHeartbeats 4000000 in
set_option maxRecDepth 100000 in
theorem bTakes_any (A : Option Addr) (n c : Nat) (l : List Cl) (room wide : Int) (w : World) (hA : RowsAt encC 4 w A l) (hl : l.length = n) (hn : n ≤ 1000000) (hw : W02 l) (hwd : wide = wsum l) :
    Calls Try.prog 35 #[.slice A n c, .int .i64 wide, .int .i64 room] w fun e w' => e = .returned (.int .i64 (tak l room)) ∧ Below w.heap.size w w' := by
  have HA := Lib.hid hA
  have HL := Lib.hid hl
  have CF := Lib.hid (bFit_any A n c l room wide w hA hl hn hw hwd)
  clear hA hl hw hwd
  have hfl := fitN_le l room
  rw [HL.out] at hfl
  obtain ⟨q, hq⟩ : ∃ q, fitN l room = q := ⟨_, rfl⟩
  rw [hq] at hfl
  have HQ := Lib.hid hq
  have CF2 := CF.out
  rw [hq] at CF2
  have CF3 := Lib.hid CF2
  clear CF CF2 hq
  by_cases hqn : q = n
  · have HE : Hid (tak l room = q) := Lib.hid (by rw [tak_full (by rw [HQ.out, HL.out, hqn]), HQ.out])
    have k1 : ((q : Int) == (n : Int)) = true := by simp [hqn]
    clear hqn
    go_enter Try.func35, Try.ntmps35
    go_wp2_with (refine (CF3.out).mono ?_; rintro e w1 ⟨rfl, hb1⟩)
    have HB1 := Lib.hid hb1
    clear hb1
    go_wp2
    go_ret
    exact ⟨by rw [HE.out]; rfl, HB1.out⟩
  · have k1 : ((q : Int) == (n : Int)) = false := by simp; omega
    have HNE : Hid (¬ fitN l room = l.length) := Lib.hid (by rw [HQ.out, HL.out]; exact hqn)
    have hqn2 : q < n := by omega
    clear hqn
    go_enter Try.func35, Try.ntmps35
    go_wp2_with (refine (CF3.out).mono ?_; rintro e w1 ⟨rfl, hb1⟩)
    have HB1 := Lib.hid hb1
    clear hb1 CF3
    go_wp2_with fail
    go_loopg [8] q (fun g i wr => ∃ (j : Nat), i = .int .i64 j ∧ j ≤ q ∧ j ≤ g ∧ Hid (∀ i, j < i → i ≤ q → bnd l i = false) ∧ Hid (Below w.heap.size w wr))
    case atStart => exact ⟨q, rfl, by omega, by omega, Lib.hid (fun i h1 h2 => by omega), HB1⟩
    case round =>
      clear HB1
      obtain ⟨j, rfl, h1, h2, hs, hb⟩ := hrel
      by_cases hj : 0 < j
      · obtain ⟨k, rfl⟩ : ∃ k, j = k + 1 := ⟨j - 1, by omega⟩
        have hkl : k < l.length := by rw [HL.out]; omega
        have hjl : k + 1 < l.length := by rw [HL.out]; omega
        obtain ⟨bA, off, rfl, hbA, d0, d1, d2, d3⟩ := (HA.out.below hb.out).cell4 hkl
        obtain ⟨bB, off2, he2, hbB, e0, e1, e2, e3⟩ := (HA.out.below hb.out).cell4 hjl
        obtain ⟨rfl, rfl⟩ : bA = bB ∧ off = off2 := by injection he2 with h; injection h with h h'; exact ⟨h, h'⟩
        clear he2 hbB
        have hbd : bnd l (k + 1) = (isB l[k] && !isB l[k + 1] && decide (0 < l[k + 1].wd)) := bnd_of hjl (by omega)
        obtain ⟨bv, hbv⟩ : ∃ bv, bnd l (k + 1) = bv := ⟨_, rfl⟩
        rw [hbv] at hbd
        have HBD := Lib.hid hbd.symm
        have HBV := Lib.hid hbv
        clear hbd hbv
        generalize l[k] = x at *
        generalize l[k + 1] = y at *
        have i1 : (0 : Int) ≤ k := by omega
        have i2 : (k : Int) < n := by omega
        have i3 : ((k + 1 : Nat) : Int) - 1 = k := by omega
        have i4 : ((k + 1 : Nat) : Int) = (k : Int) + 1 := by omega
        have i5 : (k : Int) + 1 < n := by omega
        have i6 : (0 : Int) ≤ (k : Int) + 1 := by omega
        have i7 : IntKind.i64.wrap (k : Int) = k := IntWalk.i64_in _ (by omega)
        have i8 : decide ((k : Int) + 1 ≤ 0) = false := decide_eq_false (by omega)
        have CB := Lib.hid fun (W : World) => bBound_any x y bv HBD.out W
        have HHB := Lib.hid hb.out
        clear hb HBD
        have hW2 : Below wr.heap.size wr wr.drew := (Below.refl _ _).drew
        have MK : Hid (∀ W : World, Below wr.heap.size wr W → W.cell? ⟨bA, off + k * 4, none⟩ = some (.int .i32 x.r) ∧ W.cell? ⟨bA, off + k * 4 + 1, none⟩ = some (.int .i64 x.k) ∧ W.cell? ⟨bA, off + k * 4 + 2, none⟩ = some (.int .i64 x.wd) ∧ W.cell? ⟨bA, off + k * 4 + 3, none⟩ = some (.int .i64 x.p) ∧ W.cell? ⟨bA, off + (k + 1) * 4, none⟩ = some (.int .i32 y.r) ∧ W.cell? ⟨bA, off + (k + 1) * 4 + 1, none⟩ = some (.int .i64 y.k) ∧ W.cell? ⟨bA, off + (k + 1) * 4 + 2, none⟩ = some (.int .i64 y.wd) ∧ W.cell? ⟨bA, off + (k + 1) * 4 + 3, none⟩ = some (.int .i64 y.p)) := Lib.hid fun W hW =>
          ⟨((old_cells hW).1 _ _ hbA).trans d0, ((old_cells hW).1 _ _ hbA).trans d1, ((old_cells hW).1 _ _ hbA).trans d2, ((old_cells hW).1 _ _ hbA).trans d3, ((old_cells hW).1 _ _ hbA).trans e0, ((old_cells hW).1 _ _ hbA).trans e1, ((old_cells hW).1 _ _ hbA).trans e2, ((old_cells hW).1 _ _ hbA).trans e3⟩
        clear d0 d1 d2 d3 e0 e1 e2 e3
        go_wp2_with fail
        refine wp_region_noPanic ?_
        refine wp_region_held_drew (S := (fun W => W.cell? ⟨bA, off + k * 4, none⟩ = some (.int .i32 x.r) ∧ W.cell? ⟨bA, off + k * 4 + 1, none⟩ = some (.int .i64 x.k) ∧ W.cell? ⟨bA, off + k * 4 + 2, none⟩ = some (.int .i64 x.wd) ∧ W.cell? ⟨bA, off + k * 4 + 3, none⟩ = some (.int .i64 x.p) ∧ W.cell? ⟨bA, off + (k + 1) * 4, none⟩ = some (.int .i32 y.r) ∧ W.cell? ⟨bA, off + (k + 1) * 4 + 1, none⟩ = some (.int .i64 y.k) ∧ W.cell? ⟨bA, off + (k + 1) * 4 + 2, none⟩ = some (.int .i64 y.wd) ∧ W.cell? ⟨bA, off + (k + 1) * 4 + 3, none⟩ = some (.int .i64 y.p))) (by kernel_rfl) (MK.out _ hW2) (fun hHeld => ?_)
        refine wpAnyH_take (i := 0) (v := ?_) rfl (by kernel_rfl) (by kernel_rfl) (by kernel_rfl) (fun _ _ _ h => h) (Or.inl ⟨by rfl, ?_⟩) hHeld ?_
        rotate_left
        · intro w hSw
          (try dsimp only at hSw)
          go_simp
          try with_reducible rfl
        go_simp
        refine wpAnyH_take (i := 1) (v := ?_) rfl (by kernel_rfl) (by kernel_rfl) (by kernel_rfl) (fun _ _ _ h => h) (Or.inl ⟨by rfl, ?_⟩) hHeld ?_
        rotate_left
        · intro w hSw
          (try dsimp only at hSw)
          go_simp
          try with_reducible rfl
        go_simp
        refine wpAnyH_take (i := 2) (v := ?_) rfl (by kernel_rfl) (by kernel_rfl) (by kernel_rfl) (fun _ _ _ h => h) (Or.inl ⟨by rfl, ?_⟩) hHeld ?_
        rotate_left
        · intro w hSw
          (try dsimp only at hSw)
          go_simp
          try with_reducible rfl
        go_simp
        refine wpAnyH_take (i := 3) (v := ?_) rfl (by kernel_rfl) (by kernel_rfl) (by kernel_rfl) (fun _ _ _ h => h) (Or.inl ⟨by rfl, ?_⟩) hHeld ?_
        rotate_left
        · intro w hSw
          (try dsimp only at hSw)
          go_simp
          try with_reducible rfl
        go_simp
        refine wpAnyH_take (i := 4) (v := ?_) rfl (by kernel_rfl) (by kernel_rfl) (by kernel_rfl) (fun _ _ _ h => h) (Or.inl ⟨by rfl, ?_⟩) hHeld ?_
        rotate_left
        · intro w hSw
          (try dsimp only at hSw)
          go_simp
          try with_reducible rfl
        go_simp
        refine wpAnyH_take (i := 5) (v := ?_) rfl (by kernel_rfl) (by kernel_rfl) (by kernel_rfl) (fun _ _ _ h => h) (Or.inl ⟨by rfl, ?_⟩) hHeld ?_
        rotate_left
        · intro w hSw
          (try dsimp only at hSw)
          go_simp
          try with_reducible rfl
        go_simp
        refine wpAnyH_take (i := 6) (v := ?_) rfl (by kernel_rfl) (by kernel_rfl) (by kernel_rfl) (fun _ _ _ h => h) (Or.inl ⟨by rfl, ?_⟩) hHeld ?_
        rotate_left
        · intro w hSw
          (try dsimp only at hSw)
          go_simp
          try with_reducible rfl
        go_simp
        refine wpAnyH_take (i := 7) (v := ?_) rfl (by kernel_rfl) (by kernel_rfl) (by kernel_rfl) (fun _ _ _ h => h) (Or.inl ⟨by rfl, ?_⟩) hHeld ?_
        rotate_left
        · intro w hSw
          (try dsimp only at hSw)
          go_simp
          try with_reducible rfl
        go_simp
        refine wpAnyH_take (i := 8) (v := ?_) rfl (by kernel_rfl) (by kernel_rfl) (by kernel_rfl) (fun _ _ _ h => h) (Or.inl ⟨by rfl, ?_⟩) hHeld ?_
        rotate_left
        · intro w hSw
          (try dsimp only at hSw)
          go_simp
          try with_reducible rfl
        go_simp
        refine wpAnyH_ready (rs := [9]) (by kernel_rfl) (by simp) ?_
        refine AllReadyH.cons rfl (fun K hK => ?_) ?_
        rotate_left
        · exact AllReadyH.nil
        go_simp
        go_wp2_with (first | (go_at_call 45; ((with_reducible refine (CB.out _).mono ?_); rintro e w4 ⟨rfl, hb4⟩); have hW2 := hW2.trans (hb4.mono hW2.size)))
        refine hK.out _ _ (MK.out _ hW2) (fun hHeld => ?_)
        clear hK K
        go_simp
        refine wpAnyH_done (by kernel_rfl) ?_ _
        refine NoPanic.normal ?_
        have HB4 := Lib.hid (HHB.out.trans (hW2.mono HHB.out.size))
        clear hW2 MK
        cases bv
        · go_wp2_with fail
          go_roundg (gk - 1)
          case measure => omega
          case rel => exact ⟨k, by go_num, by omega, by omega, Lib.hid (fun i h1 h2 => by
            rcases Nat.lt_or_ge (k + 1) i with g | g
            · exact hs.out i g h2
            · obtain rfl : i = k + 1 := by omega
              exact HBV.out), HB4⟩
        · have HE : Hid (tak l room = k + 1) := Lib.hid (tak_bnd HNE.out (by omega) (by rw [HQ.out]; exact h1) HBV.out (by rw [HQ.out]; exact hs.out))
          go_wp2
          go_ret
          exact ⟨by rw [HE.out]; rfl, HB4.out⟩
      · obtain rfl : j = 0 := by omega
        have HE : Hid (tak l room = q) := Lib.hid ((tak_no HNE.out (by rw [HQ.out]; exact hs.out)).trans HQ.out)
        go_wp2
        go_ret
        exact ⟨by rw [HE.out]; rfl, hb.out⟩
set_option maxHeartbeats 4000000 in
set_option maxRecDepth 100000 in
theorem bTakes (A : Option Addr) (n c : Nat) (l : List Cl) (room : Int) (w : World) (hA : RowsAt encC 4 w A l) (hl : l.length = n) (hn : n ≤ 1000000) (hw : W02 l) :
    Calls Try.prog 17 #[.slice A n c, .int .i64 room] w fun e w' => e = .returned (.int .i64 (tak l room)) ∧ Below w.heap.size w w' := by
  have CW := Lib.hid (cWidth_any A n c l w hA hl hn hw.wide)
  have CT := Lib.hid fun (W : World) (hW : Below w.heap.size w W) => bTakes_any A n c l room (wsum l) W (hA.below hW) hl hn hw rfl
  clear hA hl hw
  go_enter Try.func17, Try.ntmps17
  go_wp2_with (first | (go_at_call 36; refine (CW.out).mono ?_; rintro e w1 ⟨rfl, hb1⟩; have HB1 := Lib.hid hb1; clear hb1) | (go_at_call 35; refine (CT.out _ HB1.out).mono ?_; rintro e w2 ⟨rfl, hb2⟩; have HB2 := Lib.hid (HB1.out.trans (hb2.mono HB1.out.size)); clear hb2))
  go_ret
  exact ⟨rfl, HB2.out⟩
set_option maxHeartbeats 4000000 in
set_option maxRecDepth 100000 in
theorem bOpening (A : Option Addr) (n c : Nat) (l : List Cl) (room wide : Int) (w : World) (hA : RowsAt encC 4 w A l) (hl : l.length = n) (hc : Caps A n c) (hn : n ≤ 1000000) (hw : W02 l) (hwd : wide = wsum l) :
    Calls Try.prog 48 #[.slice A n c, .int .i64 wide, .int .i64 room] w fun e w' => e = .returned (.int .i64 (opn l room)) ∧ Below w.heap.size w w' := by
  have hq := tak_le l room
  obtain ⟨q, hqe⟩ : ∃ q, tak l room = q := ⟨_, rfl⟩
  have CT := Lib.hid (bTakes_any A n c l room wide w hA hl hn hw hwd)
  have CF := Lib.hid fun (W : World) (hW : Below w.heap.size w W) => bFit_any A n c l room wide W (hA.below hW) hl hn hw hwd
  rw [hqe] at CT
  rw [hqe, hl] at hq
  have HCUT := Lib.hid fun (W : World) => cutK_hd cell_slt A n c q (by have := hc.1; omega) W
  have CB := Lib.hid fun (W : World) (hW : Below w.heap.size w W) => bBlanks_any A q c (l.take q) W (by
    have h2 := (hA.below hW).cut hl hc.1 (j := 0) (m := q) (by omega)
    unfold cutK at h2
    split at h2
    · simpa using h2
    · cases A <;> simpa [Addr.add] using h2) (by rw [List.length_take, hl]; omega) (by omega)
  have HO : Hid (opn l room = if nbl (l.take q) = q then fitN l room else q) := Lib.hid (by unfold opn; rw [hqe])
  have hk : nbl (l.take q) ≤ q := by have := nbl_le (l.take q); rw [List.length_take, hl] at this; omega
  have hfn : fitN l room ≤ n := by have := fitN_le l room; omega
  clear hA hl hw hwd hc hqe
  generalize nbl (l.take q) = k at *
  generalize fitN l room = f at *
  by_cases hkq : k = q
  · have HE := Lib.hid (HO.out.trans (if_pos hkq))
    have k1 : ((k : Int) == (q : Int)) = true := by simp [hkq]
    clear HO hkq
    go_enter Try.func48, Try.ntmps48
    go_wp2_with (first | (go_at_call 35; refine (CT.out).mono ?_; rintro e w1 ⟨rfl, hb1⟩; have HB1 := Lib.hid hb1; clear hb1; have HC1 := HCUT.out w1) | (go_at_call 38; refine (CB.out _ HB1.out).mono ?_; rintro e w2 ⟨rfl, hb2⟩; have HB2 := Lib.hid (HB1.out.trans (hb2.mono HB1.out.size)); clear hb2) | (go_at_call 44; refine (CF.out _ HB2.out).mono ?_; rintro e w3 ⟨rfl, hb3⟩; have HB3 := Lib.hid (HB2.out.trans (hb3.mono HB2.out.size)); clear hb3))
    go_ret
    exact ⟨by rw [HE.out]; rfl, HB3.out⟩
  · have HE := Lib.hid (HO.out.trans (if_neg hkq))
    have k1 : ((k : Int) == (q : Int)) = false := by simp; omega
    clear HO hkq
    go_enter Try.func48, Try.ntmps48
    go_wp2_with (first | (go_at_call 35; refine (CT.out).mono ?_; rintro e w1 ⟨rfl, hb1⟩; have HB1 := Lib.hid hb1; clear hb1; have HC1 := HCUT.out w1) | (go_at_call 38; refine (CB.out _ HB1.out).mono ?_; rintro e w2 ⟨rfl, hb2⟩; have HB2 := Lib.hid (HB1.out.trans (hb2.mono HB1.out.size)); clear hb2))
    go_ret
    exact ⟨by rw [HE.out]; rfl, HB2.out⟩
set_option maxHeartbeats 4000000 in
set_option maxRecDepth 100000 in
theorem bIndent (A : Option Addr) (n c : Nat) (l : List Cl) (w : World) (hA : RowsAt encC 4 w A l) (hl : l.length = n) (hc : Caps A n c) (hn : n ≤ 1000000) (hw : W02 l) :
    Calls Try.prog 19 #[.slice A n c] w fun e w' => e = .returned (.int .i64 (ind l)) ∧ Below w.heap.size w w' := by
  have hk := nbl_le l
  obtain ⟨q, hqe⟩ : ∃ q, nbl l = q := ⟨_, rfl⟩
  have CB := Lib.hid (bBlanks_any A n c l w hA hl hn)
  rw [hqe] at CB
  rw [hqe, hl] at hk
  have HCUT := Lib.hid fun (W : World) => cutK_hd cell_slt A n c q (by have := hc.1; omega) W
  have CW := Lib.hid fun (W : World) (hW : Below w.heap.size w W) => cWidth_any A q c (l.take q) W (by
    have h2 := (hA.below hW).cut hl hc.1 (j := 0) (m := q) (by omega)
    unfold cutK at h2
    split at h2
    · simpa using h2
    · cases A <;> simpa [Addr.add] using h2) (by rw [List.length_take, hl]; omega) (by omega) (hw.take q).wide
  have HE : Hid (ind l = if wsum (l.take q) ≤ 8 then wsum (l.take q) else 8) := Lib.hid (by unfold ind; rw [hqe])
  have hs := (hw.take q).sum.1
  clear hA hl hw hc hqe
  generalize wsum (l.take q) = s at *
  by_cases h8 : s ≤ 8
  · have HE2 := Lib.hid (HE.out.trans (if_pos h8))
    clear HE
    go_enter Try.func19, Try.ntmps19
    go_wp2_with (first | (go_at_call 38; refine (CB.out).mono ?_; rintro e w1 ⟨rfl, hb1⟩; have HB1 := Lib.hid hb1; clear hb1; have HC1 := HCUT.out w1) | (go_at_call 36; refine (CW.out _ HB1.out).mono ?_; rintro e w2 ⟨rfl, hb2⟩; have HB2 := Lib.hid (HB1.out.trans (hb2.mono HB1.out.size)); clear hb2))
    go_ret
    exact ⟨by rw [HE2.out]; simp, HB2.out⟩
  · have HE2 := Lib.hid (HE.out.trans (if_neg h8))
    clear HE
    go_enter Try.func19, Try.ntmps19
    go_wp2_with (first | (go_at_call 38; refine (CB.out).mono ?_; rintro e w1 ⟨rfl, hb1⟩; have HB1 := Lib.hid hb1; clear hb1; have HC1 := HCUT.out w1) | (go_at_call 36; refine (CW.out _ HB1.out).mono ?_; rintro e w2 ⟨rfl, hb2⟩; have HB2 := Lib.hid (HB1.out.trans (hb2.mono HB1.out.size)); clear hb2))
    go_ret
    exact ⟨by rw [HE2.out]; simp, HB2.out⟩
end Go.Proofs.Ytnlhpbnonmdkdaa
