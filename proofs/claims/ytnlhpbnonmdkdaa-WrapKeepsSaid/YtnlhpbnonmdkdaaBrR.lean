/- The document's answers on rows: blank, Width, Indent, Boundary. -/
import Derived.Test.YtnlhpbnonmdkdaaBrD
namespace Go.Proofs.Ytnlhpbnonmdkdaa
open Go.RowKit
set_option linter.unusedVariables false
set_option maxHeartbeats 4000000 in
set_option maxRecDepth 100000 in
theorem r9Width_any (A : Option Addr) (n c : Nat) (l : List Cl) (w : World) (hA : RowsAt encC 4 w A l) (hl : l.length = n) (hn : n ≤ 1000000) (hb : ∀ x ∈ l, 0 ≤ x.wd ∧ x.wd ≤ 1099511627776) :
    Calls Try.prog 24 #[.slice A n c] w fun e w' => e = .returned (.int .i64 (wsum l)) ∧ Below w.heap.size w w' := by
  have HA := Lib.hid hA
  have HL := Lib.hid hl
  have HB := Lib.hid hb
  clear hA hl hb
  go_enter Try.func24, Try.ntmps24
  go_wp2_with fail
  go_loopg [3, 8] n (fun g s i wr => ∃ (j : Nat) (t : Int), i = .int .i64 j ∧ s = .int .i64 t ∧ j ≤ n ∧ n - j ≤ g ∧ Hid (t = wsum (l.take j)) ∧ Hid (Below w.heap.size w wr))
  case atStart => exact ⟨0, 0, rfl, rfl, by omega, by omega, Lib.hid (by simp [wsum]), Lib.hid (Below.refl _ _)⟩
  case round =>
    obtain ⟨j, t, rfl, rfl, h1, h2, ht, hb⟩ := hrel
    by_cases hlt : j < n
    · have hjl : j < l.length := by rw [HL.out]; exact hlt
      obtain ⟨bA, off, rfl, hbA, d0, d1, d2, d3⟩ := (HA.out.below hb.out).cell4 hjl
      have hw := wsum_take hjl
      rw [← ht.out] at hw
      have hx := HB.out _ (List.getElem_mem hjl)
      have ht1 := wsum_bd (l.take j) (fun x hx => HB.out x (List.mem_of_mem_take hx))
      rw [← ht.out, List.length_take, HL.out] at ht1
      have b1 : 0 ≤ t := ht1.1
      have b2 : t ≤ 1099511627776 * n := by have := ht1.2; omega
      clear ht1 ht
      have HW := Lib.hid hw.symm
      clear hw
      generalize l[j] = o at *
      obtain ⟨x1, x2⟩ := hx
      have i1 : (0 : Int) ≤ j := by omega
      have i2 : (j : Int) < n := by omega
      have R3 : RawAt 35 (wr.alloc (.cells #[.int .i32 o.r, .int .i64 o.k, .int .i64 o.wd, .int .i64 o.p] 35)) wr.heap.size #[.int .i32 o.r, .int .i64 o.k, .int .i64 o.wd, .int .i64 o.p] := heap_alloc_new wr _
      have e2 := RawAt.cell R3 2
      simp at e2
      have HB3 := Lib.hid (hb.out.trans (((Below.refl _ _).alloc (Nat.le_refl _) (.cells #[.int .i32 o.r, .int .i64 o.k, .int .i64 o.wd, .int .i64 o.p] 35)).mono hb.out.size))
      clear R3 hb
      go_wp2_with fail
      go_roundg (gk - 1)
      case measure => omega
      case rel => exact ⟨j + 1, t + o.wd, by go_num, rfl, by omega, by omega, HW, HB3⟩
    · obtain rfl : j = n := by omega
      have h5 := ht.out
      rw [List.take_of_length_le (by rw [HL.out]; omega)] at h5
      subst h5
      go_wp2
      go_ret
      exact ⟨rfl, hb.out⟩
set_option maxHeartbeats 4000000 in
set_option maxRecDepth 100000 in
theorem r9Blank_any (o : Cl) (b : Bool) (hb : isB o = b) (w : World) :
    Calls Try.prog 39 #[.agg #[.int .i32 o.r, .int .i64 o.k, .int .i64 o.wd, .int .i64 o.p]] w fun e w' => e = .returned (.bool b) ∧ Below w.heap.size w w' := by
  have R3 : RawAt 35 (w.alloc (.cells #[.int .i32 o.r, .int .i64 o.k, .int .i64 o.wd, .int .i64 o.p] 35)) w.heap.size #[.int .i32 o.r, .int .i64 o.k, .int .i64 o.wd, .int .i64 o.p] := heap_alloc_new w _
  have x3 : Below w.heap.size w (w.alloc (.cells #[.int .i32 o.r, .int .i64 o.k, .int .i64 o.wd, .int .i64 o.p] 35)) := (Below.refl _ _).alloc (Nat.le_refl _) _
  have e0 := RawAt.cell R3 0
  simp at e0
  have HX := Lib.hid x3
  clear R3 x3
  have HB := Lib.hid hb
  clear hb
  have hbd : b = (decide (o.r = 32) || decide (o.r = 9)) := by rw [← HB.out]; unfold isB; by_cases h1 : o.r = 32 <;> by_cases h2 : o.r = 9 <;> simp [h1, h2]
  generalize o.r = r at *
  by_cases h1 : r = 32
  · have k1 : (r == 32) = true := by simpa using h1
    have hbt : b = true := by rw [hbd]; simp [h1]
    clear hbd h1
    subst hbt
    go_enter Try.func39, Try.ntmps39
    go_wp2
    go_ret
    exact ⟨rfl, HX.out⟩
  · have k1 : (r == 32) = false := by simpa using h1
    by_cases h2 : r = 9
    · have k2 : (r == 9) = true := by simpa using h2
      have hbt : b = true := by rw [hbd]; simp [h2]
      clear hbd h1 h2
      subst hbt
      go_enter Try.func39, Try.ntmps39
      go_wp2
      go_ret
      exact ⟨rfl, HX.out⟩
    · have k2 : (r == 9) = false := by simpa using h2
      have hbt : b = false := by rw [hbd]; simp [h1, h2]
      clear hbd h1 h2
      subst hbt
      go_enter Try.func39, Try.ntmps39
      go_wp2
      go_ret
      exact ⟨rfl, HX.out⟩
theorem rows_takeC {w : World} {A : Option Addr} {l : List Cl} {n c q : Nat} (hA : RowsAt encC 4 w A l) (hl : l.length = n) (hc : n ≤ c) (hq : q ≤ n) : RowsAt encC 4 w A (l.take q) := by
  have h2 := hA.cut hl hc (j := 0) (m := q) (by omega)
  unfold cutK at h2
  split at h2
  · simpa using h2
  · cases A <;> simpa [Addr.add] using h2
set_option maxHeartbeats 4000000 in
set_option maxRecDepth 100000 in
theorem r9Indent_any (A : Option Addr) (n c : Nat) (l : List Cl) (w : World) (hA : RowsAt encC 4 w A l) (hl : l.length = n) (hc : Caps A n c) (hn : n ≤ 1000000) (hw : W02 l) :
    Calls Try.prog 20 #[.slice A n c] w fun e w' => e = .returned (.int .i64 (ind l)) ∧ Below w.heap.size w w' := by
  have HA := Lib.hid hA
  have HL := Lib.hid hl
  have CW := Lib.hid fun (q : Nat) (hq : q ≤ n) (W : World) (hW : Below w.heap.size w W) => r9Width_any A q c (l.take q) W (rows_takeC (hA.below hW) hl hc.1 hq) (by rw [List.length_take, hl]; omega) (by omega) (hw.take q).wide
  have HCUT := Lib.hid fun (q : Nat) (hq : q ≤ n) (W : World) => cutK_hd cell_slt A n c q (by have := hc.1; omega) W
  have HSM := Lib.hid fun (q : Nat) => (hw.take q).sum.1
  clear hA hl hc hw
  go_enter Try.func20, Try.ntmps20
  go_wp2_with fail
  go_loopg [3] n (fun g i wr => ∃ (j : Nat), i = .int .i64 j ∧ j ≤ n ∧ n - j ≤ g ∧ Hid (∀ i (h : i < l.length), i < j → isB l[i] = true) ∧ Hid (Below w.heap.size w wr))
  case atStart => exact ⟨0, rfl, by omega, by omega, Lib.hid (fun i h hi => by omega), Lib.hid (Below.refl _ _)⟩
  case round =>
    obtain ⟨j, rfl, h1, h2, hs, hb⟩ := hrel
    by_cases hgo : j < n ∧ ∀ h : j < l.length, isB l[j] = true
    · have hlt := hgo.1
      have hjl : j < l.length := by rw [HL.out]; exact hlt
      have hbv := hgo.2 hjl
      obtain ⟨bA, off, rfl, hbA, d0, d1, d2, d3⟩ := (HA.out.below hb.out).cell4 hjl
      have i1 : (0 : Int) ≤ j := by omega
      have i2 : (j : Int) < n := by omega
      have HBV := Lib.hid hbv
      have HS : Hid (∀ i (h : i < l.length), i < j + 1 → isB l[i] = true) := Lib.hid (fun i h hi => by
        rcases Nat.lt_or_ge i j with g | g
        · exact hs.out i h g
        · obtain rfl : i = j := by omega
          exact hbv)
      clear hbv hgo CW HCUT
      generalize l[j] = o at *
      go_wp2_with (refine (r9Blank_any o true HBV.out _).mono ?_; rintro e w1 ⟨rfl, hb1⟩)
      have HB1 := Lib.hid hb1
      clear hb1
      go_wp2_with fail
      go_roundg (gk - 1)
      case measure => omega
      case rel => exact ⟨j + 1, by go_num, by omega, by omega, HS, Lib.hid (hb.out.trans (HB1.out.mono hb.out.size))⟩
    · have he : nbl l = j := nbl_eq hs.out (fun h => by
        cases e : isB l[j]
        · rfl
        · exact absurd ⟨by rw [HL.out] at h; exact h, fun _ => e⟩ hgo) (by rw [HL.out]; omega)
      have HI : Hid (ind l = if wsum (l.take j) ≤ 8 then wsum (l.take j) else 8) := Lib.hid (by unfold ind; rw [he])
      have hsm := HSM.out j
      have CWj := Lib.hid (CW.out j h1)
      have hcut := HCUT.out j h1
      clear he CW HCUT HSM
      generalize wsum (l.take j) = s at *
      by_cases hlt : j < n
      · have hjl : j < l.length := by rw [HL.out]; exact hlt
        obtain ⟨bA, off, rfl, hbA, d0, d1, d2, d3⟩ := (HA.out.below hb.out).cell4 hjl
        have i1 : (0 : Int) ≤ j := by omega
        have i2 : (j : Int) < n := by omega
        have hbv : isB l[j] = false := by
          cases e : isB l[j]
          · rfl
          · exact absurd ⟨hlt, fun _ => e⟩ hgo
        have HBV := Lib.hid hbv
        clear hbv hgo
        generalize l[j] = o at *
        go_wp2_with (first | (go_at_call 39; refine (r9Blank_any o false HBV.out _).mono ?_; rintro e w1 ⟨rfl, hb1⟩; have HB1 := Lib.hid (hb.out.trans (hb1.mono hb.out.size)); clear hb1) | (go_at_call 24; refine (CWj.out _ HB1.out).mono ?_; rintro e w2 ⟨rfl, hb2⟩; have HB2 := Lib.hid (HB1.out.trans (hb2.mono HB1.out.size)); clear hb2))
        · rename_i h8
          go_ret
          exact ⟨by rw [HI.out, if_neg (by omega)]; rfl, HB2.out⟩
        · rename_i h8
          go_ret
          exact ⟨by rw [HI.out, if_pos (by omega)]; rfl, HB2.out⟩
      · obtain rfl : j = n := by omega
        clear hgo
        have HB1 := hb
        go_wp2_with (go_at_call 24; refine (CWj.out _ HB1.out).mono ?_; rintro e w2 ⟨rfl, hb2⟩; have HB2 := Lib.hid (HB1.out.trans (hb2.mono HB1.out.size)); clear hb2)
        · rename_i h8
          go_ret
          exact ⟨by rw [HI.out, if_neg (by omega)]; rfl, HB2.out⟩
        · rename_i h8
          go_ret
          exact ⟨by rw [HI.out, if_pos (by omega)]; rfl, HB2.out⟩
set_option maxHeartbeats 4000000 in
set_option maxRecDepth 100000 in
theorem r9Bound_any (A : Option Addr) (n c : Nat) (l : List Cl) (k : Nat) (r : Bool) (w : World) (hA : RowsAt encC 4 w A l) (hl : l.length = n) (hn : n ≤ 1000000) (hk : k + 1 < n) (hr : bnd l (k + 1) = r) :
    Calls Try.prog 25 #[.slice A n c, .int .i64 ((k : Int) + 1)] w fun e w' => e = .returned (.bool r) ∧ Below w.heap.size w w' := by
  have hkl : k < l.length := by omega
  have hjl : k + 1 < l.length := by omega
  obtain ⟨bA, off, rfl, hbA, d0, d1, d2, d3⟩ := hA.cell4 hkl
  obtain ⟨bB, off2, he2, hbB, e0, e1, e2, e3⟩ := hA.cell4 hjl
  obtain ⟨rfl, rfl⟩ : bA = bB ∧ off = off2 := by injection he2 with h; injection h with h h'; exact ⟨h, h'⟩
  clear he2 hbB
  have hbd : bnd l (k + 1) = (isB l[k] && !isB l[k + 1] && decide (0 < l[k + 1].wd)) := bnd_of hjl (by omega)
  rw [hr] at hbd
  clear hr
  have MK : Hid (∀ W : World, Below w.heap.size w W → W.cell? ⟨bA, off + (k + 1) * 4, none⟩ = some (.int .i32 l[k + 1].r) ∧ W.cell? ⟨bA, off + (k + 1) * 4 + 1, none⟩ = some (.int .i64 l[k + 1].k) ∧ W.cell? ⟨bA, off + (k + 1) * 4 + 2, none⟩ = some (.int .i64 l[k + 1].wd) ∧ W.cell? ⟨bA, off + (k + 1) * 4 + 3, none⟩ = some (.int .i64 l[k + 1].p)) := Lib.hid fun W hW =>
    ⟨((old_cells hW).1 _ _ hbA).trans e0, ((old_cells hW).1 _ _ hbA).trans e1, ((old_cells hW).1 _ _ hbA).trans e2, ((old_cells hW).1 _ _ hbA).trans e3⟩
  clear e0 e1 e2 e3
  generalize l[k] = x at *
  generalize l[k + 1] = y at *
  have i1 : (0 : Int) ≤ k := by omega
  have i2 : (k : Int) < n := by omega
  have i5 : (k : Int) + 1 < n := by omega
  have i6 : (0 : Int) ≤ (k : Int) + 1 := by omega
  have i7 : IntKind.i64.wrap (k : Int) = k := IntWalk.i64_in _ (by omega)
  have i9 : (0 : Int) < (k : Int) + 1 := by omega
  obtain ⟨ba, hba⟩ : ∃ z, isB x = z := ⟨_, rfl⟩
  obtain ⟨bb, hbb⟩ : ∃ z, isB y = z := ⟨_, rfl⟩
  rw [hba, hbb] at hbd
  have HBA := Lib.hid hba
  have HBB := Lib.hid hbb
  clear hba hbb
  have hneg : ((k : Int) + 1).toNat = k + 1 := by omega
  cases ba
  · simp at hbd
    subst hbd
    go_enter Try.func25, Try.ntmps25
    go_wp2_with (refine (r9Blank_any x false HBA.out _).mono ?_; rintro e w1 ⟨rfl, hb1⟩; have HB1 := Lib.hid hb1; clear hb1)
    go_ret
    exact ⟨rfl, HB1.out⟩
  · cases bb
    · simp only [Bool.not_false, Bool.and_true, Bool.true_and] at hbd
      go_enter Try.func25, Try.ntmps25
      go_wp2_with (first | (with_reducible refine (r9Blank_any x true HBA.out _).mono ?_; rintro e w1 ⟨rfl, hb1⟩; have HB1 := Lib.hid hb1; clear hb1; obtain ⟨f0, f1, f2, f3⟩ := MK.out _ HB1.out) | (with_reducible refine (r9Blank_any y false HBB.out _).mono ?_; rintro e w2 ⟨rfl, hb2⟩; have HB2 := Lib.hid (HB1.out.trans (hb2.mono HB1.out.size)); clear hb2; obtain ⟨g0, g1, g2, g3⟩ := MK.out _ HB2.out))
      subst hbd
      go_ret
      exact ⟨rfl, HB2.out⟩
    · simp at hbd
      subst hbd
      go_enter Try.func25, Try.ntmps25
      go_wp2_with (first | (with_reducible refine (r9Blank_any x true HBA.out _).mono ?_; rintro e w1 ⟨rfl, hb1⟩; have HB1 := Lib.hid hb1; clear hb1; obtain ⟨f0, f1, f2, f3⟩ := MK.out _ HB1.out) | (with_reducible refine (r9Blank_any y true HBB.out _).mono ?_; rintro e w2 ⟨rfl, hb2⟩; have HB2 := Lib.hid (HB1.out.trans (hb2.mono HB1.out.size)); clear hb2))
      go_ret
      exact ⟨rfl, HB2.out⟩
end Go.Proofs.Ytnlhpbnonmdkdaa
