/- Which patches are sound, by the document. -/
import Derived.Test.YtebjkgeldjgnfaaDfC
namespace Go.Proofs.Ytebjkgeldjgnfaa
open Go.RowKit
set_option linter.unusedVariables false
/-- By the document: all ahead of a, and all from b on, place by place. -/
theorem snd_doc {l o : List Rw} {p : Rp} : Snd l o p ↔ RFit p l.length o.length ∧ (∀ i, i < p.a.toNat → RS (rth l i) (rth o i)) ∧ ∀ i, p.b.toNat ≤ i → i < l.length → RS (rth l i) (rth o (i - p.b.toNat + p.d.toNat)) := by
  constructor
  · rintro ⟨h1, h2, h3⟩
    refine ⟨h1, h2, fun i g1 g2 => ?_⟩
    obtain ⟨⟨f1, f2, f3⟩, ⟨f4, f5, f6⟩, f7⟩ := h1
    have := h3 (l.length - 1 - i) (by omega)
    unfold PB at this
    rw [show l.length - 1 - (l.length - 1 - i) = i from by omega, show o.length - 1 - (l.length - 1 - i) = i - p.b.toNat + p.d.toNat from by omega] at this
    exact this
  · rintro ⟨h1, h2, h3⟩
    refine ⟨h1, h2, fun i g1 => ?_⟩
    obtain ⟨⟨f1, f2, f3⟩, ⟨f4, f5, f6⟩, f7⟩ := h1
    have := h3 (l.length - 1 - i) (by omega) (by omega)
    unfold PB
    rw [show o.length - 1 - i = l.length - 1 - i - p.b.toNat + p.d.toNat from by omega]
    exact this
set_option maxHeartbeats 4000000 in
set_option maxRecDepth 100000 in
theorem dRSound_any (A B : Option Addr) (n c m d : Nat) (l o : List Rw) (p : Rp) (b : Bool) (hb : b = true ↔ Snd l o p) (w : World) (hA : RowsAt encR 7 w A l) (hl : l.length = n) (hB : RowsAt encR 7 w B o) (hy : o.length = m) (okl : ∀ s ∈ l, RwOk w s ∧ s.n ≤ 9223372036854775807) (oko : ∀ s ∈ o, RwOk w s ∧ s.n ≤ 9223372036854775807) (hn : n ≤ 9223372036854775807) (hm : m ≤ 9223372036854775807) :
    Calls Try.prog 16 #[.slice A n c, .slice B m d, .agg #[.int .i64 p.a, .int .i64 p.b, .int .i64 p.c, .int .i64 p.d]] w fun e w' => e = .returned (.bool b) ∧ Below w.heap.size w w' := by
  have x0 : Below w.heap.size w (w.alloc (.cells #[.int .i64 p.a, .int .i64 p.b, .int .i64 p.c, .int .i64 p.d] 28)) := (Below.refl _ _).alloc (Nat.le_refl _) _
  have R0 : Hid (RawAt 28 (w.alloc (.cells #[.int .i64 p.a, .int .i64 p.b, .int .i64 p.c, .int .i64 p.d] 28)) w.heap.size #[.int .i64 p.a, .int .i64 p.b, .int .i64 p.c, .int .i64 p.d]) := Lib.hid (heap_alloc_new w _)
  have HX := Lib.hid x0
  have HBb := Lib.hid (hb.trans snd_doc)
  clear hb x0
  have HA := Lib.hid hA
  have HB := Lib.hid hB
  have HL := Lib.hid hl
  have HO := Lib.hid hy
  have HKL := Lib.hid okl
  have HKO := Lib.hid oko
  clear hA hB hl hy okl oko
  by_cases hf : RFit p n m
  · have CFt := Lib.hid fun W => dRFits_any p n m true ⟨fun _ => hf, fun _ => rfl⟩ W (by omega) (by omega)
    rw [HL.out, HO.out] at HBb
    have hf0 := Lib.hid hf
    obtain ⟨⟨f1, f2, f3⟩, ⟨f4, f5, f6⟩, f7⟩ := hf
    obtain ⟨pa, pb, pc, pd⟩ := p
    simp only at *
    obtain ⟨ka, rfl⟩ : ∃ k : Nat, pa = k := ⟨pa.toNat, by omega⟩
    obtain ⟨kb, rfl⟩ : ∃ k : Nat, pb = k := ⟨pb.toNat, by omega⟩
    obtain ⟨kd, rfl⟩ : ∃ k : Nat, pd = k := ⟨pd.toNat, by omega⟩
    simp only [Int.toNat_natCast] at HBb
    subst f4
    have HF7 := Lib.hid f7
    clear f7
    go_enter Try.func16, Try.ntmps16
    go_wp2_with fail
    with_reducible refine (CFt.out _).mono ?_
    rintro e w1 ⟨rfl, hb1⟩
    have HB1 := Lib.hid (HX.out.trans (hb1.mono HX.out.size))
    have R1 := Lib.hid (RawAt.below R0.out hb1 (RawAt.lt R0.out))
    clear hb1 R0 CFt
    go_wp2_with fail
    go_loopg [7] n (fun g i wr => ∃ (j : Nat), i = .int .i64 j ∧ j ≤ ka ∧ ka - j ≤ g ∧ Hid (∀ i, i < j → RS (rth l i) (rth o i)) ∧ Hid (Below w1.heap.size w1 wr))
    case atStart => exact ⟨0, rfl, by omega, by omega, Lib.hid (fun i h => by omega), Lib.hid (Below.refl _ _)⟩
    case round =>
      obtain ⟨j, rfl, h1, h2, hs, hb⟩ := hrel
      have HBW := Lib.hid (HB1.out.trans (hb.out.mono HB1.out.size))
      have R2 := Lib.hid (RawAt.below R1.out hb.out (RawAt.lt R1.out))
      have p0 : wr.cell? ⟨w.heap.size, 0, none⟩ = some (.int .i64 ka) := RawAt.cell R2.out 0
      have p1 : wr.cell? ⟨w.heap.size, 1, none⟩ = some (.int .i64 kb) := RawAt.cell R2.out 1
      by_cases hlt : j < ka
      · have hpl : j < l.length := by rw [HL.out]; omega
        have hql : j < o.length := by rw [HO.out]; omega
        obtain ⟨bv, hbv⟩ : ∃ bv : Bool, bv = true ↔ RS l[j] o[j] := by
          by_cases g : RS l[j] o[j]
          · exact ⟨true, ⟨fun _ => g, fun _ => rfl⟩⟩
          · exact ⟨false, ⟨(fun h => by cases h), fun h => absurd h g⟩⟩
        have HBV : Hid (bv = true ↔ RS (rth l (j)) (rth o (j))) := Lib.hid (by rw [rth_get hpl, rth_get hql]; exact hbv)
        have CS := Lib.hid fun W (hW : Below w.heap.size w W) => dRSame_any l[j] o[j] bv hbv W ((HKL.out _ (List.getElem_mem hpl)).1.below hW) ((HKO.out _ (List.getElem_mem hql)).1.below hW) (HKL.out _ (List.getElem_mem hpl)).2 (HKO.out _ (List.getElem_mem hql)).2
        clear hbv
        obtain ⟨bA, off, hAe, hbA, hcA⟩ := (HA.out.below HBW.out).at1 hpl
        obtain ⟨bB, of2, hBe, hbB, hcB⟩ := (HB.out.below HBW.out).at1 hql
        subst hAe
        subst hBe
        have HBA := Lib.hid hbA
        have HBB := Lib.hid hbB
        have HcA := Lib.hid hcA
        have HcB := Lib.hid hcB
        clear hcA hcB hbA hbB
        generalize l[j] = x at *
        generalize o[j] = y at *
        have i1 : (0 : Int) ≤ j := by omega
        have i2 : (j : Int) < n := by omega
        have i3 : (0 : Int) ≤ j := by omega
        have i4 : (j : Int) < m := by omega
        go_wp2_with fail
        have MK : Hid (∀ W : World, Below wr.heap.size wr W → (fun W => (W.cell? ⟨bA, off + j * 7, none⟩ = some (.slice x.A x.n x.c) ∧ W.cell? ⟨bA, off + j * 7 + 1, none⟩ = some (.int .i64 x.st) ∧ W.cell? ⟨bA, off + j * 7 + 2, none⟩ = some (.int .i64 x.en) ∧ W.cell? ⟨bA, off + j * 7 + 3, none⟩ = some (.int .i64 x.bu) ∧ W.cell? ⟨bA, off + j * 7 + 4, none⟩ = some (.bool x.wr) ∧ W.cell? ⟨bA, off + j * 7 + 5, none⟩ = some (.bool x.fo) ∧ W.cell? ⟨bA, off + j * 7 + 6, none⟩ = some (.int .i64 x.wd)) ∧ (W.cell? ⟨bB, of2 + j * 7, none⟩ = some (.slice y.A y.n y.c) ∧ W.cell? ⟨bB, of2 + j * 7 + 1, none⟩ = some (.int .i64 y.st) ∧ W.cell? ⟨bB, of2 + j * 7 + 2, none⟩ = some (.int .i64 y.en) ∧ W.cell? ⟨bB, of2 + j * 7 + 3, none⟩ = some (.int .i64 y.bu) ∧ W.cell? ⟨bB, of2 + j * 7 + 4, none⟩ = some (.bool y.wr) ∧ W.cell? ⟨bB, of2 + j * 7 + 5, none⟩ = some (.bool y.fo) ∧ W.cell? ⟨bB, of2 + j * 7 + 6, none⟩ = some (.int .i64 y.wd)) ∧ Below wr.heap.size wr W) W) := fun W hW => by
          have r1 : ∀ f, f < 7 → W.cell? ⟨bA, off + j * 7 + f, none⟩ = (encR x)[f]? := fun f h => (hW.cell (p := ⟨bA, off + j * 7 + f, none⟩) HBA.out).trans (HcA.out f h)
          have r2 : ∀ f, f < 7 → W.cell? ⟨bB, of2 + j * 7 + f, none⟩ = (encR y)[f]? := fun f h => (hW.cell (p := ⟨bB, of2 + j * 7 + f, none⟩) HBB.out).trans (HcB.out f h)
          exact ⟨⟨r1 0 (by omega), r1 1 (by omega), r1 2 (by omega), r1 3 (by omega), r1 4 (by omega), r1 5 (by omega), r1 6 (by omega)⟩, ⟨r2 0 (by omega), r2 1 (by omega), r2 2 (by omega), r2 3 (by omega), r2 4 (by omega), r2 5 (by omega), r2 6 (by omega)⟩, hW⟩
        have hW2 : Below wr.heap.size wr wr.drew := (Below.refl _ _).drew
        refine wp_region_noPanic ?_
        refine wp_region_held_drew (S := (fun W => (W.cell? ⟨bA, off + j * 7, none⟩ = some (.slice x.A x.n x.c) ∧ W.cell? ⟨bA, off + j * 7 + 1, none⟩ = some (.int .i64 x.st) ∧ W.cell? ⟨bA, off + j * 7 + 2, none⟩ = some (.int .i64 x.en) ∧ W.cell? ⟨bA, off + j * 7 + 3, none⟩ = some (.int .i64 x.bu) ∧ W.cell? ⟨bA, off + j * 7 + 4, none⟩ = some (.bool x.wr) ∧ W.cell? ⟨bA, off + j * 7 + 5, none⟩ = some (.bool x.fo) ∧ W.cell? ⟨bA, off + j * 7 + 6, none⟩ = some (.int .i64 x.wd)) ∧ (W.cell? ⟨bB, of2 + j * 7, none⟩ = some (.slice y.A y.n y.c) ∧ W.cell? ⟨bB, of2 + j * 7 + 1, none⟩ = some (.int .i64 y.st) ∧ W.cell? ⟨bB, of2 + j * 7 + 2, none⟩ = some (.int .i64 y.en) ∧ W.cell? ⟨bB, of2 + j * 7 + 3, none⟩ = some (.int .i64 y.bu) ∧ W.cell? ⟨bB, of2 + j * 7 + 4, none⟩ = some (.bool y.wr) ∧ W.cell? ⟨bB, of2 + j * 7 + 5, none⟩ = some (.bool y.fo) ∧ W.cell? ⟨bB, of2 + j * 7 + 6, none⟩ = some (.int .i64 y.wd)) ∧ Below wr.heap.size wr W)) (by kernel_rfl) (MK.out _ hW2) (fun hHeld => ?_)
        refine wpAnyH_take (i := 0) (v := ?_) rfl (by kernel_rfl) (by kernel_rfl) (by kernel_rfl) (fun _ _ _ h => h) (Or.inl ⟨by rfl, ?_⟩) hHeld ?_
        rotate_left
        · intro w hSw
          (try dsimp only at hSw)
          go_simp
          try with_reducible rfl
        go_simp
        refine wpAnyH_take (i := 1) (v := ?_) rfl (by kernel_rfl) (by kernel_rfl) (by kernel_rfl) (fun _ _ _ h => h) (Or.inl ⟨by rfl, ?_⟩) hHeld ?_
        rotate_left
        · intro w hSw
          (try dsimp only at hSw)
          go_simp
          try with_reducible rfl
        go_simp
        refine wpAnyH_take (i := 2) (v := ?_) rfl (by kernel_rfl) (by kernel_rfl) (by kernel_rfl) (fun _ _ _ h => h) (Or.inl ⟨by rfl, ?_⟩) hHeld ?_
        rotate_left
        · intro w hSw
          (try dsimp only at hSw)
          go_simp
          try with_reducible rfl
        go_simp
        refine wpAnyH_take (i := 3) (v := ?_) rfl (by kernel_rfl) (by kernel_rfl) (by kernel_rfl) (fun _ _ _ h => h) (Or.inl ⟨by rfl, ?_⟩) hHeld ?_
        rotate_left
        · intro w hSw
          (try dsimp only at hSw)
          go_simp
          try with_reducible rfl
        go_simp
        refine wpAnyH_take (i := 4) (v := ?_) rfl (by kernel_rfl) (by kernel_rfl) (by kernel_rfl) (fun _ _ _ h => h) (Or.inl ⟨by rfl, ?_⟩) hHeld ?_
        rotate_left
        · intro w hSw
          (try dsimp only at hSw)
          go_simp
          try with_reducible rfl
        go_simp
        refine wpAnyH_take (i := 5) (v := ?_) rfl (by kernel_rfl) (by kernel_rfl) (by kernel_rfl) (fun _ _ _ h => h) (Or.inl ⟨by rfl, ?_⟩) hHeld ?_
        rotate_left
        · intro w hSw
          (try dsimp only at hSw)
          go_simp
          try with_reducible rfl
        go_simp
        refine wpAnyH_take (i := 6) (v := ?_) rfl (by kernel_rfl) (by kernel_rfl) (by kernel_rfl) (fun _ _ _ h => h) (Or.inl ⟨by rfl, ?_⟩) hHeld ?_
        rotate_left
        · intro w hSw
          (try dsimp only at hSw)
          go_simp
          try with_reducible rfl
        go_simp
        refine wpAnyH_take (i := 7) (v := ?_) rfl (by kernel_rfl) (by kernel_rfl) (by kernel_rfl) (fun _ _ _ h => h) (Or.inl ⟨by rfl, ?_⟩) hHeld ?_
        rotate_left
        · intro w hSw
          (try dsimp only at hSw)
          go_simp
          try with_reducible rfl
        go_simp
        refine wpAnyH_ready (rs := [8]) (by kernel_rfl) (by simp) ?_
        refine AllReadyH.cons rfl (fun K hK => ?_) ?_
        rotate_left
        · exact AllReadyH.nil
        go_simp
        go_wp2_with (first | (go_at_call 11; ((with_reducible refine (CS.out _ (HBW.out.trans (hW2.mono HBW.out.size))).mono ?_); rintro e w2 ⟨rfl, hb2⟩); have hW2 := hW2.trans (hb2.mono hW2.size)))
        refine hK.out _ _ (MK.out _ hW2) (fun hHeld => ?_)
        clear hK K
        go_simp
        refine wpAnyH_take (i := 9) (v := ?_) rfl (by kernel_rfl) (by kernel_rfl) (by kernel_rfl) (fun _ _ _ h => h) (Or.inl ⟨by rfl, ?_⟩) hHeld ?_
        rotate_left
        · intro w hSw
          (try dsimp only at hSw)
          go_simp
          try with_reducible rfl
        go_simp
        refine wpAnyH_done (by kernel_rfl) ?_ _
        refine NoPanic.normal ?_
        have HB4 := Lib.hid (hb.out.trans (hW2.mono hb.out.size))
        have HB5 := Lib.hid (HBW.out.trans (hW2.mono HBW.out.size))
        cases bv
        · obtain rfl : b = false := by
            rw [← Bool.not_eq_true]; intro h; have := HBV.out.mpr ((HBb.out.mp h).2.1 j hlt); cases this
          go_wp2
          go_ret
          exact ⟨rfl, HB5.out⟩
        · have HS : Hid (∀ i, i < j + 1 → RS (rth l i) (rth o i)) := Lib.hid (fun i hi => by
            rcases Nat.lt_succ_iff_lt_or_eq.mp hi with g | rfl
            · exact hs.out i g
            · exact HBV.out.mp rfl)
          go_wp2
          go_roundg (gk - 1)
          case measure => omega
          case rel => exact ⟨j + 1, by go_num, by omega, by omega, HS, HB4⟩
      · obtain rfl : j = ka := by omega
        have HSA := hs
        have HBA1 := hb
        obtain ⟨wA, hwA⟩ : ∃ x, x = wr := ⟨_, rfl⟩
        subst hwA
        go_wp2_with fail
        go_loopg [8] n (fun g i wq => ∃ (k : Nat), i = .int .i64 k ∧ kb ≤ k ∧ k ≤ n ∧ n - k ≤ g ∧ Hid (∀ i, kb ≤ i → i < k → RS (rth l i) (rth o (i - kb + kd))) ∧ Hid (Below wA.heap.size wA wq))
        case atStart => exact ⟨kb, rfl, by omega, by omega, by omega, Lib.hid (fun i h h' => by omega), Lib.hid (Below.refl _ _)⟩
        case round =>
          obtain ⟨k, rfl, h3, h4, h5, hs, hb⟩ := hrel
          have HBV0 := HBW
          have HBW := Lib.hid (HBW.out.trans (hb.out.mono HBW.out.size))
          have R3 := Lib.hid (RawAt.below R2.out hb.out (RawAt.lt R2.out))
          clear p0 p1
          by_cases hlt : k < n
          · have hpl : k < l.length := by rw [HL.out]; omega
            have hql : k - kb + kd < o.length := by rw [HO.out]; have := HF7.out; omega
            obtain ⟨q, hq⟩ : ∃ q, q = k - kb + kd := ⟨_, rfl⟩
            rw [← hq] at hql
            have HQ := Lib.hid hq
            have hqm : q < m := by rw [HO.out] at hql; exact hql
            have e1 : IntKind.i64.wrap ((k : Int) - kb) = (k : Int) - kb := IntWalk.i64_in _ (by omega)
            have e2 : IntKind.i64.wrap ((k : Int) - kb + kd) = (q : Int) := by rw [show (k : Int) - kb + kd = (q : Int) from by omega]; exact IntWalk.i64_in _ (by omega)
            clear hq
            obtain ⟨bv, hbv⟩ : ∃ bv : Bool, bv = true ↔ RS l[k] o[q] := by
              by_cases g : RS l[k] o[q]
              · exact ⟨true, ⟨fun _ => g, fun _ => rfl⟩⟩
              · exact ⟨false, ⟨(fun h => by cases h), fun h => absurd h g⟩⟩
            have HBV : Hid (bv = true ↔ RS (rth l (k)) (rth o (q))) := Lib.hid (by rw [rth_get hpl, rth_get hql]; exact hbv)
            have CS := Lib.hid fun W (hW : Below w.heap.size w W) => dRSame_any l[k] o[q] bv hbv W ((HKL.out _ (List.getElem_mem hpl)).1.below hW) ((HKO.out _ (List.getElem_mem hql)).1.below hW) (HKL.out _ (List.getElem_mem hpl)).2 (HKO.out _ (List.getElem_mem hql)).2
            clear hbv
            obtain ⟨bA, off, hAe, hbA, hcA⟩ := (HA.out.below HBW.out).at1 hpl
            obtain ⟨bB, of2, hBe, hbB, hcB⟩ := (HB.out.below HBW.out).at1 hql
            subst hAe
            subst hBe
            have HBA := Lib.hid hbA
            have HBB := Lib.hid hbB
            have HcA := Lib.hid hcA
            have HcB := Lib.hid hcB
            clear hcA hcB hbA hbB
            generalize l[k] = x at *
            generalize o[q] = y at *
            have i1 : (0 : Int) ≤ k := by omega
            have i2 : (k : Int) < n := by omega
            have i3 : (0 : Int) ≤ q := by omega
            have i4 : (q : Int) < m := by omega
            go_wp2_with fail
            have MK : Hid (∀ W : World, Below wr.heap.size wr W → (fun W => (W.cell? ⟨bA, off + k * 7, none⟩ = some (.slice x.A x.n x.c) ∧ W.cell? ⟨bA, off + k * 7 + 1, none⟩ = some (.int .i64 x.st) ∧ W.cell? ⟨bA, off + k * 7 + 2, none⟩ = some (.int .i64 x.en) ∧ W.cell? ⟨bA, off + k * 7 + 3, none⟩ = some (.int .i64 x.bu) ∧ W.cell? ⟨bA, off + k * 7 + 4, none⟩ = some (.bool x.wr) ∧ W.cell? ⟨bA, off + k * 7 + 5, none⟩ = some (.bool x.fo) ∧ W.cell? ⟨bA, off + k * 7 + 6, none⟩ = some (.int .i64 x.wd)) ∧ (W.cell? ⟨bB, of2 + q * 7, none⟩ = some (.slice y.A y.n y.c) ∧ W.cell? ⟨bB, of2 + q * 7 + 1, none⟩ = some (.int .i64 y.st) ∧ W.cell? ⟨bB, of2 + q * 7 + 2, none⟩ = some (.int .i64 y.en) ∧ W.cell? ⟨bB, of2 + q * 7 + 3, none⟩ = some (.int .i64 y.bu) ∧ W.cell? ⟨bB, of2 + q * 7 + 4, none⟩ = some (.bool y.wr) ∧ W.cell? ⟨bB, of2 + q * 7 + 5, none⟩ = some (.bool y.fo) ∧ W.cell? ⟨bB, of2 + q * 7 + 6, none⟩ = some (.int .i64 y.wd)) ∧ (W.cell? ⟨w.heap.size, 1, none⟩ = some (.int .i64 kb) ∧ W.cell? ⟨w.heap.size, 3, none⟩ = some (.int .i64 kd)) ∧ Below wr.heap.size wr W) W) := fun W hW => by
              have r1 : ∀ f, f < 7 → W.cell? ⟨bA, off + k * 7 + f, none⟩ = (encR x)[f]? := fun f h => (hW.cell (p := ⟨bA, off + k * 7 + f, none⟩) HBA.out).trans (HcA.out f h)
              have r2 : ∀ f, f < 7 → W.cell? ⟨bB, of2 + q * 7 + f, none⟩ = (encR y)[f]? := fun f h => (hW.cell (p := ⟨bB, of2 + q * 7 + f, none⟩) HBB.out).trans (HcB.out f h)
              exact ⟨⟨r1 0 (by omega), r1 1 (by omega), r1 2 (by omega), r1 3 (by omega), r1 4 (by omega), r1 5 (by omega), r1 6 (by omega)⟩, ⟨r2 0 (by omega), r2 1 (by omega), r2 2 (by omega), r2 3 (by omega), r2 4 (by omega), r2 5 (by omega), r2 6 (by omega)⟩, ⟨RawAt.cell (RawAt.below R3.out hW (RawAt.lt R3.out)) 1, RawAt.cell (RawAt.below R3.out hW (RawAt.lt R3.out)) 3⟩, hW⟩
            have hW2 : Below wr.heap.size wr wr.drew := (Below.refl _ _).drew
            refine wp_region_noPanic ?_
            refine wp_region_held_drew (S := (fun W => (W.cell? ⟨bA, off + k * 7, none⟩ = some (.slice x.A x.n x.c) ∧ W.cell? ⟨bA, off + k * 7 + 1, none⟩ = some (.int .i64 x.st) ∧ W.cell? ⟨bA, off + k * 7 + 2, none⟩ = some (.int .i64 x.en) ∧ W.cell? ⟨bA, off + k * 7 + 3, none⟩ = some (.int .i64 x.bu) ∧ W.cell? ⟨bA, off + k * 7 + 4, none⟩ = some (.bool x.wr) ∧ W.cell? ⟨bA, off + k * 7 + 5, none⟩ = some (.bool x.fo) ∧ W.cell? ⟨bA, off + k * 7 + 6, none⟩ = some (.int .i64 x.wd)) ∧ (W.cell? ⟨bB, of2 + q * 7, none⟩ = some (.slice y.A y.n y.c) ∧ W.cell? ⟨bB, of2 + q * 7 + 1, none⟩ = some (.int .i64 y.st) ∧ W.cell? ⟨bB, of2 + q * 7 + 2, none⟩ = some (.int .i64 y.en) ∧ W.cell? ⟨bB, of2 + q * 7 + 3, none⟩ = some (.int .i64 y.bu) ∧ W.cell? ⟨bB, of2 + q * 7 + 4, none⟩ = some (.bool y.wr) ∧ W.cell? ⟨bB, of2 + q * 7 + 5, none⟩ = some (.bool y.fo) ∧ W.cell? ⟨bB, of2 + q * 7 + 6, none⟩ = some (.int .i64 y.wd)) ∧ (W.cell? ⟨w.heap.size, 1, none⟩ = some (.int .i64 kb) ∧ W.cell? ⟨w.heap.size, 3, none⟩ = some (.int .i64 kd)) ∧ Below wr.heap.size wr W)) (by kernel_rfl) (MK.out _ hW2) (fun hHeld => ?_)
            refine wpAnyH_take (i := 0) (v := ?_) rfl (by kernel_rfl) (by kernel_rfl) (by kernel_rfl) (fun _ _ _ h => h) (Or.inl ⟨by rfl, ?_⟩) hHeld ?_
            rotate_left
            · intro w hSw
              (try dsimp only at hSw)
              go_simp
              try with_reducible rfl
            go_simp
            refine wpAnyH_take (i := 1) (v := ?_) rfl (by kernel_rfl) (by kernel_rfl) (by kernel_rfl) (fun _ _ _ h => h) (Or.inl ⟨by rfl, ?_⟩) hHeld ?_
            rotate_left
            · intro w hSw
              (try dsimp only at hSw)
              go_simp
              try with_reducible rfl
            go_simp
            refine wpAnyH_take (i := 2) (v := ?_) rfl (by kernel_rfl) (by kernel_rfl) (by kernel_rfl) (fun _ _ _ h => h) (Or.inl ⟨by rfl, ?_⟩) hHeld ?_
            rotate_left
            · intro w hSw
              (try dsimp only at hSw)
              go_simp
              try with_reducible rfl
            go_simp
            refine wpAnyH_take (i := 3) (v := ?_) rfl (by kernel_rfl) (by kernel_rfl) (by kernel_rfl) (fun _ _ _ h => h) (Or.inl ⟨by rfl, ?_⟩) hHeld ?_
            rotate_left
            · intro w hSw
              (try dsimp only at hSw)
              go_simp
              try with_reducible rfl
            go_simp
            refine wpAnyH_take (i := 4) (v := ?_) rfl (by kernel_rfl) (by kernel_rfl) (by kernel_rfl) (fun _ _ _ h => h) (Or.inl ⟨by rfl, ?_⟩) hHeld ?_
            rotate_left
            · intro w hSw
              (try dsimp only at hSw)
              go_simp
              try with_reducible rfl
            go_simp
            refine wpAnyH_take (i := 5) (v := ?_) rfl (by kernel_rfl) (by kernel_rfl) (by kernel_rfl) (fun _ _ _ h => h) (Or.inl ⟨by rfl, ?_⟩) hHeld ?_
            rotate_left
            · intro w hSw
              (try dsimp only at hSw)
              go_simp
              try with_reducible rfl
            go_simp
            refine wpAnyH_take (i := 6) (v := ?_) rfl (by kernel_rfl) (by kernel_rfl) (by kernel_rfl) (fun _ _ _ h => h) (Or.inl ⟨by rfl, ?_⟩) hHeld ?_
            rotate_left
            · intro w hSw
              (try dsimp only at hSw)
              go_simp
              try with_reducible rfl
            go_simp
            refine wpAnyH_take (i := 7) (v := ?_) rfl (by kernel_rfl) (by kernel_rfl) (by kernel_rfl) (fun _ _ _ h => h) (Or.inl ⟨by rfl, ?_⟩) hHeld ?_
            rotate_left
            · intro w hSw
              (try dsimp only at hSw)
              go_simp
              try with_reducible rfl
            go_simp
            refine wpAnyH_take (i := 8) (v := ?_) rfl (by kernel_rfl) (by kernel_rfl) (by kernel_rfl) (fun _ _ _ h => h) (Or.inl ⟨by rfl, ?_⟩) hHeld ?_
            rotate_left
            · intro w hSw
              (try dsimp only at hSw)
              go_simp
              try with_reducible rfl
            go_simp
            refine wpAnyH_take (i := 9) (v := ?_) rfl (by kernel_rfl) (by kernel_rfl) (by kernel_rfl) (fun _ _ _ h => h) (Or.inl ⟨by rfl, ?_⟩) hHeld ?_
            rotate_left
            · intro w hSw
              (try dsimp only at hSw)
              go_simp
              try with_reducible rfl
            go_simp
            refine wpAnyH_take (i := 10) (v := ?_) rfl (by kernel_rfl) (by kernel_rfl) (by kernel_rfl) (fun _ _ _ h => h) (Or.inl ⟨by rfl, ?_⟩) hHeld ?_
            rotate_left
            · intro w hSw
              (try dsimp only at hSw)
              go_simp
              try with_reducible rfl
            go_simp
            refine wpAnyH_take (i := 11) (v := ?_) rfl (by kernel_rfl) (by kernel_rfl) (by kernel_rfl) (fun _ _ _ h => h) (Or.inl ⟨by rfl, ?_⟩) hHeld ?_
            rotate_left
            · intro w hSw
              (try dsimp only at hSw)
              go_simp
              try with_reducible rfl
            go_simp
            refine wpAnyH_take (i := 12) (v := ?_) rfl (by kernel_rfl) (by kernel_rfl) (by kernel_rfl) (fun _ _ _ h => h) (Or.inl ⟨by rfl, ?_⟩) hHeld ?_
            rotate_left
            · intro w hSw
              (try dsimp only at hSw)
              go_simp
              try with_reducible rfl
            go_simp
            refine wpAnyH_take (i := 13) (v := ?_) rfl (by kernel_rfl) (by kernel_rfl) (by kernel_rfl) (fun _ _ _ h => h) (Or.inl ⟨by rfl, ?_⟩) hHeld ?_
            rotate_left
            · intro w hSw
              (try dsimp only at hSw)
              go_simp
              try with_reducible rfl
            go_simp
            refine wpAnyH_ready (rs := [14]) (by kernel_rfl) (by simp) ?_
            refine AllReadyH.cons rfl (fun K hK => ?_) ?_
            rotate_left
            · exact AllReadyH.nil
            go_simp
            go_wp2_with (first | (go_at_call 11; ((with_reducible refine (CS.out _ (HBW.out.trans (hW2.mono HBW.out.size))).mono ?_); rintro e w2 ⟨rfl, hb2⟩); have hW2 := hW2.trans (hb2.mono hW2.size)))
            refine hK.out _ _ (MK.out _ hW2) (fun hHeld => ?_)
            clear hK K
            go_simp
            refine wpAnyH_take (i := 15) (v := ?_) rfl (by kernel_rfl) (by kernel_rfl) (by kernel_rfl) (fun _ _ _ h => h) (Or.inl ⟨by rfl, ?_⟩) hHeld ?_
            rotate_left
            · intro w hSw
              (try dsimp only at hSw)
              go_simp
              try with_reducible rfl
            go_simp
            refine wpAnyH_done (by kernel_rfl) ?_ _
            refine NoPanic.normal ?_
            have HB4 := Lib.hid (hb.out.trans (hW2.mono hb.out.size))
            have HB5 := Lib.hid (HBW.out.trans (hW2.mono HBW.out.size))
            cases bv
            · obtain rfl : b = false := by
                rw [← Bool.not_eq_true]; intro h; have := HBV.out.mpr (by rw [HQ.out]; exact (HBb.out.mp h).2.2 k h3 hlt); cases this
              go_wp2
              go_ret
              exact ⟨rfl, HB5.out⟩
            · have HS : Hid (∀ i, kb ≤ i → i < k + 1 → RS (rth l i) (rth o (i - kb + kd))) := Lib.hid (fun i hk hi => by
                rcases Nat.lt_succ_iff_lt_or_eq.mp hi with g | rfl
                · exact hs.out i hk g
                · rw [← HQ.out]; exact HBV.out.mp rfl)
              go_wp2
              go_roundg (gk - 1)
              case measure => omega
              case rel => exact ⟨k + 1, by go_num, by omega, by omega, by omega, HS, HB4⟩
          · obtain rfl : k = n := by omega
            obtain rfl : b = true := HBb.out.mpr ⟨hf0.out, HSA.out, hs.out⟩
            go_wp2
            go_ret
            exact ⟨rfl, HBW.out⟩
  · obtain rfl : b = false := by
      rw [← Bool.not_eq_true]; intro h; have := (HBb.out.mp h).1; rw [HL.out, HO.out] at this; exact hf this
    have CFt := Lib.hid fun W => dRFits_any p n m false ⟨(fun h => by cases h), fun h => absurd h hf⟩ W (by omega) (by omega)
    clear HBb
    obtain ⟨pa, pb, pc, pd⟩ := p
    simp only at *
    go_enter Try.func16, Try.ntmps16
    go_wp2_with fail
    with_reducible refine (CFt.out _).mono ?_
    rintro e w1 ⟨rfl, hb1⟩
    have HB1 := Lib.hid (HX.out.trans (hb1.mono HX.out.size))
    clear hb1 R0 CFt
    go_wp2
    go_ret
    exact ⟨rfl, HB1.out⟩
end Go.Proofs.Ytebjkgeldjgnfaa
