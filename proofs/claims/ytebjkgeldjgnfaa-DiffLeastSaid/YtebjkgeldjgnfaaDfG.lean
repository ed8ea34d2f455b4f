/- The least patch, by the document. -/
import Derived.Test.YtebjkgeldjgnfaaDfF
namespace Go.Proofs.Ytebjkgeldjgnfaa
open Go.RowKit
set_option linter.unusedVariables false
set_option maxHeartbeats 8000000 in
set_option maxRecDepth 100000 in
theorem dRLeast_any (A B : Option Addr) (n c m d : Nat) (l o : List Rw) (p : Rp) (hp : Lst l o p) (w : World) (hA : RowsAt encR 7 w A l) (hl : l.length = n) (hB : RowsAt encR 7 w B o) (hy : o.length = m) (okl : ∀ s ∈ l, RwOk w s ∧ s.n ≤ 9223372036854775807) (oko : ∀ s ∈ o, RwOk w s ∧ s.n ≤ 9223372036854775807) (hn : n ≤ 9223372036854775807) (hm : m ≤ 9223372036854775807) :
    Calls Try.prog 18 #[.slice A n c, .slice B m d] w fun e w' => e = .returned (.agg #[.int .i64 p.a, .int .i64 p.b, .int .i64 p.c, .int .i64 p.d]) ∧ Below w.heap.size w w' := by
  have x1 : Below w.heap.size w (w.alloc (.cells #[.int .i64 0, .int .i64 0, .int .i64 0, .int .i64 0] 28)) := (Below.refl _ _).alloc (Nat.le_refl _) _
  have R1 : RawAt 28 (w.alloc (.cells #[.int .i64 0, .int .i64 0, .int .i64 0, .int .i64 0] 28)) w.heap.size #[.int .i64 0, .int .i64 0, .int .i64 0, .int .i64 0] := heap_alloc_new w _
  have z1 : (w.alloc (.cells #[.int .i64 0, .int .i64 0, .int .i64 0, .int .i64 0] 28)).heap.size = w.heap.size + 1 := by simp
  have x2 : Below (w.heap.size + 1) (w.alloc (.cells #[.int .i64 0, .int .i64 0, .int .i64 0, .int .i64 0] 28)) ((w.alloc (.cells #[.int .i64 0, .int .i64 0, .int .i64 0, .int .i64 0] 28)).alloc (.cells #[.int .i64 0, .int .i64 n, .int .i64 0, .int .i64 m] 28)) := (Below.refl _ _).alloc (by rw [z1]; exact Nat.le_refl _) _
  have R2 : RawAt 28 ((w.alloc (.cells #[.int .i64 0, .int .i64 0, .int .i64 0, .int .i64 0] 28)).alloc (.cells #[.int .i64 0, .int .i64 n, .int .i64 0, .int .i64 m] 28)) (w.heap.size + 1) #[.int .i64 0, .int .i64 n, .int .i64 0, .int .i64 m] := by
    have h := heap_alloc_new (w.alloc (.cells #[.int .i64 0, .int .i64 0, .int .i64 0, .int .i64 0] 28)) (.cells #[.int .i64 0, .int .i64 n, .int .i64 0, .int .i64 m] 28)
    rw [z1] at h
    exact h
  have HZ0 := Lib.hid (RawAt.below R1 x2 (by omega))
  have HP0 := Lib.hid R2
  have HX0 := Lib.hid (x1.trans (x2.mono (by omega)))
  have HPP := Lib.hid hp
  clear x1 R1 z1 x2 R2 hp
  have HA := Lib.hid hA
  have HB := Lib.hid hB
  have HL := Lib.hid hl
  have HO := Lib.hid hy
  have HKL := Lib.hid okl
  have HKO := Lib.hid oko
  clear hA hB hl hy okl oko
  have hML : min l.length o.length = min n m := by rw [HL.out, HO.out]
  have HML := Lib.hid hML
  clear hML
  go_enter Try.func18, Try.ntmps18
  go_wp2_with fail
  go_loopg [] n (fun g wr => ∃ (j : Nat), j ≤ n ∧ j ≤ m ∧ n - j ≤ g ∧ Hid (∀ i, i < j → PF l o i) ∧ Hid (Below w.heap.size w wr) ∧ Hid (RawAt 28 wr (w.heap.size + 1) #[.int .i64 j, .int .i64 n, .int .i64 0, .int .i64 m]) ∧ Hid (RawAt 28 wr w.heap.size #[.int .i64 0, .int .i64 0, .int .i64 0, .int .i64 0]))
  case atStart => exact ⟨0, by omega, by omega, by omega, Lib.hid (fun i h => by omega), HX0, HP0, HZ0⟩
  case round =>
    obtain ⟨j, h1, h1', h2, hs, hb, hP, hZ⟩ := hrel
    have HBW := Lib.hid hb.out
    have hW0 : Below wr.heap.size wr wr.drew := (Below.refl _ _).drew
    by_cases b1 : j < n
    · have a1 : decide ((j : Int) < (n : Int)) = true := decide_eq_true (by omega)
      have a1n : decide (j < n) = true := decide_eq_true b1
      by_cases b2 : j < m
      · have a2 : decide ((j : Int) < (m : Int)) = true := decide_eq_true (by omega)
        have a2n : decide (j < m) = true := decide_eq_true b2
        have hpl : j < l.length := by rw [HL.out]; omega
        have hql : j < o.length := by rw [HO.out]; omega
        obtain ⟨bv, hbv⟩ : ∃ bv : Bool, bv = true ↔ RS l[j] o[j] := by
          by_cases g : RS l[j] o[j]
          · exact ⟨true, ⟨fun _ => g, fun _ => rfl⟩⟩
          · exact ⟨false, ⟨(fun h => by cases h), fun h => absurd h g⟩⟩
        have HBV : Hid (bv = true ↔ RS (rth l (j)) (rth o (j))) := Lib.hid (by rw [rth_get hpl, rth_get hql]; exact hbv)
        have CS := Lib.hid fun W (hW : Below w.heap.size w W) => dRSame_any l[j] o[j] bv hbv W ((HKL.out _ (List.getElem_mem hpl)).1.below hW) ((HKO.out _ (List.getElem_mem hql)).1.below hW) (HKL.out _ (List.getElem_mem hpl)).2 (HKO.out _ (List.getElem_mem hql)).2
        clear hbv
        obtain ⟨bA, off, hAe, hbA, hcA⟩ := (HA.out.below HBW.out).at1 hpl
        obtain ⟨bB, of2, hBe, hbB, hcB⟩ := (HB.out.below HBW.out).at1 hql
        subst hAe
        subst hBe
        have HBA := Lib.hid hbA
        have HBB := Lib.hid hbB
        have HcA := Lib.hid hcA
        have HcB := Lib.hid hcB
        clear hcA hcB hbA hbB
        generalize l[j] = x at *
        generalize o[j] = y at *
        have i1 : (0 : Int) ≤ j := by omega
        have i2 : (j : Int) < n := by omega
        have i3 : (0 : Int) ≤ j := by omega
        have i4 : (j : Int) < m := by omega
        go_wp2_with fail
        have MK : Hid (∀ W : World, Below wr.heap.size wr W → (fun W => (W.cell? ⟨bA, off + j * 7, none⟩ = some (.slice x.A x.n x.c) ∧ W.cell? ⟨bA, off + j * 7 + 1, none⟩ = some (.int .i64 x.st) ∧ W.cell? ⟨bA, off + j * 7 + 2, none⟩ = some (.int .i64 x.en) ∧ W.cell? ⟨bA, off + j * 7 + 3, none⟩ = some (.int .i64 x.bu) ∧ W.cell? ⟨bA, off + j * 7 + 4, none⟩ = some (.bool x.wr) ∧ W.cell? ⟨bA, off + j * 7 + 5, none⟩ = some (.bool x.fo) ∧ W.cell? ⟨bA, off + j * 7 + 6, none⟩ = some (.int .i64 x.wd)) ∧ (W.cell? ⟨bB, of2 + j * 7, none⟩ = some (.slice y.A y.n y.c) ∧ W.cell? ⟨bB, of2 + j * 7 + 1, none⟩ = some (.int .i64 y.st) ∧ W.cell? ⟨bB, of2 + j * 7 + 2, none⟩ = some (.int .i64 y.en) ∧ W.cell? ⟨bB, of2 + j * 7 + 3, none⟩ = some (.int .i64 y.bu) ∧ W.cell? ⟨bB, of2 + j * 7 + 4, none⟩ = some (.bool y.wr) ∧ W.cell? ⟨bB, of2 + j * 7 + 5, none⟩ = some (.bool y.fo) ∧ W.cell? ⟨bB, of2 + j * 7 + 6, none⟩ = some (.int .i64 y.wd)) ∧ (W.cell? ⟨w.heap.size + 1, 0, none⟩ = some (.int .i64 j)) ∧ Below wr.heap.size wr W) W) := fun W hW => by
          have r1 : ∀ f, f < 7 → W.cell? ⟨bA, off + j * 7 + f, none⟩ = (encR x)[f]? := fun f h => (hW.cell (p := ⟨bA, off + j * 7 + f, none⟩) HBA.out).trans (HcA.out f h)
          have r2 : ∀ f, f < 7 → W.cell? ⟨bB, of2 + j * 7 + f, none⟩ = (encR y)[f]? := fun f h => (hW.cell (p := ⟨bB, of2 + j * 7 + f, none⟩) HBB.out).trans (HcB.out f h)
          exact ⟨⟨r1 0 (by omega), r1 1 (by omega), r1 2 (by omega), r1 3 (by omega), r1 4 (by omega), r1 5 (by omega), r1 6 (by omega)⟩, ⟨r2 0 (by omega), r2 1 (by omega), r2 2 (by omega), r2 3 (by omega), r2 4 (by omega), r2 5 (by omega), r2 6 (by omega)⟩, RawAt.cell (RawAt.below hP.out hW (RawAt.lt hP.out)) 0, hW⟩
        have hW2 : Below wr.heap.size wr wr.drew := (Below.refl _ _).drew
        refine wp_region_noPanic ?_
        refine wp_region_held_drew (S := (fun W => (W.cell? ⟨bA, off + j * 7, none⟩ = some (.slice x.A x.n x.c) ∧ W.cell? ⟨bA, off + j * 7 + 1, none⟩ = some (.int .i64 x.st) ∧ W.cell? ⟨bA, off + j * 7 + 2, none⟩ = some (.int .i64 x.en) ∧ W.cell? ⟨bA, off + j * 7 + 3, none⟩ = some (.int .i64 x.bu) ∧ W.cell? ⟨bA, off + j * 7 + 4, none⟩ = some (.bool x.wr) ∧ W.cell? ⟨bA, off + j * 7 + 5, none⟩ = some (.bool x.fo) ∧ W.cell? ⟨bA, off + j * 7 + 6, none⟩ = some (.int .i64 x.wd)) ∧ (W.cell? ⟨bB, of2 + j * 7, none⟩ = some (.slice y.A y.n y.c) ∧ W.cell? ⟨bB, of2 + j * 7 + 1, none⟩ = some (.int .i64 y.st) ∧ W.cell? ⟨bB, of2 + j * 7 + 2, none⟩ = some (.int .i64 y.en) ∧ W.cell? ⟨bB, of2 + j * 7 + 3, none⟩ = some (.int .i64 y.bu) ∧ W.cell? ⟨bB, of2 + j * 7 + 4, none⟩ = some (.bool y.wr) ∧ W.cell? ⟨bB, of2 + j * 7 + 5, none⟩ = some (.bool y.fo) ∧ W.cell? ⟨bB, of2 + j * 7 + 6, none⟩ = some (.int .i64 y.wd)) ∧ (W.cell? ⟨w.heap.size + 1, 0, none⟩ = some (.int .i64 j)) ∧ Below wr.heap.size wr W)) (by kernel_rfl) (MK.out _ hW2) (fun hHeld => ?_)
        refine wpAnyH_take (i := 0) (v := ?_) rfl (by kernel_rfl) (by kernel_rfl) (by kernel_rfl) (fun _ _ _ h => h) (Or.inl ⟨by rfl, ?_⟩) hHeld ?_
        rotate_left
        · intro w hSw
          (try dsimp only at hSw)
          go_simp
          try with_reducible rfl
        go_simp
        refine wpAnyH_take (i := 1) (v := ?_) rfl (by kernel_rfl) (by kernel_rfl) (by kernel_rfl) (fun _ _ _ h => h) (Or.inl ⟨by rfl, ?_⟩) hHeld ?_
        rotate_left
        · intro w hSw
          (try dsimp only at hSw)
          go_simp
          try with_reducible rfl
        go_simp
        refine wpAnyH_take (i := 2) (v := ?_) rfl (by kernel_rfl) (by kernel_rfl) (by kernel_rfl) (fun _ _ _ h => h) (Or.inl ⟨by rfl, ?_⟩) hHeld ?_
        rotate_left
        · intro w hSw
          (try dsimp only at hSw)
          go_simp
          try with_reducible rfl
        go_simp
        refine wpAnyH_take (i := 3) (v := ?_) rfl (by kernel_rfl) (by kernel_rfl) (by kernel_rfl) (fun _ _ _ h => h) (Or.inl ⟨by rfl, ?_⟩) hHeld ?_
        rotate_left
        · intro w hSw
          (try dsimp only at hSw)
          go_simp
          try with_reducible rfl
        go_simp
        refine wpAnyH_take (i := 4) (v := ?_) rfl (by kernel_rfl) (by kernel_rfl) (by kernel_rfl) (fun _ _ _ h => h) (Or.inl ⟨by rfl, ?_⟩) hHeld ?_
        rotate_left
        · intro w hSw
          (try dsimp only at hSw)
          go_simp
          try with_reducible rfl
        go_simp
        refine wpAnyH_take (i := 5) (v := ?_) rfl (by kernel_rfl) (by kernel_rfl) (by kernel_rfl) (fun _ _ _ h => h) (Or.inl ⟨by rfl, ?_⟩) hHeld ?_
        rotate_left
        · intro w hSw
          (try dsimp only at hSw)
          go_simp
          try with_reducible rfl
        go_simp
        refine wpAnyH_take (i := 6) (v := ?_) rfl (by kernel_rfl) (by kernel_rfl) (by kernel_rfl) (fun _ _ _ h => h) (Or.inl ⟨by rfl, ?_⟩) hHeld ?_
        rotate_left
        · intro w hSw
          (try dsimp only at hSw)
          go_simp
          try with_reducible rfl
        go_simp
        refine wpAnyH_take (i := 7) (v := ?_) rfl (by kernel_rfl) (by kernel_rfl) (by kernel_rfl) (fun _ _ _ h => h) (Or.inl ⟨by rfl, ?_⟩) hHeld ?_
        rotate_left
        · intro w hSw
          (try dsimp only at hSw)
          go_simp
          try with_reducible rfl
        go_simp
        refine wpAnyH_take (i := 8) (v := ?_) rfl (by kernel_rfl) (by kernel_rfl) (by kernel_rfl) (fun _ _ _ h => h) (Or.inl ⟨by rfl, ?_⟩) hHeld ?_
        rotate_left
        · intro w hSw
          (try dsimp only at hSw)
          go_simp
          try with_reducible rfl
        go_simp
        refine wpAnyH_take (i := 9) (v := ?_) rfl (by kernel_rfl) (by kernel_rfl) (by kernel_rfl) (fun _ _ _ h => h) (Or.inl ⟨by rfl, ?_⟩) hHeld ?_
        rotate_left
        · intro w hSw
          (try dsimp only at hSw)
          go_simp
          try with_reducible rfl
        go_simp
        refine wpAnyH_take (i := 10) (v := ?_) rfl (by kernel_rfl) (by kernel_rfl) (by kernel_rfl) (fun _ _ _ h => h) (Or.inl ⟨by rfl, ?_⟩) hHeld ?_
        rotate_left
        · intro w hSw
          (try dsimp only at hSw)
          go_simp
          try with_reducible rfl
        go_simp
        refine wpAnyH_take (i := 11) (v := ?_) rfl (by kernel_rfl) (by kernel_rfl) (by kernel_rfl) (fun _ _ _ h => h) (Or.inl ⟨by rfl, ?_⟩) hHeld ?_
        rotate_left
        · intro w hSw
          (try dsimp only at hSw)
          go_simp
          try with_reducible rfl
        go_simp
        refine wpAnyH_take (i := 12) (v := ?_) rfl (by kernel_rfl) (by kernel_rfl) (by kernel_rfl) (fun _ _ _ h => h) (Or.inl ⟨by rfl, ?_⟩) hHeld ?_
        rotate_left
        · intro w hSw
          (try dsimp only at hSw)
          go_simp
          try with_reducible rfl
        go_simp
        refine wpAnyH_take (i := 13) (v := ?_) rfl (by kernel_rfl) (by kernel_rfl) (by kernel_rfl) (fun _ _ _ h => h) (Or.inl ⟨by rfl, ?_⟩) hHeld ?_
        rotate_left
        · intro w hSw
          (try dsimp only at hSw)
          go_simp
          try with_reducible rfl
        go_simp
        refine wpAnyH_take (i := 14) (v := ?_) rfl (by kernel_rfl) (by kernel_rfl) (by kernel_rfl) (fun _ _ _ h => h) (Or.inl ⟨by rfl, ?_⟩) hHeld ?_
        rotate_left
        · intro w hSw
          (try dsimp only at hSw)
          go_simp
          try with_reducible rfl
        go_simp
        refine wpAnyH_take (i := 15) (v := ?_) rfl (by kernel_rfl) (by kernel_rfl) (by kernel_rfl) (fun _ _ _ h => h) (Or.inl ⟨by rfl, ?_⟩) hHeld ?_
        rotate_left
        · intro w hSw
          (try dsimp only at hSw)
          go_simp
          try with_reducible rfl
        go_simp
        refine wpAnyH_take (i := 16) (v := ?_) rfl (by kernel_rfl) (by kernel_rfl) (by kernel_rfl) (fun _ _ _ h => h) (Or.inl ⟨by rfl, ?_⟩) hHeld ?_
        rotate_left
        · intro w hSw
          (try dsimp only at hSw)
          go_simp
          try with_reducible rfl
        go_simp
        refine wpAnyH_take (i := 17) (v := ?_) rfl (by kernel_rfl) (by kernel_rfl) (by kernel_rfl) (fun _ _ _ h => h) (Or.inl ⟨by rfl, ?_⟩) hHeld ?_
        rotate_left
        · intro w hSw
          (try dsimp only at hSw)
          go_simp
          try with_reducible rfl
        go_simp
        refine wpAnyH_take (i := 18) (v := ?_) rfl (by kernel_rfl) (by kernel_rfl) (by kernel_rfl) (fun _ _ _ h => h) (Or.inl ⟨by rfl, ?_⟩) hHeld ?_
        rotate_left
        · intro w hSw
          (try dsimp only at hSw)
          go_simp
          try with_reducible rfl
        go_simp
        refine wpAnyH_take (i := 19) (v := ?_) rfl (by kernel_rfl) (by kernel_rfl) (by kernel_rfl) (fun _ _ _ h => h) (Or.inl ⟨by rfl, ?_⟩) hHeld ?_
        rotate_left
        · intro w hSw
          (try dsimp only at hSw)
          go_simp
          try with_reducible rfl
        go_simp
        refine wpAnyH_take (i := 20) (v := ?_) rfl (by kernel_rfl) (by kernel_rfl) (by kernel_rfl) (fun _ _ _ h => h) (Or.inl ⟨by rfl, ?_⟩) hHeld ?_
        rotate_left
        · intro w hSw
          (try dsimp only at hSw)
          go_simp
          try with_reducible rfl
        go_simp
        refine wpAnyH_take (i := 21) (v := ?_) rfl (by kernel_rfl) (by kernel_rfl) (by kernel_rfl) (fun _ _ _ h => h) (Or.inl ⟨by rfl, ?_⟩) hHeld ?_
        rotate_left
        · intro w hSw
          (try dsimp only at hSw)
          go_simp
          try with_reducible rfl
        go_simp
        refine wpAnyH_take (i := 22) (v := ?_) rfl (by kernel_rfl) (by kernel_rfl) (by kernel_rfl) (fun _ _ _ h => h) (Or.inl ⟨by rfl, ?_⟩) hHeld ?_
        rotate_left
        · intro w hSw
          (try dsimp only at hSw)
          go_simp
          try with_reducible rfl
        go_simp
        refine wpAnyH_ready (rs := [23]) (by kernel_rfl) (by simp) ?_
        refine AllReadyH.cons rfl (fun K hK => ?_) ?_
        rotate_left
        · exact AllReadyH.nil
        go_simp
        go_wp2_with (first | (go_at_call 11; ((with_reducible refine (CS.out _ (HBW.out.trans (hW2.mono HBW.out.size))).mono ?_); rintro e w2 ⟨rfl, hb2⟩); have hW2 := hW2.trans (hb2.mono hW2.size)))
        refine hK.out _ _ (MK.out _ hW2) (fun hHeld => ?_)
        clear hK K
        go_simp
        refine wpAnyH_take (i := 24) (v := ?_) rfl (by kernel_rfl) (by kernel_rfl) (by kernel_rfl) (fun _ _ _ h => h) (Or.inl ⟨by rfl, ?_⟩) hHeld ?_
        rotate_left
        · intro w hSw
          (try dsimp only at hSw)
          go_simp
          try with_reducible rfl
        go_simp
        refine wpAnyH_done (by kernel_rfl) ?_ _
        refine NoPanic.normal ?_
        have HBz := Lib.hid (hb.out.trans (hW2.mono hb.out.size))
        have HPz := Lib.hid (RawAt.below hP.out hW2 (RawAt.lt hP.out))
        have HZz := Lib.hid (RawAt.below hZ.out hW2 (RawAt.lt hZ.out))
        clear hP hZ hb MK CS HcA HcB
        cases bv
        · have hnp : ¬ PF l o j := fun h => by have := HBV.out.mpr h; cases this
          have HAK : Hid (Alk (PF l o) (min l.length o.length) j) := Lib.hid ⟨by rw [HML.out]; omega, hs.out, fun h => hnp⟩
          clear hnp HBV
          generalize (some (⟨bA, off, none⟩ : Addr)) = A at *
          generalize (some (⟨bB, of2, none⟩ : Addr)) = B at *
          have y0 := RawAt.cell HPz.out 0
          have y1 := RawAt.cell HPz.out 2
          simp at y0 y1
          have y2 := RawAt.free HPz.out 2
          go_wp2_with fail
          go_loopg [] n (fun g wq => ∃ (k u v : Nat), u + k = n ∧ v + k = m ∧ j ≤ u ∧ j ≤ v ∧ u ≤ g ∧ Hid (∀ i, i < k → PB l o i) ∧ Hid (Below w.heap.size w wq) ∧ Hid (RawAt 28 wq (w.heap.size + 1) #[.int .i64 j, .int .i64 u, .int .i64 j, .int .i64 v]) ∧ Hid (RawAt 28 wq w.heap.size #[.int .i64 0, .int .i64 0, .int .i64 0, .int .i64 0]))
          case atStart => exact ⟨0, n, m, rfl, rfl, by omega, by omega, Nat.le_refl _, Lib.hid (fun i h => by omega), Lib.hid (HBz.out.setCell (by simp) _), Lib.hid ((RawAt.set_ HPz.out 2 _).of_eq (by simp)), Lib.hid (RawAt.set_other HZz.out (by omega) 2 _)⟩
          case round =>
            clear HBz HPz HZz y0 y1 y2
            (try clear hHeld)
            (try clear a2 a2n)
            (try clear a1 a1n)
            (try clear hW0)
            (try clear hW2)
            (try clear b2)
            (try clear b1)
            obtain ⟨k, u, v, g1, g2, g3, g4, g5, hs2, hbL, hP2, hZ2⟩ := hrel
            have HBW := Lib.hid hbL.out
            have hW0 : Below wr.heap.size wr wr.drew := (Below.refl _ _).drew
            by_cases c1 : j < u
            · have d1 : decide ((j : Int) < (u : Int)) = true := decide_eq_true (by omega)
              have d1n : decide (j < u) = true := decide_eq_true c1
              by_cases c2 : j < v
              · have d2 : decide ((j : Int) < (v : Int)) = true := decide_eq_true (by omega)
                have d2n : decide (j < v) = true := decide_eq_true c2
                obtain ⟨u', rfl⟩ : ∃ u', u = u' + 1 := ⟨u - 1, by omega⟩
                obtain ⟨v', rfl⟩ : ∃ v', v = v' + 1 := ⟨v - 1, by omega⟩
                have hpl : u' < l.length := by rw [HL.out]; omega
                have hql : v' < o.length := by rw [HO.out]; omega
                have e1 : IntKind.i64.wrap (((u' + 1 : Nat) : Int) - 1) = (u' : Int) := by rw [show ((u' + 1 : Nat) : Int) - 1 = (u' : Int) from by omega]; exact IntWalk.i64_in _ (by omega)
                have e2 : IntKind.i64.wrap (((v' + 1 : Nat) : Int) - 1) = (v' : Int) := by rw [show ((v' + 1 : Nat) : Int) - 1 = (v' : Int) from by omega]; exact IntWalk.i64_in _ (by omega)
                obtain ⟨bv, hbv⟩ : ∃ bv : Bool, bv = true ↔ RS l[u'] o[v'] := by
                  by_cases g : RS l[u'] o[v']
                  · exact ⟨true, ⟨fun _ => g, fun _ => rfl⟩⟩
                  · exact ⟨false, ⟨(fun h => by cases h), fun h => absurd h g⟩⟩
                have HBV : Hid (bv = true ↔ RS (rth l (u')) (rth o (v'))) := Lib.hid (by rw [rth_get hpl, rth_get hql]; exact hbv)
                have CS := Lib.hid fun W (hW : Below w.heap.size w W) => dRSame_any l[u'] o[v'] bv hbv W ((HKL.out _ (List.getElem_mem hpl)).1.below hW) ((HKO.out _ (List.getElem_mem hql)).1.below hW) (HKL.out _ (List.getElem_mem hpl)).2 (HKO.out _ (List.getElem_mem hql)).2
                clear hbv
                have HPB : Hid (PB l o k ↔ RS (rth l u') (rth o v')) := Lib.hid (by unfold PB; rw [show l.length - 1 - k = u' from by rw [HL.out]; omega, show o.length - 1 - k = v' from by rw [HO.out]; omega])
                obtain ⟨bA, off, hAe, hbA, hcA⟩ := (HA.out.below HBW.out).at1 hpl
                obtain ⟨bB, of2, hBe, hbB, hcB⟩ := (HB.out.below HBW.out).at1 hql
                subst hAe
                subst hBe
                have HBA := Lib.hid hbA
                have HBB := Lib.hid hbB
                have HcA := Lib.hid hcA
                have HcB := Lib.hid hcB
                clear hcA hcB hbA hbB
                generalize l[u'] = x at *
                generalize o[v'] = y at *
                have i1 : (0 : Int) ≤ u' := by omega
                have i2 : (u' : Int) < n := by omega
                have i3 : (0 : Int) ≤ v' := by omega
                have i4 : (v' : Int) < m := by omega
                obtain ⟨uu, huu⟩ : ∃ uu : Nat, uu = u' + 1 := ⟨_, rfl⟩
                obtain ⟨vv, hvv⟩ : ∃ vv : Nat, vv = v' + 1 := ⟨_, rfl⟩
                rw [← huu] at d1 d1n e1 hP2 g1 g3 g5
                rw [← hvv] at d2 d2n e2 hP2 g2 g4
                have HUU := Lib.hid huu
                have HVV := Lib.hid hvv
                clear huu hvv c1 c2
                go_wp2_with fail
                have MK : Hid (∀ W : World, Below wr.heap.size wr W → (fun W => (W.cell? ⟨bA, off + u' * 7, none⟩ = some (.slice x.A x.n x.c) ∧ W.cell? ⟨bA, off + u' * 7 + 1, none⟩ = some (.int .i64 x.st) ∧ W.cell? ⟨bA, off + u' * 7 + 2, none⟩ = some (.int .i64 x.en) ∧ W.cell? ⟨bA, off + u' * 7 + 3, none⟩ = some (.int .i64 x.bu) ∧ W.cell? ⟨bA, off + u' * 7 + 4, none⟩ = some (.bool x.wr) ∧ W.cell? ⟨bA, off + u' * 7 + 5, none⟩ = some (.bool x.fo) ∧ W.cell? ⟨bA, off + u' * 7 + 6, none⟩ = some (.int .i64 x.wd)) ∧ (W.cell? ⟨bB, of2 + v' * 7, none⟩ = some (.slice y.A y.n y.c) ∧ W.cell? ⟨bB, of2 + v' * 7 + 1, none⟩ = some (.int .i64 y.st) ∧ W.cell? ⟨bB, of2 + v' * 7 + 2, none⟩ = some (.int .i64 y.en) ∧ W.cell? ⟨bB, of2 + v' * 7 + 3, none⟩ = some (.int .i64 y.bu) ∧ W.cell? ⟨bB, of2 + v' * 7 + 4, none⟩ = some (.bool y.wr) ∧ W.cell? ⟨bB, of2 + v' * 7 + 5, none⟩ = some (.bool y.fo) ∧ W.cell? ⟨bB, of2 + v' * 7 + 6, none⟩ = some (.int .i64 y.wd)) ∧ (W.cell? ⟨w.heap.size + 1, 0, none⟩ = some (.int .i64 j) ∧ W.cell? ⟨w.heap.size + 1, 1, none⟩ = some (.int .i64 uu) ∧ W.cell? ⟨w.heap.size + 1, 2, none⟩ = some (.int .i64 j) ∧ W.cell? ⟨w.heap.size + 1, 3, none⟩ = some (.int .i64 vv)) ∧ Below wr.heap.size wr W) W) := fun W hW => by
                  have r1 : ∀ f, f < 7 → W.cell? ⟨bA, off + u' * 7 + f, none⟩ = (encR x)[f]? := fun f h => (hW.cell (p := ⟨bA, off + u' * 7 + f, none⟩) HBA.out).trans (HcA.out f h)
                  have r2 : ∀ f, f < 7 → W.cell? ⟨bB, of2 + v' * 7 + f, none⟩ = (encR y)[f]? := fun f h => (hW.cell (p := ⟨bB, of2 + v' * 7 + f, none⟩) HBB.out).trans (HcB.out f h)
                  exact ⟨⟨r1 0 (by omega), r1 1 (by omega), r1 2 (by omega), r1 3 (by omega), r1 4 (by omega), r1 5 (by omega), r1 6 (by omega)⟩, ⟨r2 0 (by omega), r2 1 (by omega), r2 2 (by omega), r2 3 (by omega), r2 4 (by omega), r2 5 (by omega), r2 6 (by omega)⟩, ⟨RawAt.cell (RawAt.below hP2.out hW (RawAt.lt hP2.out)) 0, RawAt.cell (RawAt.below hP2.out hW (RawAt.lt hP2.out)) 1, RawAt.cell (RawAt.below hP2.out hW (RawAt.lt hP2.out)) 2, RawAt.cell (RawAt.below hP2.out hW (RawAt.lt hP2.out)) 3⟩, hW⟩
                have hW2 : Below wr.heap.size wr wr.drew := (Below.refl _ _).drew
                refine wp_region_noPanic ?_
                refine wp_region_held_drew (S := (fun W => (W.cell? ⟨bA, off + u' * 7, none⟩ = some (.slice x.A x.n x.c) ∧ W.cell? ⟨bA, off + u' * 7 + 1, none⟩ = some (.int .i64 x.st) ∧ W.cell? ⟨bA, off + u' * 7 + 2, none⟩ = some (.int .i64 x.en) ∧ W.cell? ⟨bA, off + u' * 7 + 3, none⟩ = some (.int .i64 x.bu) ∧ W.cell? ⟨bA, off + u' * 7 + 4, none⟩ = some (.bool x.wr) ∧ W.cell? ⟨bA, off + u' * 7 + 5, none⟩ = some (.bool x.fo) ∧ W.cell? ⟨bA, off + u' * 7 + 6, none⟩ = some (.int .i64 x.wd)) ∧ (W.cell? ⟨bB, of2 + v' * 7, none⟩ = some (.slice y.A y.n y.c) ∧ W.cell? ⟨bB, of2 + v' * 7 + 1, none⟩ = some (.int .i64 y.st) ∧ W.cell? ⟨bB, of2 + v' * 7 + 2, none⟩ = some (.int .i64 y.en) ∧ W.cell? ⟨bB, of2 + v' * 7 + 3, none⟩ = some (.int .i64 y.bu) ∧ W.cell? ⟨bB, of2 + v' * 7 + 4, none⟩ = some (.bool y.wr) ∧ W.cell? ⟨bB, of2 + v' * 7 + 5, none⟩ = some (.bool y.fo) ∧ W.cell? ⟨bB, of2 + v' * 7 + 6, none⟩ = some (.int .i64 y.wd)) ∧ (W.cell? ⟨w.heap.size + 1, 0, none⟩ = some (.int .i64 j) ∧ W.cell? ⟨w.heap.size + 1, 1, none⟩ = some (.int .i64 uu) ∧ W.cell? ⟨w.heap.size + 1, 2, none⟩ = some (.int .i64 j) ∧ W.cell? ⟨w.heap.size + 1, 3, none⟩ = some (.int .i64 vv)) ∧ Below wr.heap.size wr W)) (by kernel_rfl) (MK.out _ hW2) (fun hHeld => ?_)
                refine wpAnyH_take (i := 0) (v := ?_) rfl (by kernel_rfl) (by kernel_rfl) (by kernel_rfl) (fun _ _ _ h => h) (Or.inl ⟨by rfl, ?_⟩) hHeld ?_
                rotate_left
                · intro w hSw
                  (try dsimp only at hSw)
                  go_simp
                  try with_reducible rfl
                go_simp
                refine wpAnyH_take (i := 1) (v := ?_) rfl (by kernel_rfl) (by kernel_rfl) (by kernel_rfl) (fun _ _ _ h => h) (Or.inl ⟨by rfl, ?_⟩) hHeld ?_
                rotate_left
                · intro w hSw
                  (try dsimp only at hSw)
                  go_simp
                  try with_reducible rfl
                go_simp
                refine wpAnyH_take (i := 2) (v := ?_) rfl (by kernel_rfl) (by kernel_rfl) (by kernel_rfl) (fun _ _ _ h => h) (Or.inl ⟨by rfl, ?_⟩) hHeld ?_
                rotate_left
                · intro w hSw
                  (try dsimp only at hSw)
                  go_simp
                  try with_reducible rfl
                go_simp
                refine wpAnyH_take (i := 3) (v := ?_) rfl (by kernel_rfl) (by kernel_rfl) (by kernel_rfl) (fun _ _ _ h => h) (Or.inl ⟨by rfl, ?_⟩) hHeld ?_
                rotate_left
                · intro w hSw
                  (try dsimp only at hSw)
                  go_simp
                  try with_reducible rfl
                go_simp
                refine wpAnyH_take (i := 4) (v := ?_) rfl (by kernel_rfl) (by kernel_rfl) (by kernel_rfl) (fun _ _ _ h => h) (Or.inl ⟨by rfl, ?_⟩) hHeld ?_
                rotate_left
                · intro w hSw
                  (try dsimp only at hSw)
                  go_simp
                  try with_reducible rfl
                go_simp
                refine wpAnyH_take (i := 5) (v := ?_) rfl (by kernel_rfl) (by kernel_rfl) (by kernel_rfl) (fun _ _ _ h => h) (Or.inl ⟨by rfl, ?_⟩) hHeld ?_
                rotate_left
                · intro w hSw
                  (try dsimp only at hSw)
                  go_simp
                  try with_reducible rfl
                go_simp
                refine wpAnyH_take (i := 6) (v := ?_) rfl (by kernel_rfl) (by kernel_rfl) (by kernel_rfl) (fun _ _ _ h => h) (Or.inl ⟨by rfl, ?_⟩) hHeld ?_
                rotate_left
                · intro w hSw
                  (try dsimp only at hSw)
                  go_simp
                  try with_reducible rfl
                go_simp
                refine wpAnyH_take (i := 7) (v := ?_) rfl (by kernel_rfl) (by kernel_rfl) (by kernel_rfl) (fun _ _ _ h => h) (Or.inl ⟨by rfl, ?_⟩) hHeld ?_
                rotate_left
                · intro w hSw
                  (try dsimp only at hSw)
                  go_simp
                  try with_reducible rfl
                go_simp
                refine wpAnyH_take (i := 8) (v := ?_) rfl (by kernel_rfl) (by kernel_rfl) (by kernel_rfl) (fun _ _ _ h => h) (Or.inl ⟨by rfl, ?_⟩) hHeld ?_
                rotate_left
                · intro w hSw
                  (try dsimp only at hSw)
                  go_simp
                  try with_reducible rfl
                go_simp
                refine wpAnyH_take (i := 9) (v := ?_) rfl (by kernel_rfl) (by kernel_rfl) (by kernel_rfl) (fun _ _ _ h => h) (Or.inl ⟨by rfl, ?_⟩) hHeld ?_
                rotate_left
                · intro w hSw
                  (try dsimp only at hSw)
                  go_simp
                  try with_reducible rfl
                go_simp
                refine wpAnyH_take (i := 10) (v := ?_) rfl (by kernel_rfl) (by kernel_rfl) (by kernel_rfl) (fun _ _ _ h => h) (Or.inl ⟨by rfl, ?_⟩) hHeld ?_
                rotate_left
                · intro w hSw
                  (try dsimp only at hSw)
                  go_simp
                  try with_reducible rfl
                go_simp
                refine wpAnyH_take (i := 11) (v := ?_) rfl (by kernel_rfl) (by kernel_rfl) (by kernel_rfl) (fun _ _ _ h => h) (Or.inl ⟨by rfl, ?_⟩) hHeld ?_
                rotate_left
                · intro w hSw
                  (try dsimp only at hSw)
                  go_simp
                  try with_reducible rfl
                go_simp
                refine wpAnyH_take (i := 12) (v := ?_) rfl (by kernel_rfl) (by kernel_rfl) (by kernel_rfl) (fun _ _ _ h => h) (Or.inl ⟨by rfl, ?_⟩) hHeld ?_
                rotate_left
                · intro w hSw
                  (try dsimp only at hSw)
                  go_simp
                  try with_reducible rfl
                go_simp
                refine wpAnyH_take (i := 13) (v := ?_) rfl (by kernel_rfl) (by kernel_rfl) (by kernel_rfl) (fun _ _ _ h => h) (Or.inl ⟨by rfl, ?_⟩) hHeld ?_
                rotate_left
                · intro w hSw
                  (try dsimp only at hSw)
                  go_simp
                  try with_reducible rfl
                go_simp
                refine wpAnyH_take (i := 14) (v := ?_) rfl (by kernel_rfl) (by kernel_rfl) (by kernel_rfl) (fun _ _ _ h => h) (Or.inl ⟨by rfl, ?_⟩) hHeld ?_
                rotate_left
                · intro w hSw
                  (try dsimp only at hSw)
                  go_simp
                  try with_reducible rfl
                go_simp
                refine wpAnyH_take (i := 15) (v := ?_) rfl (by kernel_rfl) (by kernel_rfl) (by kernel_rfl) (fun _ _ _ h => h) (Or.inl ⟨by rfl, ?_⟩) hHeld ?_
                rotate_left
                · intro w hSw
                  (try dsimp only at hSw)
                  go_simp
                  try with_reducible rfl
                go_simp
                refine wpAnyH_take (i := 16) (v := ?_) rfl (by kernel_rfl) (by kernel_rfl) (by kernel_rfl) (fun _ _ _ h => h) (Or.inl ⟨by rfl, ?_⟩) hHeld ?_
                rotate_left
                · intro w hSw
                  (try dsimp only at hSw)
                  go_simp
                  try with_reducible rfl
                go_simp
                refine wpAnyH_take (i := 17) (v := ?_) rfl (by kernel_rfl) (by kernel_rfl) (by kernel_rfl) (fun _ _ _ h => h) (Or.inl ⟨by rfl, ?_⟩) hHeld ?_
                rotate_left
                · intro w hSw
                  (try dsimp only at hSw)
                  go_simp
                  try with_reducible rfl
                go_simp
                refine wpAnyH_take (i := 18) (v := ?_) rfl (by kernel_rfl) (by kernel_rfl) (by kernel_rfl) (fun _ _ _ h => h) (Or.inl ⟨by rfl, ?_⟩) hHeld ?_
                rotate_left
                · intro w hSw
                  (try dsimp only at hSw)
                  go_simp
                  try with_reducible rfl
                go_simp
                refine wpAnyH_take (i := 19) (v := ?_) rfl (by kernel_rfl) (by kernel_rfl) (by kernel_rfl) (fun _ _ _ h => h) (Or.inl ⟨by rfl, ?_⟩) hHeld ?_
                rotate_left
                · intro w hSw
                  (try dsimp only at hSw)
                  go_simp
                  try with_reducible rfl
                go_simp
                refine wpAnyH_take (i := 20) (v := ?_) rfl (by kernel_rfl) (by kernel_rfl) (by kernel_rfl) (fun _ _ _ h => h) (Or.inl ⟨by rfl, ?_⟩) hHeld ?_
                rotate_left
                · intro w hSw
                  (try dsimp only at hSw)
                  go_simp
                  try with_reducible rfl
                go_simp
                refine wpAnyH_take (i := 21) (v := ?_) rfl (by kernel_rfl) (by kernel_rfl) (by kernel_rfl) (fun _ _ _ h => h) (Or.inl ⟨by rfl, ?_⟩) hHeld ?_
                rotate_left
                · intro w hSw
                  (try dsimp only at hSw)
                  go_simp
                  try with_reducible rfl
                go_simp
                refine wpAnyH_take (i := 22) (v := ?_) rfl (by kernel_rfl) (by kernel_rfl) (by kernel_rfl) (fun _ _ _ h => h) (Or.inl ⟨by rfl, ?_⟩) hHeld ?_
                rotate_left
                · intro w hSw
                  (try dsimp only at hSw)
                  go_simp
                  try with_reducible rfl
                go_simp
                refine wpAnyH_take (i := 23) (v := ?_) rfl (by kernel_rfl) (by kernel_rfl) (by kernel_rfl) (fun _ _ _ h => h) (Or.inl ⟨by rfl, ?_⟩) hHeld ?_
                rotate_left
                · intro w hSw
                  (try dsimp only at hSw)
                  go_simp
                  try with_reducible rfl
                go_simp
                refine wpAnyH_take (i := 24) (v := ?_) rfl (by kernel_rfl) (by kernel_rfl) (by kernel_rfl) (fun _ _ _ h => h) (Or.inl ⟨by rfl, ?_⟩) hHeld ?_
                rotate_left
                · intro w hSw
                  (try dsimp only at hSw)
                  go_simp
                  try with_reducible rfl
                go_simp
                refine wpAnyH_ready (rs := [25]) (by kernel_rfl) (by simp) ?_
                refine AllReadyH.cons rfl (fun K hK => ?_) ?_
                rotate_left
                · exact AllReadyH.nil
                go_simp
                go_wp2_with (first | (go_at_call 11; ((with_reducible refine (CS.out _ (HBW.out.trans (hW2.mono HBW.out.size))).mono ?_); rintro e w2 ⟨rfl, hb2⟩); have hW2 := hW2.trans (hb2.mono hW2.size)))
                refine hK.out _ _ (MK.out _ hW2) (fun hHeld => ?_)
                clear hK K
                go_simp
                refine wpAnyH_take (i := 26) (v := ?_) rfl (by kernel_rfl) (by kernel_rfl) (by kernel_rfl) (fun _ _ _ h => h) (Or.inl ⟨by rfl, ?_⟩) hHeld ?_
                rotate_left
                · intro w hSw
                  (try dsimp only at hSw)
                  go_simp
                  try with_reducible rfl
                go_simp
                refine wpAnyH_done (by kernel_rfl) ?_ _
                refine NoPanic.normal ?_
                have HBz := Lib.hid (hbL.out.trans (hW2.mono hbL.out.size))
                have HPz := Lib.hid (RawAt.below hP2.out hW2 (RawAt.lt hP2.out))
                have HZz := Lib.hid (RawAt.below hZ2.out hW2 (RawAt.lt hZ2.out))
                clear hP2 hZ2 hbL
                cases bv
                · obtain ⟨u, hu⟩ : ∃ u, u = uu := ⟨_, rfl⟩
                  obtain ⟨v, hv⟩ : ∃ v, v = vv := ⟨_, rfl⟩
                  rw [← hu] at HPz g1 g3
                  rw [← hv] at HPz g2 g4
                  have hnp : ¬ PB l o k := fun h => by have := HBV.out.mpr (HPB.out.mp h); cases this
                  have e9 : u = u' + 1 := by rw [hu, HUU.out]
                  have e8 : v = v' + 1 := by rw [hv, HVV.out]
                  have HLS : Hid (p = ⟨(j : Int), (u : Int), (j : Int), (v : Int)⟩) := Lib.hid (HPP.out.unique ⟨j, k, HAK.out, ⟨by rw [HML.out]; omega, hs2.out, fun h => hnp⟩, by rw [HL.out, HO.out]; congr 1 <;> omega⟩)
                  rw [hu, hv] at HPz HLS
                  clear hu hv e9 e8 hnp
                  obtain ⟨u, hu⟩ : ∃ u, uu = u := ⟨_, rfl⟩
                  obtain ⟨v, hv⟩ : ∃ v, vv = v := ⟨_, rfl⟩
                  subst hu
                  subst hv
                  have q0 := RawAt.cell HPz.out 0
                  have q1 := RawAt.cell HPz.out 1
                  have q2 := RawAt.cell HPz.out 2
                  have q3 := RawAt.cell HPz.out 3
                  have y0 := RawAt.cell HZz.out 0
                  have y1 := RawAt.cell HZz.out 1
                  have y2 := RawAt.cell HZz.out 2
                  have y3 := RawAt.cell HZz.out 3
                  simp at q0 q1 q2 q3 y0 y1 y2 y3
                  have f0 := RawAt.free HZz.out 0
                  have f1 := RawAt.free HZz.out 1
                  have f2 := RawAt.free HZz.out 2
                  have f3 := RawAt.free HZz.out 3
                  go_wp2
                  have R5 := RawAt.set_ (RawAt.set_ (RawAt.set_ (RawAt.set_ HZz.out 0 (.int .i64 j)) 1 (.int .i64 uu)) 2 (.int .i64 j)) 3 (.int .i64 vv)
                  have p0 := RawAt.cell R5 0
                  have p1 := RawAt.cell R5 1
                  have p2 := RawAt.cell R5 2
                  have p3 := RawAt.cell R5 3
                  simp at p0 p1 p2 p3
                  refine bodyPost_ret (v := .agg #[.int .i64 j, .int .i64 uu, .int .i64 j, .int .i64 vv]) (by simp [results, Try.results18, go_sem, p0, p1, p2, p3]) rfl ⟨by rw [HLS.out], ?_⟩
                  exact (((HBz.out.setCell (Nat.le_refl _) _).setCell (Nat.le_refl _) _).setCell (Nat.le_refl _) _).setCell (Nat.le_refl _) _
                · have HS : Hid (∀ i, i < k + 1 → PB l o i) := Lib.hid (fun i hi => by
                    rcases Nat.lt_succ_iff_lt_or_eq.mp hi with g | rfl
                    · exact hs2.out i g
                    · exact HPB.out.mpr (HBV.out.mp rfl))
                  have q0 := RawAt.cell HPz.out 1
                  have q1 := RawAt.cell HPz.out 3
                  simp at q0 q1
                  have f0 := RawAt.free HPz.out 1
                  have f1 := RawAt.free HPz.out 3
                  have R3 := RawAt.set_ (RawAt.set_ HPz.out 1 (.int .i64 u')) 3 (.int .i64 v')
                  simp at R3
                  have HR3 := Lib.hid R3
                  have HZ3 := Lib.hid (RawAt.set_other (RawAt.set_other HZz.out (b' := w.heap.size + 1) (by omega) 1 (.int .i64 u')) (b' := w.heap.size + 1) (by omega) 3 (.int .i64 v'))
                  have HB3 := Lib.hid ((HBz.out.setCell (p := ⟨w.heap.size + 1, 1, none⟩) (by simp) (.int .i64 u')).setCell (p := ⟨w.heap.size + 1, 3, none⟩) (by simp) (.int .i64 v'))
                  clear R3
                  go_wp2
                  go_roundg (gk - 1)
                  case measure => have := HUU.out; omega
                  case rel => exact ⟨k + 1, u', v', by have := HUU.out; omega, by have := HVV.out; omega, by have := HUU.out; have := d1; simp at this; omega, by have := HVV.out; have := d2; simp at this; omega, by have := HUU.out; omega, HS, HB3, HR3, HZ3⟩
              · have d2 : decide ((j : Int) < (v : Int)) = false := decide_eq_false (by omega)
                have d2n : decide (j < v) = false := decide_eq_false c2
                have HLS : Hid (p = ⟨(j : Int), (u : Int), (j : Int), (v : Int)⟩) := Lib.hid (HPP.out.unique ⟨j, k, HAK.out, ⟨by rw [HML.out]; omega, hs2.out, fun h => absurd h (by rw [HML.out]; omega)⟩, by rw [HL.out, HO.out]; congr 1 <;> omega⟩)
                go_wp2_with fail
                have MK : Hid (∀ W : World, Below wr.heap.size wr W → (fun W => (W.cell? ⟨w.heap.size + 1, 0, none⟩ = some (.int .i64 j) ∧ W.cell? ⟨w.heap.size + 1, 1, none⟩ = some (.int .i64 u) ∧ W.cell? ⟨w.heap.size + 1, 2, none⟩ = some (.int .i64 j) ∧ W.cell? ⟨w.heap.size + 1, 3, none⟩ = some (.int .i64 v)) ∧ Below wr.heap.size wr W) W) := fun W hW => ⟨⟨RawAt.cell (RawAt.below hP2.out hW (RawAt.lt hP2.out)) 0, RawAt.cell (RawAt.below hP2.out hW (RawAt.lt hP2.out)) 1, RawAt.cell (RawAt.below hP2.out hW (RawAt.lt hP2.out)) 2, RawAt.cell (RawAt.below hP2.out hW (RawAt.lt hP2.out)) 3⟩, hW⟩
                refine wp_region_noPanic ?_
                refine wp_region_held_drew (S := (fun W => (W.cell? ⟨w.heap.size + 1, 0, none⟩ = some (.int .i64 j) ∧ W.cell? ⟨w.heap.size + 1, 1, none⟩ = some (.int .i64 u) ∧ W.cell? ⟨w.heap.size + 1, 2, none⟩ = some (.int .i64 j) ∧ W.cell? ⟨w.heap.size + 1, 3, none⟩ = some (.int .i64 v)) ∧ Below wr.heap.size wr W)) (by kernel_rfl) (MK.out _ hW0) (fun hHeld => ?_)
                refine wpAnyH_take (i := 0) (v := ?_) rfl (by kernel_rfl) (by kernel_rfl) (by kernel_rfl) (fun _ _ _ h => h) (Or.inl ⟨by rfl, ?_⟩) hHeld ?_
                rotate_left
                · intro w hSw
                  (try dsimp only at hSw)
                  go_simp
                  try with_reducible rfl
                go_simp
                refine wpAnyH_take (i := 1) (v := ?_) rfl (by kernel_rfl) (by kernel_rfl) (by kernel_rfl) (fun _ _ _ h => h) (Or.inl ⟨by rfl, ?_⟩) hHeld ?_
                rotate_left
                · intro w hSw
                  (try dsimp only at hSw)
                  go_simp
                  try with_reducible rfl
                go_simp
                refine wpAnyH_take (i := 2) (v := ?_) rfl (by kernel_rfl) (by kernel_rfl) (by kernel_rfl) (fun _ _ _ h => h) (Or.inl ⟨by rfl, ?_⟩) hHeld ?_
                rotate_left
                · intro w hSw
                  (try dsimp only at hSw)
                  go_simp
                  try with_reducible rfl
                go_simp
                refine wpAnyH_take (i := 3) (v := ?_) rfl (by kernel_rfl) (by kernel_rfl) (by kernel_rfl) (fun _ _ _ h => h) (Or.inl ⟨by rfl, ?_⟩) hHeld ?_
                rotate_left
                · intro w hSw
                  (try dsimp only at hSw)
                  go_simp
                  try with_reducible rfl
                go_simp
                refine wpAnyH_take (i := 4) (v := ?_) rfl (by kernel_rfl) (by kernel_rfl) (by kernel_rfl) (fun _ _ _ h => h) (Or.inl ⟨by rfl, ?_⟩) hHeld ?_
                rotate_left
                · intro w hSw
                  (try dsimp only at hSw)
                  go_simp
                  try with_reducible rfl
                go_simp
                refine wpAnyH_take (i := 5) (v := ?_) rfl (by kernel_rfl) (by kernel_rfl) (by kernel_rfl) (fun _ _ _ h => h) (Or.inl ⟨by rfl, ?_⟩) hHeld ?_
                rotate_left
                · intro w hSw
                  (try dsimp only at hSw)
                  go_simp
                  try with_reducible rfl
                go_simp
                refine wpAnyH_take (i := 6) (v := ?_) rfl (by kernel_rfl) (by kernel_rfl) (by kernel_rfl) (fun _ _ _ h => h) (Or.inl ⟨by rfl, ?_⟩) hHeld ?_
                rotate_left
                · intro w hSw
                  (try dsimp only at hSw)
                  go_simp
                  try with_reducible rfl
                go_simp
                refine wpAnyH_take (i := 7) (v := ?_) rfl (by kernel_rfl) (by kernel_rfl) (by kernel_rfl) (fun _ _ _ h => h) (Or.inl ⟨by rfl, ?_⟩) hHeld ?_
                rotate_left
                · intro w hSw
                  (try dsimp only at hSw)
                  go_simp
                  try with_reducible rfl
                go_simp
                refine wpAnyH_take (i := 8) (v := ?_) rfl (by kernel_rfl) (by kernel_rfl) (by kernel_rfl) (fun _ _ _ h => h) (Or.inl ⟨by rfl, ?_⟩) hHeld ?_
                rotate_left
                · intro w hSw
                  (try dsimp only at hSw)
                  go_simp
                  try with_reducible rfl
                go_simp
                refine wpAnyH_take (i := 9) (v := ?_) rfl (by kernel_rfl) (by kernel_rfl) (by kernel_rfl) (fun _ _ _ h => h) (Or.inl ⟨by rfl, ?_⟩) hHeld ?_
                rotate_left
                · intro w hSw
                  (try dsimp only at hSw)
                  go_simp
                  try with_reducible rfl
                go_simp
                refine wpAnyH_take (i := 10) (v := ?_) rfl (by kernel_rfl) (by kernel_rfl) (by kernel_rfl) (fun _ _ _ h => h) (Or.inl ⟨by rfl, ?_⟩) hHeld ?_
                rotate_left
                · intro w hSw
                  (try dsimp only at hSw)
                  go_simp
                  try with_reducible rfl
                go_simp
                refine wpAnyH_take (i := 11) (v := ?_) rfl (by kernel_rfl) (by kernel_rfl) (by kernel_rfl) (fun _ _ _ h => h) (Or.inl ⟨by rfl, ?_⟩) hHeld ?_
                rotate_left
                · intro w hSw
                  (try dsimp only at hSw)
                  go_simp
                  try with_reducible rfl
                go_simp
                refine wpAnyH_take (i := 12) (v := ?_) rfl (by kernel_rfl) (by kernel_rfl) (by kernel_rfl) (fun _ _ _ h => h) (Or.inl ⟨by rfl, ?_⟩) hHeld ?_
                rotate_left
                · intro w hSw
                  (try dsimp only at hSw)
                  go_simp
                  try with_reducible rfl
                go_simp
                refine wpAnyH_take (i := 13) (v := undef) rfl (by kernel_rfl) (by kernel_rfl) (by kernel_rfl) (fun _ _ _ h => h) (Or.inr ⟨by rfl, rfl⟩) hHeld ?_
                go_simp
                refine wpAnyH_take (i := 14) (v := undef) rfl (by kernel_rfl) (by kernel_rfl) (by kernel_rfl) (fun _ _ _ h => h) (Or.inr ⟨by rfl, rfl⟩) hHeld ?_
                go_simp
                refine wpAnyH_take (i := 15) (v := undef) rfl (by kernel_rfl) (by kernel_rfl) (by kernel_rfl) (fun _ _ _ h => h) (Or.inr ⟨by rfl, rfl⟩) hHeld ?_
                go_simp
                refine wpAnyH_take (i := 16) (v := undef) rfl (by kernel_rfl) (by kernel_rfl) (by kernel_rfl) (fun _ _ _ h => h) (Or.inr ⟨by rfl, rfl⟩) hHeld ?_
                go_simp
                refine wpAnyH_take (i := 17) (v := undef) rfl (by kernel_rfl) (by kernel_rfl) (by kernel_rfl) (fun _ _ _ h => h) (Or.inr ⟨by rfl, rfl⟩) hHeld ?_
                go_simp
                refine wpAnyH_take (i := 18) (v := undef) rfl (by kernel_rfl) (by kernel_rfl) (by kernel_rfl) (fun _ _ _ h => h) (Or.inr ⟨by rfl, rfl⟩) hHeld ?_
                go_simp
                refine wpAnyH_take (i := 19) (v := undef) rfl (by kernel_rfl) (by kernel_rfl) (by kernel_rfl) (fun _ _ _ h => h) (Or.inr ⟨by rfl, rfl⟩) hHeld ?_
                go_simp
                refine wpAnyH_take (i := 20) (v := undef) rfl (by kernel_rfl) (by kernel_rfl) (by kernel_rfl) (fun _ _ _ h => h) (Or.inr ⟨by rfl, rfl⟩) hHeld ?_
                go_simp
                refine wpAnyH_take (i := 21) (v := undef) rfl (by kernel_rfl) (by kernel_rfl) (by kernel_rfl) (fun _ _ _ h => h) (Or.inr ⟨by rfl, rfl⟩) hHeld ?_
                go_simp
                refine wpAnyH_take (i := 22) (v := undef) rfl (by kernel_rfl) (by kernel_rfl) (by kernel_rfl) (fun _ _ _ h => h) (Or.inr ⟨by rfl, rfl⟩) hHeld ?_
                go_simp
                refine wpAnyH_take (i := 23) (v := undef) rfl (by kernel_rfl) (by kernel_rfl) (by kernel_rfl) (fun _ _ _ h => h) (Or.inr ⟨by rfl, rfl⟩) hHeld ?_
                go_simp
                refine wpAnyH_take (i := 24) (v := undef) rfl (by kernel_rfl) (by kernel_rfl) (by kernel_rfl) (fun _ _ _ h => h) (Or.inr ⟨by rfl, rfl⟩) hHeld ?_
                go_simp
                refine wpAnyH_take (i := 25) (v := undef) rfl (by kernel_rfl) (by kernel_rfl) (by kernel_rfl) (fun _ _ _ h => h) (Or.inr ⟨by rfl, rfl⟩) hHeld ?_
                go_simp
                refine wpAnyH_take (i := 26) (v := ?_) rfl (by kernel_rfl) (by kernel_rfl) (by kernel_rfl) (fun _ _ _ h => h) (Or.inl ⟨by rfl, ?_⟩) hHeld ?_
                rotate_left
                · intro w hSw
                  (try dsimp only at hSw)
                  go_simp
                  try with_reducible rfl
                go_simp
                refine wpAnyH_done (by kernel_rfl) ?_ _
                refine NoPanic.normal ?_
                have HBz := Lib.hid (hbL.out.trans (hW0.mono hbL.out.size))
                have HPz := Lib.hid (RawAt.below hP2.out hW0 (RawAt.lt hP2.out))
                have HZz := Lib.hid (RawAt.below hZ2.out hW0 (RawAt.lt hZ2.out))
                generalize wr.drew = wz at *
                have q0 := RawAt.cell HPz.out 0
                have q1 := RawAt.cell HPz.out 1
                have q2 := RawAt.cell HPz.out 2
                have q3 := RawAt.cell HPz.out 3
                have y0 := RawAt.cell HZz.out 0
                have y1 := RawAt.cell HZz.out 1
                have y2 := RawAt.cell HZz.out 2
                have y3 := RawAt.cell HZz.out 3
                simp at q0 q1 q2 q3 y0 y1 y2 y3
                have f0 := RawAt.free HZz.out 0
                have f1 := RawAt.free HZz.out 1
                have f2 := RawAt.free HZz.out 2
                have f3 := RawAt.free HZz.out 3
                go_wp2
                have R5 := RawAt.set_ (RawAt.set_ (RawAt.set_ (RawAt.set_ HZz.out 0 (.int .i64 j)) 1 (.int .i64 u)) 2 (.int .i64 j)) 3 (.int .i64 v)
                have p0 := RawAt.cell R5 0
                have p1 := RawAt.cell R5 1
                have p2 := RawAt.cell R5 2
                have p3 := RawAt.cell R5 3
                simp at p0 p1 p2 p3
                refine bodyPost_ret (v := .agg #[.int .i64 j, .int .i64 u, .int .i64 j, .int .i64 v]) (by simp [results, Try.results18, go_sem, p0, p1, p2, p3]) rfl ⟨by rw [HLS.out], ?_⟩
                exact (((HBz.out.setCell (Nat.le_refl _) _).setCell (Nat.le_refl _) _).setCell (Nat.le_refl _) _).setCell (Nat.le_refl _) _
            · have d1 : decide ((j : Int) < (u : Int)) = false := decide_eq_false (by omega)
              have d1n : decide (j < u) = false := decide_eq_false c1
              have HLS : Hid (p = ⟨(j : Int), (u : Int), (j : Int), (v : Int)⟩) := Lib.hid (HPP.out.unique ⟨j, k, HAK.out, ⟨by rw [HML.out]; omega, hs2.out, fun h => absurd h (by rw [HML.out]; omega)⟩, by rw [HL.out, HO.out]; congr 1 <;> omega⟩)
              go_wp2_with fail
              have MK : Hid (∀ W : World, Below wr.heap.size wr W → (fun W => (W.cell? ⟨w.heap.size + 1, 0, none⟩ = some (.int .i64 j) ∧ W.cell? ⟨w.heap.size + 1, 1, none⟩ = some (.int .i64 u) ∧ W.cell? ⟨w.heap.size + 1, 2, none⟩ = some (.int .i64 j) ∧ W.cell? ⟨w.heap.size + 1, 3, none⟩ = some (.int .i64 v)) ∧ Below wr.heap.size wr W) W) := fun W hW => ⟨⟨RawAt.cell (RawAt.below hP2.out hW (RawAt.lt hP2.out)) 0, RawAt.cell (RawAt.below hP2.out hW (RawAt.lt hP2.out)) 1, RawAt.cell (RawAt.below hP2.out hW (RawAt.lt hP2.out)) 2, RawAt.cell (RawAt.below hP2.out hW (RawAt.lt hP2.out)) 3⟩, hW⟩
              refine wp_region_noPanic ?_
              refine wp_region_held_drew (S := (fun W => (W.cell? ⟨w.heap.size + 1, 0, none⟩ = some (.int .i64 j) ∧ W.cell? ⟨w.heap.size + 1, 1, none⟩ = some (.int .i64 u) ∧ W.cell? ⟨w.heap.size + 1, 2, none⟩ = some (.int .i64 j) ∧ W.cell? ⟨w.heap.size + 1, 3, none⟩ = some (.int .i64 v)) ∧ Below wr.heap.size wr W)) (by kernel_rfl) (MK.out _ hW0) (fun hHeld => ?_)
              refine wpAnyH_take (i := 0) (v := ?_) rfl (by kernel_rfl) (by kernel_rfl) (by kernel_rfl) (fun _ _ _ h => h) (Or.inl ⟨by rfl, ?_⟩) hHeld ?_
              rotate_left
              · intro w hSw
                (try dsimp only at hSw)
                go_simp
                try with_reducible rfl
              go_simp
              refine wpAnyH_take (i := 1) (v := ?_) rfl (by kernel_rfl) (by kernel_rfl) (by kernel_rfl) (fun _ _ _ h => h) (Or.inl ⟨by rfl, ?_⟩) hHeld ?_
              rotate_left
              · intro w hSw
                (try dsimp only at hSw)
                go_simp
                try with_reducible rfl
              go_simp
              refine wpAnyH_take (i := 2) (v := ?_) rfl (by kernel_rfl) (by kernel_rfl) (by kernel_rfl) (fun _ _ _ h => h) (Or.inl ⟨by rfl, ?_⟩) hHeld ?_
              rotate_left
              · intro w hSw
                (try dsimp only at hSw)
                go_simp
                try with_reducible rfl
              go_simp
              refine wpAnyH_take (i := 3) (v := ?_) rfl (by kernel_rfl) (by kernel_rfl) (by kernel_rfl) (fun _ _ _ h => h) (Or.inl ⟨by rfl, ?_⟩) hHeld ?_
              rotate_left
              · intro w hSw
                (try dsimp only at hSw)
                go_simp
                try with_reducible rfl
              go_simp
              refine wpAnyH_take (i := 4) (v := ?_) rfl (by kernel_rfl) (by kernel_rfl) (by kernel_rfl) (fun _ _ _ h => h) (Or.inl ⟨by rfl, ?_⟩) hHeld ?_
              rotate_left
              · intro w hSw
                (try dsimp only at hSw)
                go_simp
                try with_reducible rfl
              go_simp
              refine wpAnyH_take (i := 5) (v := ?_) rfl (by kernel_rfl) (by kernel_rfl) (by kernel_rfl) (fun _ _ _ h => h) (Or.inl ⟨by rfl, ?_⟩) hHeld ?_
              rotate_left
              · intro w hSw
                (try dsimp only at hSw)
                go_simp
                try with_reducible rfl
              go_simp
              refine wpAnyH_take (i := 6) (v := undef) rfl (by kernel_rfl) (by kernel_rfl) (by kernel_rfl) (fun _ _ _ h => h) (Or.inr ⟨by rfl, rfl⟩) hHeld ?_
              go_simp
              refine wpAnyH_take (i := 7) (v := undef) rfl (by kernel_rfl) (by kernel_rfl) (by kernel_rfl) (fun _ _ _ h => h) (Or.inr ⟨by rfl, rfl⟩) hHeld ?_
              go_simp
              refine wpAnyH_take (i := 8) (v := undef) rfl (by kernel_rfl) (by kernel_rfl) (by kernel_rfl) (fun _ _ _ h => h) (Or.inr ⟨by rfl, rfl⟩) hHeld ?_
              go_simp
              refine wpAnyH_take (i := 9) (v := undef) rfl (by kernel_rfl) (by kernel_rfl) (by kernel_rfl) (fun _ _ _ h => h) (Or.inr ⟨by rfl, rfl⟩) hHeld ?_
              go_simp
              refine wpAnyH_take (i := 10) (v := undef) rfl (by kernel_rfl) (by kernel_rfl) (by kernel_rfl) (fun _ _ _ h => h) (Or.inr ⟨by rfl, rfl⟩) hHeld ?_
              go_simp
              refine wpAnyH_take (i := 11) (v := ?_) rfl (by kernel_rfl) (by kernel_rfl) (by kernel_rfl) (fun _ _ _ h => h) (Or.inl ⟨by rfl, ?_⟩) hHeld ?_
              rotate_left
              · intro w hSw
                (try dsimp only at hSw)
                go_simp
                try with_reducible rfl
              go_simp
              refine wpAnyH_take (i := 12) (v := ?_) rfl (by kernel_rfl) (by kernel_rfl) (by kernel_rfl) (fun _ _ _ h => h) (Or.inl ⟨by rfl, ?_⟩) hHeld ?_
              rotate_left
              · intro w hSw
                (try dsimp only at hSw)
                go_simp
                try with_reducible rfl
              go_simp
              refine wpAnyH_take (i := 13) (v := undef) rfl (by kernel_rfl) (by kernel_rfl) (by kernel_rfl) (fun _ _ _ h => h) (Or.inr ⟨by rfl, rfl⟩) hHeld ?_
              go_simp
              refine wpAnyH_take (i := 14) (v := undef) rfl (by kernel_rfl) (by kernel_rfl) (by kernel_rfl) (fun _ _ _ h => h) (Or.inr ⟨by rfl, rfl⟩) hHeld ?_
              go_simp
              refine wpAnyH_take (i := 15) (v := undef) rfl (by kernel_rfl) (by kernel_rfl) (by kernel_rfl) (fun _ _ _ h => h) (Or.inr ⟨by rfl, rfl⟩) hHeld ?_
              go_simp
              refine wpAnyH_take (i := 16) (v := undef) rfl (by kernel_rfl) (by kernel_rfl) (by kernel_rfl) (fun _ _ _ h => h) (Or.inr ⟨by rfl, rfl⟩) hHeld ?_
              go_simp
              refine wpAnyH_take (i := 17) (v := undef) rfl (by kernel_rfl) (by kernel_rfl) (by kernel_rfl) (fun _ _ _ h => h) (Or.inr ⟨by rfl, rfl⟩) hHeld ?_
              go_simp
              refine wpAnyH_take (i := 18) (v := undef) rfl (by kernel_rfl) (by kernel_rfl) (by kernel_rfl) (fun _ _ _ h => h) (Or.inr ⟨by rfl, rfl⟩) hHeld ?_
              go_simp
              refine wpAnyH_take (i := 19) (v := undef) rfl (by kernel_rfl) (by kernel_rfl) (by kernel_rfl) (fun _ _ _ h => h) (Or.inr ⟨by rfl, rfl⟩) hHeld ?_
              go_simp
              refine wpAnyH_take (i := 20) (v := undef) rfl (by kernel_rfl) (by kernel_rfl) (by kernel_rfl) (fun _ _ _ h => h) (Or.inr ⟨by rfl, rfl⟩) hHeld ?_
              go_simp
              refine wpAnyH_take (i := 21) (v := undef) rfl (by kernel_rfl) (by kernel_rfl) (by kernel_rfl) (fun _ _ _ h => h) (Or.inr ⟨by rfl, rfl⟩) hHeld ?_
              go_simp
              refine wpAnyH_take (i := 22) (v := undef) rfl (by kernel_rfl) (by kernel_rfl) (by kernel_rfl) (fun _ _ _ h => h) (Or.inr ⟨by rfl, rfl⟩) hHeld ?_
              go_simp
              refine wpAnyH_take (i := 23) (v := undef) rfl (by kernel_rfl) (by kernel_rfl) (by kernel_rfl) (fun _ _ _ h => h) (Or.inr ⟨by rfl, rfl⟩) hHeld ?_
              go_simp
              refine wpAnyH_take (i := 24) (v := undef) rfl (by kernel_rfl) (by kernel_rfl) (by kernel_rfl) (fun _ _ _ h => h) (Or.inr ⟨by rfl, rfl⟩) hHeld ?_
              go_simp
              refine wpAnyH_take (i := 25) (v := undef) rfl (by kernel_rfl) (by kernel_rfl) (by kernel_rfl) (fun _ _ _ h => h) (Or.inr ⟨by rfl, rfl⟩) hHeld ?_
              go_simp
              refine wpAnyH_take (i := 26) (v := ?_) rfl (by kernel_rfl) (by kernel_rfl) (by kernel_rfl) (fun _ _ _ h => h) (Or.inl ⟨by rfl, ?_⟩) hHeld ?_
              rotate_left
              · intro w hSw
                (try dsimp only at hSw)
                go_simp
                try with_reducible rfl
              go_simp
              refine wpAnyH_done (by kernel_rfl) ?_ _
              refine NoPanic.normal ?_
              have HBz := Lib.hid (hbL.out.trans (hW0.mono hbL.out.size))
              have HPz := Lib.hid (RawAt.below hP2.out hW0 (RawAt.lt hP2.out))
              have HZz := Lib.hid (RawAt.below hZ2.out hW0 (RawAt.lt hZ2.out))
              generalize wr.drew = wz at *
              have q0 := RawAt.cell HPz.out 0
              have q1 := RawAt.cell HPz.out 1
              have q2 := RawAt.cell HPz.out 2
              have q3 := RawAt.cell HPz.out 3
              have y0 := RawAt.cell HZz.out 0
              have y1 := RawAt.cell HZz.out 1
              have y2 := RawAt.cell HZz.out 2
              have y3 := RawAt.cell HZz.out 3
              simp at q0 q1 q2 q3 y0 y1 y2 y3
              have f0 := RawAt.free HZz.out 0
              have f1 := RawAt.free HZz.out 1
              have f2 := RawAt.free HZz.out 2
              have f3 := RawAt.free HZz.out 3
              go_wp2
              have R5 := RawAt.set_ (RawAt.set_ (RawAt.set_ (RawAt.set_ HZz.out 0 (.int .i64 j)) 1 (.int .i64 u)) 2 (.int .i64 j)) 3 (.int .i64 v)
              have p0 := RawAt.cell R5 0
              have p1 := RawAt.cell R5 1
              have p2 := RawAt.cell R5 2
              have p3 := RawAt.cell R5 3
              simp at p0 p1 p2 p3
              refine bodyPost_ret (v := .agg #[.int .i64 j, .int .i64 u, .int .i64 j, .int .i64 v]) (by simp [results, Try.results18, go_sem, p0, p1, p2, p3]) rfl ⟨by rw [HLS.out], ?_⟩
              exact (((HBz.out.setCell (Nat.le_refl _) _).setCell (Nat.le_refl _) _).setCell (Nat.le_refl _) _).setCell (Nat.le_refl _) _
        · have HS : Hid (∀ i, i < j + 1 → PF l o i) := Lib.hid (fun i hi => by
            rcases Nat.lt_succ_iff_lt_or_eq.mp hi with g | rfl
            · exact hs.out i g
            · exact HBV.out.mp rfl)
          have q0 := RawAt.cell HPz.out 0
          simp at q0
          have f0 := RawAt.free HPz.out 0
          have e1 : IntKind.i64.wrap ((j : Int) + 1) = ((j + 1 : Nat) : Int) := by rw [show (j : Int) + 1 = ((j + 1 : Nat) : Int) from by omega]; exact IntWalk.i64_in _ (by omega)
          have R3 := RawAt.set_ HPz.out 0 (.int .i64 ((j + 1 : Nat) : Int))
          simp only [List.setIfInBounds_toArray, List.set_cons_zero] at R3
          have HR3 := Lib.hid R3
          have HZ3 := Lib.hid (RawAt.set_other HZz.out (b' := w.heap.size + 1) (by omega) 0 (.int .i64 ((j + 1 : Nat) : Int)))
          have HB3 := Lib.hid (HBz.out.setCell (p := ⟨w.heap.size + 1, 0, none⟩) (by simp) (.int .i64 ((j + 1 : Nat) : Int)))
          obtain ⟨j1, hj1⟩ : ∃ j1, j1 = j + 1 := ⟨_, rfl⟩
          rw [← hj1] at e1 HR3 HZ3 HB3 HS
          have HJ1 := Lib.hid hj1
          clear hj1 R3
          go_wp2
          go_roundg (gk - 1)
          case measure => omega
          case rel => exact ⟨j1, by have := HJ1.out; omega, by have := HJ1.out; omega, by have := HJ1.out; omega, HS, HB3, HR3, HZ3⟩
      · have a2 : decide ((j : Int) < (m : Int)) = false := decide_eq_false (by omega)
        have a2n : decide (j < m) = false := decide_eq_false b2
        have HAK : Hid (Alk (PF l o) (min l.length o.length) j) := Lib.hid ⟨by rw [HML.out]; omega, hs.out, fun h => absurd h (by rw [HML.out]; omega)⟩
        go_wp2_with fail
        have MK : Hid (∀ W : World, Below wr.heap.size wr W → (fun W => W.cell? ⟨w.heap.size + 1, 0, none⟩ = some (.int .i64 j) ∧ Below wr.heap.size wr W) W) := fun W hW => ⟨RawAt.cell (RawAt.below hP.out hW (RawAt.lt hP.out)) 0, hW⟩
        refine wp_region_noPanic ?_
        refine wp_region_held_drew (S := (fun W => W.cell? ⟨w.heap.size + 1, 0, none⟩ = some (.int .i64 j) ∧ Below wr.heap.size wr W)) (by kernel_rfl) (MK.out _ hW0) (fun hHeld => ?_)
        refine wpAnyH_take (i := 0) (v := ?_) rfl (by kernel_rfl) (by kernel_rfl) (by kernel_rfl) (fun _ _ _ h => h) (Or.inl ⟨by rfl, ?_⟩) hHeld ?_
        rotate_left
        · intro w hSw
          (try dsimp only at hSw)
          go_simp
          try with_reducible rfl
        go_simp
        refine wpAnyH_take (i := 1) (v := ?_) rfl (by kernel_rfl) (by kernel_rfl) (by kernel_rfl) (fun _ _ _ h => h) (Or.inl ⟨by rfl, ?_⟩) hHeld ?_
        rotate_left
        · intro w hSw
          (try dsimp only at hSw)
          go_simp
          try with_reducible rfl
        go_simp
        refine wpAnyH_take (i := 2) (v := ?_) rfl (by kernel_rfl) (by kernel_rfl) (by kernel_rfl) (fun _ _ _ h => h) (Or.inl ⟨by rfl, ?_⟩) hHeld ?_
        rotate_left
        · intro w hSw
          (try dsimp only at hSw)
          go_simp
          try with_reducible rfl
        go_simp
        refine wpAnyH_take (i := 3) (v := ?_) rfl (by kernel_rfl) (by kernel_rfl) (by kernel_rfl) (fun _ _ _ h => h) (Or.inl ⟨by rfl, ?_⟩) hHeld ?_
        rotate_left
        · intro w hSw
          (try dsimp only at hSw)
          go_simp
          try with_reducible rfl
        go_simp
        refine wpAnyH_take (i := 4) (v := ?_) rfl (by kernel_rfl) (by kernel_rfl) (by kernel_rfl) (fun _ _ _ h => h) (Or.inl ⟨by rfl, ?_⟩) hHeld ?_
        rotate_left
        · intro w hSw
          (try dsimp only at hSw)
          go_simp
          try with_reducible rfl
        go_simp
        refine wpAnyH_take (i := 5) (v := ?_) rfl (by kernel_rfl) (by kernel_rfl) (by kernel_rfl) (fun _ _ _ h => h) (Or.inl ⟨by rfl, ?_⟩) hHeld ?_
        rotate_left
        · intro w hSw
          (try dsimp only at hSw)
          go_simp
          try with_reducible rfl
        go_simp
        refine wpAnyH_take (i := 6) (v := ?_) rfl (by kernel_rfl) (by kernel_rfl) (by kernel_rfl) (fun _ _ _ h => h) (Or.inl ⟨by rfl, ?_⟩) hHeld ?_
        rotate_left
        · intro w hSw
          (try dsimp only at hSw)
          go_simp
          try with_reducible rfl
        go_simp
        refine wpAnyH_take (i := 7) (v := ?_) rfl (by kernel_rfl) (by kernel_rfl) (by kernel_rfl) (fun _ _ _ h => h) (Or.inl ⟨by rfl, ?_⟩) hHeld ?_
        rotate_left
        · intro w hSw
          (try dsimp only at hSw)
          go_simp
          try with_reducible rfl
        go_simp
        refine wpAnyH_take (i := 8) (v := ?_) rfl (by kernel_rfl) (by kernel_rfl) (by kernel_rfl) (fun _ _ _ h => h) (Or.inl ⟨by rfl, ?_⟩) hHeld ?_
        rotate_left
        · intro w hSw
          (try dsimp only at hSw)
          go_simp
          try with_reducible rfl
        go_simp
        refine wpAnyH_take (i := 9) (v := ?_) rfl (by kernel_rfl) (by kernel_rfl) (by kernel_rfl) (fun _ _ _ h => h) (Or.inl ⟨by rfl, ?_⟩) hHeld ?_
        rotate_left
        · intro w hSw
          (try dsimp only at hSw)
          go_simp
          try with_reducible rfl
        go_simp
        refine wpAnyH_take (i := 10) (v := ?_) rfl (by kernel_rfl) (by kernel_rfl) (by kernel_rfl) (fun _ _ _ h => h) (Or.inl ⟨by rfl, ?_⟩) hHeld ?_
        rotate_left
        · intro w hSw
          (try dsimp only at hSw)
          go_simp
          try with_reducible rfl
        go_simp
        refine wpAnyH_take (i := 11) (v := ?_) rfl (by kernel_rfl) (by kernel_rfl) (by kernel_rfl) (fun _ _ _ h => h) (Or.inl ⟨by rfl, ?_⟩) hHeld ?_
        rotate_left
        · intro w hSw
          (try dsimp only at hSw)
          go_simp
          try with_reducible rfl
        go_simp
        refine wpAnyH_take (i := 12) (v := ?_) rfl (by kernel_rfl) (by kernel_rfl) (by kernel_rfl) (fun _ _ _ h => h) (Or.inl ⟨by rfl, ?_⟩) hHeld ?_
        rotate_left
        · intro w hSw
          (try dsimp only at hSw)
          go_simp
          try with_reducible rfl
        go_simp
        refine wpAnyH_take (i := 13) (v := undef) rfl (by kernel_rfl) (by kernel_rfl) (by kernel_rfl) (fun _ _ _ h => h) (Or.inr ⟨by rfl, rfl⟩) hHeld ?_
        go_simp
        refine wpAnyH_take (i := 14) (v := undef) rfl (by kernel_rfl) (by kernel_rfl) (by kernel_rfl) (fun _ _ _ h => h) (Or.inr ⟨by rfl, rfl⟩) hHeld ?_
        go_simp
        refine wpAnyH_take (i := 15) (v := undef) rfl (by kernel_rfl) (by kernel_rfl) (by kernel_rfl) (fun _ _ _ h => h) (Or.inr ⟨by rfl, rfl⟩) hHeld ?_
        go_simp
        refine wpAnyH_take (i := 16) (v := undef) rfl (by kernel_rfl) (by kernel_rfl) (by kernel_rfl) (fun _ _ _ h => h) (Or.inr ⟨by rfl, rfl⟩) hHeld ?_
        go_simp
        refine wpAnyH_take (i := 17) (v := undef) rfl (by kernel_rfl) (by kernel_rfl) (by kernel_rfl) (fun _ _ _ h => h) (Or.inr ⟨by rfl, rfl⟩) hHeld ?_
        go_simp
        refine wpAnyH_take (i := 18) (v := undef) rfl (by kernel_rfl) (by kernel_rfl) (by kernel_rfl) (fun _ _ _ h => h) (Or.inr ⟨by rfl, rfl⟩) hHeld ?_
        go_simp
        refine wpAnyH_take (i := 19) (v := undef) rfl (by kernel_rfl) (by kernel_rfl) (by kernel_rfl) (fun _ _ _ h => h) (Or.inr ⟨by rfl, rfl⟩) hHeld ?_
        go_simp
        refine wpAnyH_take (i := 20) (v := undef) rfl (by kernel_rfl) (by kernel_rfl) (by kernel_rfl) (fun _ _ _ h => h) (Or.inr ⟨by rfl, rfl⟩) hHeld ?_
        go_simp
        refine wpAnyH_take (i := 21) (v := undef) rfl (by kernel_rfl) (by kernel_rfl) (by kernel_rfl) (fun _ _ _ h => h) (Or.inr ⟨by rfl, rfl⟩) hHeld ?_
        go_simp
        refine wpAnyH_take (i := 22) (v := undef) rfl (by kernel_rfl) (by kernel_rfl) (by kernel_rfl) (fun _ _ _ h => h) (Or.inr ⟨by rfl, rfl⟩) hHeld ?_
        go_simp
        refine wpAnyH_take (i := 23) (v := undef) rfl (by kernel_rfl) (by kernel_rfl) (by kernel_rfl) (fun _ _ _ h => h) (Or.inr ⟨by rfl, rfl⟩) hHeld ?_
        go_simp
        refine wpAnyH_take (i := 24) (v := ?_) rfl (by kernel_rfl) (by kernel_rfl) (by kernel_rfl) (fun _ _ _ h => h) (Or.inl ⟨by rfl, ?_⟩) hHeld ?_
        rotate_left
        · intro w hSw
          (try dsimp only at hSw)
          go_simp
          try with_reducible rfl
        go_simp
        refine wpAnyH_done (by kernel_rfl) ?_ _
        refine NoPanic.normal ?_
        have HBz := Lib.hid (hb.out.trans (hW0.mono hb.out.size))
        have HPz := Lib.hid (RawAt.below hP.out hW0 (RawAt.lt hP.out))
        have HZz := Lib.hid (RawAt.below hZ.out hW0 (RawAt.lt hZ.out))
        generalize wr.drew = wz at *
        clear MK
        have y0 := RawAt.cell HPz.out 0
        have y1 := RawAt.cell HPz.out 2
        simp at y0 y1
        have y2 := RawAt.free HPz.out 2
        go_wp2_with fail
        go_loopg [] n (fun g wq => ∃ (k u v : Nat), u + k = n ∧ v + k = m ∧ j ≤ u ∧ j ≤ v ∧ u ≤ g ∧ Hid (∀ i, i < k → PB l o i) ∧ Hid (Below w.heap.size w wq) ∧ Hid (RawAt 28 wq (w.heap.size + 1) #[.int .i64 j, .int .i64 u, .int .i64 j, .int .i64 v]) ∧ Hid (RawAt 28 wq w.heap.size #[.int .i64 0, .int .i64 0, .int .i64 0, .int .i64 0]))
        case atStart => exact ⟨0, n, m, rfl, rfl, by omega, by omega, Nat.le_refl _, Lib.hid (fun i h => by omega), Lib.hid (HBz.out.setCell (by simp) _), Lib.hid ((RawAt.set_ HPz.out 2 _).of_eq (by simp)), Lib.hid (RawAt.set_other HZz.out (by omega) 2 _)⟩
        case round =>
          clear HBz HPz HZz y0 y1 y2
          (try clear hHeld)
          (try clear a2 a2n)
          (try clear a1 a1n)
          (try clear hW0)
          (try clear hW2)
          (try clear b2)
          (try clear b1)
          obtain ⟨k, u, v, g1, g2, g3, g4, g5, hs2, hbL, hP2, hZ2⟩ := hrel
          have HBW := Lib.hid hbL.out
          have hW0 : Below wr.heap.size wr wr.drew := (Below.refl _ _).drew
          by_cases c1 : j < u
          · have d1 : decide ((j : Int) < (u : Int)) = true := decide_eq_true (by omega)
            have d1n : decide (j < u) = true := decide_eq_true c1
            by_cases c2 : j < v
            · have d2 : decide ((j : Int) < (v : Int)) = true := decide_eq_true (by omega)
              have d2n : decide (j < v) = true := decide_eq_true c2
              obtain ⟨u', rfl⟩ : ∃ u', u = u' + 1 := ⟨u - 1, by omega⟩
              obtain ⟨v', rfl⟩ : ∃ v', v = v' + 1 := ⟨v - 1, by omega⟩
              have hpl : u' < l.length := by rw [HL.out]; omega
              have hql : v' < o.length := by rw [HO.out]; omega
              have e1 : IntKind.i64.wrap (((u' + 1 : Nat) : Int) - 1) = (u' : Int) := by rw [show ((u' + 1 : Nat) : Int) - 1 = (u' : Int) from by omega]; exact IntWalk.i64_in _ (by omega)
              have e2 : IntKind.i64.wrap (((v' + 1 : Nat) : Int) - 1) = (v' : Int) := by rw [show ((v' + 1 : Nat) : Int) - 1 = (v' : Int) from by omega]; exact IntWalk.i64_in _ (by omega)
              obtain ⟨bv, hbv⟩ : ∃ bv : Bool, bv = true ↔ RS l[u'] o[v'] := by
                by_cases g : RS l[u'] o[v']
                · exact ⟨true, ⟨fun _ => g, fun _ => rfl⟩⟩
                · exact ⟨false, ⟨(fun h => by cases h), fun h => absurd h g⟩⟩
              have HBV : Hid (bv = true ↔ RS (rth l (u')) (rth o (v'))) := Lib.hid (by rw [rth_get hpl, rth_get hql]; exact hbv)
              have CS := Lib.hid fun W (hW : Below w.heap.size w W) => dRSame_any l[u'] o[v'] bv hbv W ((HKL.out _ (List.getElem_mem hpl)).1.below hW) ((HKO.out _ (List.getElem_mem hql)).1.below hW) (HKL.out _ (List.getElem_mem hpl)).2 (HKO.out _ (List.getElem_mem hql)).2
              clear hbv
              have HPB : Hid (PB l o k ↔ RS (rth l u') (rth o v')) := Lib.hid (by unfold PB; rw [show l.length - 1 - k = u' from by rw [HL.out]; omega, show o.length - 1 - k = v' from by rw [HO.out]; omega])
              obtain ⟨bA, off, hAe, hbA, hcA⟩ := (HA.out.below HBW.out).at1 hpl
              obtain ⟨bB, of2, hBe, hbB, hcB⟩ := (HB.out.below HBW.out).at1 hql
              subst hAe
              subst hBe
              have HBA := Lib.hid hbA
              have HBB := Lib.hid hbB
              have HcA := Lib.hid hcA
              have HcB := Lib.hid hcB
              clear hcA hcB hbA hbB
              generalize l[u'] = x at *
              generalize o[v'] = y at *
              have i1 : (0 : Int) ≤ u' := by omega
              have i2 : (u' : Int) < n := by omega
              have i3 : (0 : Int) ≤ v' := by omega
              have i4 : (v' : Int) < m := by omega
              obtain ⟨uu, huu⟩ : ∃ uu : Nat, uu = u' + 1 := ⟨_, rfl⟩
              obtain ⟨vv, hvv⟩ : ∃ vv : Nat, vv = v' + 1 := ⟨_, rfl⟩
              rw [← huu] at d1 d1n e1 hP2 g1 g3 g5
              rw [← hvv] at d2 d2n e2 hP2 g2 g4
              have HUU := Lib.hid huu
              have HVV := Lib.hid hvv
              clear huu hvv c1 c2
              go_wp2_with fail
              have MK : Hid (∀ W : World, Below wr.heap.size wr W → (fun W => (W.cell? ⟨bA, off + u' * 7, none⟩ = some (.slice x.A x.n x.c) ∧ W.cell? ⟨bA, off + u' * 7 + 1, none⟩ = some (.int .i64 x.st) ∧ W.cell? ⟨bA, off + u' * 7 + 2, none⟩ = some (.int .i64 x.en) ∧ W.cell? ⟨bA, off + u' * 7 + 3, none⟩ = some (.int .i64 x.bu) ∧ W.cell? ⟨bA, off + u' * 7 + 4, none⟩ = some (.bool x.wr) ∧ W.cell? ⟨bA, off + u' * 7 + 5, none⟩ = some (.bool x.fo) ∧ W.cell? ⟨bA, off + u' * 7 + 6, none⟩ = some (.int .i64 x.wd)) ∧ (W.cell? ⟨bB, of2 + v' * 7, none⟩ = some (.slice y.A y.n y.c) ∧ W.cell? ⟨bB, of2 + v' * 7 + 1, none⟩ = some (.int .i64 y.st) ∧ W.cell? ⟨bB, of2 + v' * 7 + 2, none⟩ = some (.int .i64 y.en) ∧ W.cell? ⟨bB, of2 + v' * 7 + 3, none⟩ = some (.int .i64 y.bu) ∧ W.cell? ⟨bB, of2 + v' * 7 + 4, none⟩ = some (.bool y.wr) ∧ W.cell? ⟨bB, of2 + v' * 7 + 5, none⟩ = some (.bool y.fo) ∧ W.cell? ⟨bB, of2 + v' * 7 + 6, none⟩ = some (.int .i64 y.wd)) ∧ (W.cell? ⟨w.heap.size + 1, 0, none⟩ = some (.int .i64 j) ∧ W.cell? ⟨w.heap.size + 1, 1, none⟩ = some (.int .i64 uu) ∧ W.cell? ⟨w.heap.size + 1, 2, none⟩ = some (.int .i64 j) ∧ W.cell? ⟨w.heap.size + 1, 3, none⟩ = some (.int .i64 vv)) ∧ Below wr.heap.size wr W) W) := fun W hW => by
                have r1 : ∀ f, f < 7 → W.cell? ⟨bA, off + u' * 7 + f, none⟩ = (encR x)[f]? := fun f h => (hW.cell (p := ⟨bA, off + u' * 7 + f, none⟩) HBA.out).trans (HcA.out f h)
                have r2 : ∀ f, f < 7 → W.cell? ⟨bB, of2 + v' * 7 + f, none⟩ = (encR y)[f]? := fun f h => (hW.cell (p := ⟨bB, of2 + v' * 7 + f, none⟩) HBB.out).trans (HcB.out f h)
                exact ⟨⟨r1 0 (by omega), r1 1 (by omega), r1 2 (by omega), r1 3 (by omega), r1 4 (by omega), r1 5 (by omega), r1 6 (by omega)⟩, ⟨r2 0 (by omega), r2 1 (by omega), r2 2 (by omega), r2 3 (by omega), r2 4 (by omega), r2 5 (by omega), r2 6 (by omega)⟩, ⟨RawAt.cell (RawAt.below hP2.out hW (RawAt.lt hP2.out)) 0, RawAt.cell (RawAt.below hP2.out hW (RawAt.lt hP2.out)) 1, RawAt.cell (RawAt.below hP2.out hW (RawAt.lt hP2.out)) 2, RawAt.cell (RawAt.below hP2.out hW (RawAt.lt hP2.out)) 3⟩, hW⟩
              have hW2 : Below wr.heap.size wr wr.drew := (Below.refl _ _).drew
              refine wp_region_noPanic ?_
              refine wp_region_held_drew (S := (fun W => (W.cell? ⟨bA, off + u' * 7, none⟩ = some (.slice x.A x.n x.c) ∧ W.cell? ⟨bA, off + u' * 7 + 1, none⟩ = some (.int .i64 x.st) ∧ W.cell? ⟨bA, off + u' * 7 + 2, none⟩ = some (.int .i64 x.en) ∧ W.cell? ⟨bA, off + u' * 7 + 3, none⟩ = some (.int .i64 x.bu) ∧ W.cell? ⟨bA, off + u' * 7 + 4, none⟩ = some (.bool x.wr) ∧ W.cell? ⟨bA, off + u' * 7 + 5, none⟩ = some (.bool x.fo) ∧ W.cell? ⟨bA, off + u' * 7 + 6, none⟩ = some (.int .i64 x.wd)) ∧ (W.cell? ⟨bB, of2 + v' * 7, none⟩ = some (.slice y.A y.n y.c) ∧ W.cell? ⟨bB, of2 + v' * 7 + 1, none⟩ = some (.int .i64 y.st) ∧ W.cell? ⟨bB, of2 + v' * 7 + 2, none⟩ = some (.int .i64 y.en) ∧ W.cell? ⟨bB, of2 + v' * 7 + 3, none⟩ = some (.int .i64 y.bu) ∧ W.cell? ⟨bB, of2 + v' * 7 + 4, none⟩ = some (.bool y.wr) ∧ W.cell? ⟨bB, of2 + v' * 7 + 5, none⟩ = some (.bool y.fo) ∧ W.cell? ⟨bB, of2 + v' * 7 + 6, none⟩ = some (.int .i64 y.wd)) ∧ (W.cell? ⟨w.heap.size + 1, 0, none⟩ = some (.int .i64 j) ∧ W.cell? ⟨w.heap.size + 1, 1, none⟩ = some (.int .i64 uu) ∧ W.cell? ⟨w.heap.size + 1, 2, none⟩ = some (.int .i64 j) ∧ W.cell? ⟨w.heap.size + 1, 3, none⟩ = some (.int .i64 vv)) ∧ Below wr.heap.size wr W)) (by kernel_rfl) (MK.out _ hW2) (fun hHeld => ?_)
              refine wpAnyH_take (i := 0) (v := ?_) rfl (by kernel_rfl) (by kernel_rfl) (by kernel_rfl) (fun _ _ _ h => h) (Or.inl ⟨by rfl, ?_⟩) hHeld ?_
              rotate_left
              · intro w hSw
                (try dsimp only at hSw)
                go_simp
                try with_reducible rfl
              go_simp
              refine wpAnyH_take (i := 1) (v := ?_) rfl (by kernel_rfl) (by kernel_rfl) (by kernel_rfl) (fun _ _ _ h => h) (Or.inl ⟨by rfl, ?_⟩) hHeld ?_
              rotate_left
              · intro w hSw
                (try dsimp only at hSw)
                go_simp
                try with_reducible rfl
              go_simp
              refine wpAnyH_take (i := 2) (v := ?_) rfl (by kernel_rfl) (by kernel_rfl) (by kernel_rfl) (fun _ _ _ h => h) (Or.inl ⟨by rfl, ?_⟩) hHeld ?_
              rotate_left
              · intro w hSw
                (try dsimp only at hSw)
                go_simp
                try with_reducible rfl
              go_simp
              refine wpAnyH_take (i := 3) (v := ?_) rfl (by kernel_rfl) (by kernel_rfl) (by kernel_rfl) (fun _ _ _ h => h) (Or.inl ⟨by rfl, ?_⟩) hHeld ?_
              rotate_left
              · intro w hSw
                (try dsimp only at hSw)
                go_simp
                try with_reducible rfl
              go_simp
              refine wpAnyH_take (i := 4) (v := ?_) rfl (by kernel_rfl) (by kernel_rfl) (by kernel_rfl) (fun _ _ _ h => h) (Or.inl ⟨by rfl, ?_⟩) hHeld ?_
              rotate_left
              · intro w hSw
                (try dsimp only at hSw)
                go_simp
                try with_reducible rfl
              go_simp
              refine wpAnyH_take (i := 5) (v := ?_) rfl (by kernel_rfl) (by kernel_rfl) (by kernel_rfl) (fun _ _ _ h => h) (Or.inl ⟨by rfl, ?_⟩) hHeld ?_
              rotate_left
              · intro w hSw
                (try dsimp only at hSw)
                go_simp
                try with_reducible rfl
              go_simp
              refine wpAnyH_take (i := 6) (v := ?_) rfl (by kernel_rfl) (by kernel_rfl) (by kernel_rfl) (fun _ _ _ h => h) (Or.inl ⟨by rfl, ?_⟩) hHeld ?_
              rotate_left
              · intro w hSw
                (try dsimp only at hSw)
                go_simp
                try with_reducible rfl
              go_simp
              refine wpAnyH_take (i := 7) (v := ?_) rfl (by kernel_rfl) (by kernel_rfl) (by kernel_rfl) (fun _ _ _ h => h) (Or.inl ⟨by rfl, ?_⟩) hHeld ?_
              rotate_left
              · intro w hSw
                (try dsimp only at hSw)
                go_simp
                try with_reducible rfl
              go_simp
              refine wpAnyH_take (i := 8) (v := ?_) rfl (by kernel_rfl) (by kernel_rfl) (by kernel_rfl) (fun _ _ _ h => h) (Or.inl ⟨by rfl, ?_⟩) hHeld ?_
              rotate_left
              · intro w hSw
                (try dsimp only at hSw)
                go_simp
                try with_reducible rfl
              go_simp
              refine wpAnyH_take (i := 9) (v := ?_) rfl (by kernel_rfl) (by kernel_rfl) (by kernel_rfl) (fun _ _ _ h => h) (Or.inl ⟨by rfl, ?_⟩) hHeld ?_
              rotate_left
              · intro w hSw
                (try dsimp only at hSw)
                go_simp
                try with_reducible rfl
              go_simp
              refine wpAnyH_take (i := 10) (v := ?_) rfl (by kernel_rfl) (by kernel_rfl) (by kernel_rfl) (fun _ _ _ h => h) (Or.inl ⟨by rfl, ?_⟩) hHeld ?_
              rotate_left
              · intro w hSw
                (try dsimp only at hSw)
                go_simp
                try with_reducible rfl
              go_simp
              refine wpAnyH_take (i := 11) (v := ?_) rfl (by kernel_rfl) (by kernel_rfl) (by kernel_rfl) (fun _ _ _ h => h) (Or.inl ⟨by rfl, ?_⟩) hHeld ?_
              rotate_left
              · intro w hSw
                (try dsimp only at hSw)
                go_simp
                try with_reducible rfl
              go_simp
              refine wpAnyH_take (i := 12) (v := ?_) rfl (by kernel_rfl) (by kernel_rfl) (by kernel_rfl) (fun _ _ _ h => h) (Or.inl ⟨by rfl, ?_⟩) hHeld ?_
              rotate_left
              · intro w hSw
                (try dsimp only at hSw)
                go_simp
                try with_reducible rfl
              go_simp
              refine wpAnyH_take (i := 13) (v := ?_) rfl (by kernel_rfl) (by kernel_rfl) (by kernel_rfl) (fun _ _ _ h => h) (Or.inl ⟨by rfl, ?_⟩) hHeld ?_
              rotate_left
              · intro w hSw
                (try dsimp only at hSw)
                go_simp
                try with_reducible rfl
              go_simp
              refine wpAnyH_take (i := 14) (v := ?_) rfl (by kernel_rfl) (by kernel_rfl) (by kernel_rfl) (fun _ _ _ h => h) (Or.inl ⟨by rfl, ?_⟩) hHeld ?_
              rotate_left
              · intro w hSw
                (try dsimp only at hSw)
                go_simp
                try with_reducible rfl
              go_simp
              refine wpAnyH_take (i := 15) (v := ?_) rfl (by kernel_rfl) (by kernel_rfl) (by kernel_rfl) (fun _ _ _ h => h) (Or.inl ⟨by rfl, ?_⟩) hHeld ?_
              rotate_left
              · intro w hSw
                (try dsimp only at hSw)
                go_simp
                try with_reducible rfl
              go_simp
              refine wpAnyH_take (i := 16) (v := ?_) rfl (by kernel_rfl) (by kernel_rfl) (by kernel_rfl) (fun _ _ _ h => h) (Or.inl ⟨by rfl, ?_⟩) hHeld ?_
              rotate_left
              · intro w hSw
                (try dsimp only at hSw)
                go_simp
                try with_reducible rfl
              go_simp
              refine wpAnyH_take (i := 17) (v := ?_) rfl (by kernel_rfl) (by kernel_rfl) (by kernel_rfl) (fun _ _ _ h => h) (Or.inl ⟨by rfl, ?_⟩) hHeld ?_
              rotate_left
              · intro w hSw
                (try dsimp only at hSw)
                go_simp
                try with_reducible rfl
              go_simp
              refine wpAnyH_take (i := 18) (v := ?_) rfl (by kernel_rfl) (by kernel_rfl) (by kernel_rfl) (fun _ _ _ h => h) (Or.inl ⟨by rfl, ?_⟩) hHeld ?_
              rotate_left
              · intro w hSw
                (try dsimp only at hSw)
                go_simp
                try with_reducible rfl
              go_simp
              refine wpAnyH_take (i := 19) (v := ?_) rfl (by kernel_rfl) (by kernel_rfl) (by kernel_rfl) (fun _ _ _ h => h) (Or.inl ⟨by rfl, ?_⟩) hHeld ?_
              rotate_left
              · intro w hSw
                (try dsimp only at hSw)
                go_simp
                try with_reducible rfl
              go_simp
              refine wpAnyH_take (i := 20) (v := ?_) rfl (by kernel_rfl) (by kernel_rfl) (by kernel_rfl) (fun _ _ _ h => h) (Or.inl ⟨by rfl, ?_⟩) hHeld ?_
              rotate_left
              · intro w hSw
                (try dsimp only at hSw)
                go_simp
                try with_reducible rfl
              go_simp
              refine wpAnyH_take (i := 21) (v := ?_) rfl (by kernel_rfl) (by kernel_rfl) (by kernel_rfl) (fun _ _ _ h => h) (Or.inl ⟨by rfl, ?_⟩) hHeld ?_
              rotate_left
              · intro w hSw
                (try dsimp only at hSw)
                go_simp
                try with_reducible rfl
              go_simp
              refine wpAnyH_take (i := 22) (v := ?_) rfl (by kernel_rfl) (by kernel_rfl) (by kernel_rfl) (fun _ _ _ h => h) (Or.inl ⟨by rfl, ?_⟩) hHeld ?_
              rotate_left
              · intro w hSw
                (try dsimp only at hSw)
                go_simp
                try with_reducible rfl
              go_simp
              refine wpAnyH_take (i := 23) (v := ?_) rfl (by kernel_rfl) (by kernel_rfl) (by kernel_rfl) (fun _ _ _ h => h) (Or.inl ⟨by rfl, ?_⟩) hHeld ?_
              rotate_left
              · intro w hSw
                (try dsimp only at hSw)
                go_simp
                try with_reducible rfl
              go_simp
              refine wpAnyH_take (i := 24) (v := ?_) rfl (by kernel_rfl) (by kernel_rfl) (by kernel_rfl) (fun _ _ _ h => h) (Or.inl ⟨by rfl, ?_⟩) hHeld ?_
              rotate_left
              · intro w hSw
                (try dsimp only at hSw)
                go_simp
                try with_reducible rfl
              go_simp
              refine wpAnyH_ready (rs := [25]) (by kernel_rfl) (by simp) ?_
              refine AllReadyH.cons rfl (fun K hK => ?_) ?_
              rotate_left
              · exact AllReadyH.nil
              go_simp
              go_wp2_with (first | (go_at_call 11; ((with_reducible refine (CS.out _ (HBW.out.trans (hW2.mono HBW.out.size))).mono ?_); rintro e w2 ⟨rfl, hb2⟩); have hW2 := hW2.trans (hb2.mono hW2.size)))
              refine hK.out _ _ (MK.out _ hW2) (fun hHeld => ?_)
              clear hK K
              go_simp
              refine wpAnyH_take (i := 26) (v := ?_) rfl (by kernel_rfl) (by kernel_rfl) (by kernel_rfl) (fun _ _ _ h => h) (Or.inl ⟨by rfl, ?_⟩) hHeld ?_
              rotate_left
              · intro w hSw
                (try dsimp only at hSw)
                go_simp
                try with_reducible rfl
              go_simp
              refine wpAnyH_done (by kernel_rfl) ?_ _
              refine NoPanic.normal ?_
              have HBz := Lib.hid (hbL.out.trans (hW2.mono hbL.out.size))
              have HPz := Lib.hid (RawAt.below hP2.out hW2 (RawAt.lt hP2.out))
              have HZz := Lib.hid (RawAt.below hZ2.out hW2 (RawAt.lt hZ2.out))
              clear hP2 hZ2 hbL
              cases bv
              · obtain ⟨u, hu⟩ : ∃ u, u = uu := ⟨_, rfl⟩
                obtain ⟨v, hv⟩ : ∃ v, v = vv := ⟨_, rfl⟩
                rw [← hu] at HPz g1 g3
                rw [← hv] at HPz g2 g4
                have hnp : ¬ PB l o k := fun h => by have := HBV.out.mpr (HPB.out.mp h); cases this
                have e9 : u = u' + 1 := by rw [hu, HUU.out]
                have e8 : v = v' + 1 := by rw [hv, HVV.out]
                have HLS : Hid (p = ⟨(j : Int), (u : Int), (j : Int), (v : Int)⟩) := Lib.hid (HPP.out.unique ⟨j, k, HAK.out, ⟨by rw [HML.out]; omega, hs2.out, fun h => hnp⟩, by rw [HL.out, HO.out]; congr 1 <;> omega⟩)
                rw [hu, hv] at HPz HLS
                clear hu hv e9 e8 hnp
                obtain ⟨u, hu⟩ : ∃ u, uu = u := ⟨_, rfl⟩
                obtain ⟨v, hv⟩ : ∃ v, vv = v := ⟨_, rfl⟩
                subst hu
                subst hv
                have q0 := RawAt.cell HPz.out 0
                have q1 := RawAt.cell HPz.out 1
                have q2 := RawAt.cell HPz.out 2
                have q3 := RawAt.cell HPz.out 3
                have y0 := RawAt.cell HZz.out 0
                have y1 := RawAt.cell HZz.out 1
                have y2 := RawAt.cell HZz.out 2
                have y3 := RawAt.cell HZz.out 3
                simp at q0 q1 q2 q3 y0 y1 y2 y3
                have f0 := RawAt.free HZz.out 0
                have f1 := RawAt.free HZz.out 1
                have f2 := RawAt.free HZz.out 2
                have f3 := RawAt.free HZz.out 3
                go_wp2
                have R5 := RawAt.set_ (RawAt.set_ (RawAt.set_ (RawAt.set_ HZz.out 0 (.int .i64 j)) 1 (.int .i64 uu)) 2 (.int .i64 j)) 3 (.int .i64 vv)
                have p0 := RawAt.cell R5 0
                have p1 := RawAt.cell R5 1
                have p2 := RawAt.cell R5 2
                have p3 := RawAt.cell R5 3
                simp at p0 p1 p2 p3
                refine bodyPost_ret (v := .agg #[.int .i64 j, .int .i64 uu, .int .i64 j, .int .i64 vv]) (by simp [results, Try.results18, go_sem, p0, p1, p2, p3]) rfl ⟨by rw [HLS.out], ?_⟩
                exact (((HBz.out.setCell (Nat.le_refl _) _).setCell (Nat.le_refl _) _).setCell (Nat.le_refl _) _).setCell (Nat.le_refl _) _
              · have HS : Hid (∀ i, i < k + 1 → PB l o i) := Lib.hid (fun i hi => by
                  rcases Nat.lt_succ_iff_lt_or_eq.mp hi with g | rfl
                  · exact hs2.out i g
                  · exact HPB.out.mpr (HBV.out.mp rfl))
                have q0 := RawAt.cell HPz.out 1
                have q1 := RawAt.cell HPz.out 3
                simp at q0 q1
                have f0 := RawAt.free HPz.out 1
                have f1 := RawAt.free HPz.out 3
                have R3 := RawAt.set_ (RawAt.set_ HPz.out 1 (.int .i64 u')) 3 (.int .i64 v')
                simp at R3
                have HR3 := Lib.hid R3
                have HZ3 := Lib.hid (RawAt.set_other (RawAt.set_other HZz.out (b' := w.heap.size + 1) (by omega) 1 (.int .i64 u')) (b' := w.heap.size + 1) (by omega) 3 (.int .i64 v'))
                have HB3 := Lib.hid ((HBz.out.setCell (p := ⟨w.heap.size + 1, 1, none⟩) (by simp) (.int .i64 u')).setCell (p := ⟨w.heap.size + 1, 3, none⟩) (by simp) (.int .i64 v'))
                clear R3
                go_wp2
                go_roundg (gk - 1)
                case measure => have := HUU.out; omega
                case rel => exact ⟨k + 1, u', v', by have := HUU.out; omega, by have := HVV.out; omega, by have := HUU.out; have := d1; simp at this; omega, by have := HVV.out; have := d2; simp at this; omega, by have := HUU.out; omega, HS, HB3, HR3, HZ3⟩
            · have d2 : decide ((j : Int) < (v : Int)) = false := decide_eq_false (by omega)
              have d2n : decide (j < v) = false := decide_eq_false c2
              have HLS : Hid (p = ⟨(j : Int), (u : Int), (j : Int), (v : Int)⟩) := Lib.hid (HPP.out.unique ⟨j, k, HAK.out, ⟨by rw [HML.out]; omega, hs2.out, fun h => absurd h (by rw [HML.out]; omega)⟩, by rw [HL.out, HO.out]; congr 1 <;> omega⟩)
              go_wp2_with fail
              have MK : Hid (∀ W : World, Below wr.heap.size wr W → (fun W => (W.cell? ⟨w.heap.size + 1, 0, none⟩ = some (.int .i64 j) ∧ W.cell? ⟨w.heap.size + 1, 1, none⟩ = some (.int .i64 u) ∧ W.cell? ⟨w.heap.size + 1, 2, none⟩ = some (.int .i64 j) ∧ W.cell? ⟨w.heap.size + 1, 3, none⟩ = some (.int .i64 v)) ∧ Below wr.heap.size wr W) W) := fun W hW => ⟨⟨RawAt.cell (RawAt.below hP2.out hW (RawAt.lt hP2.out)) 0, RawAt.cell (RawAt.below hP2.out hW (RawAt.lt hP2.out)) 1, RawAt.cell (RawAt.below hP2.out hW (RawAt.lt hP2.out)) 2, RawAt.cell (RawAt.below hP2.out hW (RawAt.lt hP2.out)) 3⟩, hW⟩
              refine wp_region_noPanic ?_
              refine wp_region_held_drew (S := (fun W => (W.cell? ⟨w.heap.size + 1, 0, none⟩ = some (.int .i64 j) ∧ W.cell? ⟨w.heap.size + 1, 1, none⟩ = some (.int .i64 u) ∧ W.cell? ⟨w.heap.size + 1, 2, none⟩ = some (.int .i64 j) ∧ W.cell? ⟨w.heap.size + 1, 3, none⟩ = some (.int .i64 v)) ∧ Below wr.heap.size wr W)) (by kernel_rfl) (MK.out _ hW0) (fun hHeld => ?_)
              refine wpAnyH_take (i := 0) (v := ?_) rfl (by kernel_rfl) (by kernel_rfl) (by kernel_rfl) (fun _ _ _ h => h) (Or.inl ⟨by rfl, ?_⟩) hHeld ?_
              rotate_left
              · intro w hSw
                (try dsimp only at hSw)
                go_simp
                try with_reducible rfl
              go_simp
              refine wpAnyH_take (i := 1) (v := ?_) rfl (by kernel_rfl) (by kernel_rfl) (by kernel_rfl) (fun _ _ _ h => h) (Or.inl ⟨by rfl, ?_⟩) hHeld ?_
              rotate_left
              · intro w hSw
                (try dsimp only at hSw)
                go_simp
                try with_reducible rfl
              go_simp
              refine wpAnyH_take (i := 2) (v := ?_) rfl (by kernel_rfl) (by kernel_rfl) (by kernel_rfl) (fun _ _ _ h => h) (Or.inl ⟨by rfl, ?_⟩) hHeld ?_
              rotate_left
              · intro w hSw
                (try dsimp only at hSw)
                go_simp
                try with_reducible rfl
              go_simp
              refine wpAnyH_take (i := 3) (v := ?_) rfl (by kernel_rfl) (by kernel_rfl) (by kernel_rfl) (fun _ _ _ h => h) (Or.inl ⟨by rfl, ?_⟩) hHeld ?_
              rotate_left
              · intro w hSw
                (try dsimp only at hSw)
                go_simp
                try with_reducible rfl
              go_simp
              refine wpAnyH_take (i := 4) (v := ?_) rfl (by kernel_rfl) (by kernel_rfl) (by kernel_rfl) (fun _ _ _ h => h) (Or.inl ⟨by rfl, ?_⟩) hHeld ?_
              rotate_left
              · intro w hSw
                (try dsimp only at hSw)
                go_simp
                try with_reducible rfl
              go_simp
              refine wpAnyH_take (i := 5) (v := ?_) rfl (by kernel_rfl) (by kernel_rfl) (by kernel_rfl) (fun _ _ _ h => h) (Or.inl ⟨by rfl, ?_⟩) hHeld ?_
              rotate_left
              · intro w hSw
                (try dsimp only at hSw)
                go_simp
                try with_reducible rfl
              go_simp
              refine wpAnyH_take (i := 6) (v := ?_) rfl (by kernel_rfl) (by kernel_rfl) (by kernel_rfl) (fun _ _ _ h => h) (Or.inl ⟨by rfl, ?_⟩) hHeld ?_
              rotate_left
              · intro w hSw
                (try dsimp only at hSw)
                go_simp
                try with_reducible rfl
              go_simp
              refine wpAnyH_take (i := 7) (v := ?_) rfl (by kernel_rfl) (by kernel_rfl) (by kernel_rfl) (fun _ _ _ h => h) (Or.inl ⟨by rfl, ?_⟩) hHeld ?_
              rotate_left
              · intro w hSw
                (try dsimp only at hSw)
                go_simp
                try with_reducible rfl
              go_simp
              refine wpAnyH_take (i := 8) (v := ?_) rfl (by kernel_rfl) (by kernel_rfl) (by kernel_rfl) (fun _ _ _ h => h) (Or.inl ⟨by rfl, ?_⟩) hHeld ?_
              rotate_left
              · intro w hSw
                (try dsimp only at hSw)
                go_simp
                try with_reducible rfl
              go_simp
              refine wpAnyH_take (i := 9) (v := ?_) rfl (by kernel_rfl) (by kernel_rfl) (by kernel_rfl) (fun _ _ _ h => h) (Or.inl ⟨by rfl, ?_⟩) hHeld ?_
              rotate_left
              · intro w hSw
                (try dsimp only at hSw)
                go_simp
                try with_reducible rfl
              go_simp
              refine wpAnyH_take (i := 10) (v := ?_) rfl (by kernel_rfl) (by kernel_rfl) (by kernel_rfl) (fun _ _ _ h => h) (Or.inl ⟨by rfl, ?_⟩) hHeld ?_
              rotate_left
              · intro w hSw
                (try dsimp only at hSw)
                go_simp
                try with_reducible rfl
              go_simp
              refine wpAnyH_take (i := 11) (v := ?_) rfl (by kernel_rfl) (by kernel_rfl) (by kernel_rfl) (fun _ _ _ h => h) (Or.inl ⟨by rfl, ?_⟩) hHeld ?_
              rotate_left
              · intro w hSw
                (try dsimp only at hSw)
                go_simp
                try with_reducible rfl
              go_simp
              refine wpAnyH_take (i := 12) (v := ?_) rfl (by kernel_rfl) (by kernel_rfl) (by kernel_rfl) (fun _ _ _ h => h) (Or.inl ⟨by rfl, ?_⟩) hHeld ?_
              rotate_left
              · intro w hSw
                (try dsimp only at hSw)
                go_simp
                try with_reducible rfl
              go_simp
              refine wpAnyH_take (i := 13) (v := undef) rfl (by kernel_rfl) (by kernel_rfl) (by kernel_rfl) (fun _ _ _ h => h) (Or.inr ⟨by rfl, rfl⟩) hHeld ?_
              go_simp
              refine wpAnyH_take (i := 14) (v := undef) rfl (by kernel_rfl) (by kernel_rfl) (by kernel_rfl) (fun _ _ _ h => h) (Or.inr ⟨by rfl, rfl⟩) hHeld ?_
              go_simp
              refine wpAnyH_take (i := 15) (v := undef) rfl (by kernel_rfl) (by kernel_rfl) (by kernel_rfl) (fun _ _ _ h => h) (Or.inr ⟨by rfl, rfl⟩) hHeld ?_
              go_simp
              refine wpAnyH_take (i := 16) (v := undef) rfl (by kernel_rfl) (by kernel_rfl) (by kernel_rfl) (fun _ _ _ h => h) (Or.inr ⟨by rfl, rfl⟩) hHeld ?_
              go_simp
              refine wpAnyH_take (i := 17) (v := undef) rfl (by kernel_rfl) (by kernel_rfl) (by kernel_rfl) (fun _ _ _ h => h) (Or.inr ⟨by rfl, rfl⟩) hHeld ?_
              go_simp
              refine wpAnyH_take (i := 18) (v := undef) rfl (by kernel_rfl) (by kernel_rfl) (by kernel_rfl) (fun _ _ _ h => h) (Or.inr ⟨by rfl, rfl⟩) hHeld ?_
              go_simp
              refine wpAnyH_take (i := 19) (v := undef) rfl (by kernel_rfl) (by kernel_rfl) (by kernel_rfl) (fun _ _ _ h => h) (Or.inr ⟨by rfl, rfl⟩) hHeld ?_
              go_simp
              refine wpAnyH_take (i := 20) (v := undef) rfl (by kernel_rfl) (by kernel_rfl) (by kernel_rfl) (fun _ _ _ h => h) (Or.inr ⟨by rfl, rfl⟩) hHeld ?_
              go_simp
              refine wpAnyH_take (i := 21) (v := undef) rfl (by kernel_rfl) (by kernel_rfl) (by kernel_rfl) (fun _ _ _ h => h) (Or.inr ⟨by rfl, rfl⟩) hHeld ?_
              go_simp
              refine wpAnyH_take (i := 22) (v := undef) rfl (by kernel_rfl) (by kernel_rfl) (by kernel_rfl) (fun _ _ _ h => h) (Or.inr ⟨by rfl, rfl⟩) hHeld ?_
              go_simp
              refine wpAnyH_take (i := 23) (v := undef) rfl (by kernel_rfl) (by kernel_rfl) (by kernel_rfl) (fun _ _ _ h => h) (Or.inr ⟨by rfl, rfl⟩) hHeld ?_
              go_simp
              refine wpAnyH_take (i := 24) (v := undef) rfl (by kernel_rfl) (by kernel_rfl) (by kernel_rfl) (fun _ _ _ h => h) (Or.inr ⟨by rfl, rfl⟩) hHeld ?_
              go_simp
              refine wpAnyH_take (i := 25) (v := undef) rfl (by kernel_rfl) (by kernel_rfl) (by kernel_rfl) (fun _ _ _ h => h) (Or.inr ⟨by rfl, rfl⟩) hHeld ?_
              go_simp
              refine wpAnyH_take (i := 26) (v := ?_) rfl (by kernel_rfl) (by kernel_rfl) (by kernel_rfl) (fun _ _ _ h => h) (Or.inl ⟨by rfl, ?_⟩) hHeld ?_
              rotate_left
              · intro w hSw
                (try dsimp only at hSw)
                go_simp
                try with_reducible rfl
              go_simp
              refine wpAnyH_done (by kernel_rfl) ?_ _
              refine NoPanic.normal ?_
              have HBz := Lib.hid (hbL.out.trans (hW0.mono hbL.out.size))
              have HPz := Lib.hid (RawAt.below hP2.out hW0 (RawAt.lt hP2.out))
              have HZz := Lib.hid (RawAt.below hZ2.out hW0 (RawAt.lt hZ2.out))
              generalize wr.drew = wz at *
              have q0 := RawAt.cell HPz.out 0
              have q1 := RawAt.cell HPz.out 1
              have q2 := RawAt.cell HPz.out 2
              have q3 := RawAt.cell HPz.out 3
              have y0 := RawAt.cell HZz.out 0
              have y1 := RawAt.cell HZz.out 1
              have y2 := RawAt.cell HZz.out 2
              have y3 := RawAt.cell HZz.out 3
              simp at q0 q1 q2 q3 y0 y1 y2 y3
              have f0 := RawAt.free HZz.out 0
              have f1 := RawAt.free HZz.out 1
              have f2 := RawAt.free HZz.out 2
              have f3 := RawAt.free HZz.out 3
              go_wp2
              have R5 := RawAt.set_ (RawAt.set_ (RawAt.set_ (RawAt.set_ HZz.out 0 (.int .i64 j)) 1 (.int .i64 u)) 2 (.int .i64 j)) 3 (.int .i64 v)
              have p0 := RawAt.cell R5 0
              have p1 := RawAt.cell R5 1
              have p2 := RawAt.cell R5 2
              have p3 := RawAt.cell R5 3
              simp at p0 p1 p2 p3
              refine bodyPost_ret (v := .agg #[.int .i64 j, .int .i64 u, .int .i64 j, .int .i64 v]) (by simp [results, Try.results18, go_sem, p0, p1, p2, p3]) rfl ⟨by rw [HLS.out], ?_⟩
              exact (((HBz.out.setCell (Nat.le_refl _) _).setCell (Nat.le_refl _) _).setCell (Nat.le_refl _) _).setCell (Nat.le_refl _) _
          · have d1 : decide ((j : Int) < (u : Int)) = false := decide_eq_false (by omega)
            have d1n : decide (j < u) = false := decide_eq_false c1
            have HLS : Hid (p = ⟨(j : Int), (u : Int), (j : Int), (v : Int)⟩) := Lib.hid (HPP.out.unique ⟨j, k, HAK.out, ⟨by rw [HML.out]; omega, hs2.out, fun h => absurd h (by rw [HML.out]; omega)⟩, by rw [HL.out, HO.out]; congr 1 <;> omega⟩)
            go_wp2_with fail
            have MK : Hid (∀ W : World, Below wr.heap.size wr W → (fun W => (W.cell? ⟨w.heap.size + 1, 0, none⟩ = some (.int .i64 j) ∧ W.cell? ⟨w.heap.size + 1, 1, none⟩ = some (.int .i64 u) ∧ W.cell? ⟨w.heap.size + 1, 2, none⟩ = some (.int .i64 j) ∧ W.cell? ⟨w.heap.size + 1, 3, none⟩ = some (.int .i64 v)) ∧ Below wr.heap.size wr W) W) := fun W hW => ⟨⟨RawAt.cell (RawAt.below hP2.out hW (RawAt.lt hP2.out)) 0, RawAt.cell (RawAt.below hP2.out hW (RawAt.lt hP2.out)) 1, RawAt.cell (RawAt.below hP2.out hW (RawAt.lt hP2.out)) 2, RawAt.cell (RawAt.below hP2.out hW (RawAt.lt hP2.out)) 3⟩, hW⟩
            refine wp_region_noPanic ?_
            refine wp_region_held_drew (S := (fun W => (W.cell? ⟨w.heap.size + 1, 0, none⟩ = some (.int .i64 j) ∧ W.cell? ⟨w.heap.size + 1, 1, none⟩ = some (.int .i64 u) ∧ W.cell? ⟨w.heap.size + 1, 2, none⟩ = some (.int .i64 j) ∧ W.cell? ⟨w.heap.size + 1, 3, none⟩ = some (.int .i64 v)) ∧ Below wr.heap.size wr W)) (by kernel_rfl) (MK.out _ hW0) (fun hHeld => ?_)
            refine wpAnyH_take (i := 0) (v := ?_) rfl (by kernel_rfl) (by kernel_rfl) (by kernel_rfl) (fun _ _ _ h => h) (Or.inl ⟨by rfl, ?_⟩) hHeld ?_
            rotate_left
            · intro w hSw
              (try dsimp only at hSw)
              go_simp
              try with_reducible rfl
            go_simp
            refine wpAnyH_take (i := 1) (v := ?_) rfl (by kernel_rfl) (by kernel_rfl) (by kernel_rfl) (fun _ _ _ h => h) (Or.inl ⟨by rfl, ?_⟩) hHeld ?_
            rotate_left
            · intro w hSw
              (try dsimp only at hSw)
              go_simp
              try with_reducible rfl
            go_simp
            refine wpAnyH_take (i := 2) (v := ?_) rfl (by kernel_rfl) (by kernel_rfl) (by kernel_rfl) (fun _ _ _ h => h) (Or.inl ⟨by rfl, ?_⟩) hHeld ?_
            rotate_left
            · intro w hSw
              (try dsimp only at hSw)
              go_simp
              try with_reducible rfl
            go_simp
            refine wpAnyH_take (i := 3) (v := ?_) rfl (by kernel_rfl) (by kernel_rfl) (by kernel_rfl) (fun _ _ _ h => h) (Or.inl ⟨by rfl, ?_⟩) hHeld ?_
            rotate_left
            · intro w hSw
              (try dsimp only at hSw)
              go_simp
              try with_reducible rfl
            go_simp
            refine wpAnyH_take (i := 4) (v := ?_) rfl (by kernel_rfl) (by kernel_rfl) (by kernel_rfl) (fun _ _ _ h => h) (Or.inl ⟨by rfl, ?_⟩) hHeld ?_
            rotate_left
            · intro w hSw
              (try dsimp only at hSw)
              go_simp
              try with_reducible rfl
            go_simp
            refine wpAnyH_take (i := 5) (v := ?_) rfl (by kernel_rfl) (by kernel_rfl) (by kernel_rfl) (fun _ _ _ h => h) (Or.inl ⟨by rfl, ?_⟩) hHeld ?_
            rotate_left
            · intro w hSw
              (try dsimp only at hSw)
              go_simp
              try with_reducible rfl
            go_simp
            refine wpAnyH_take (i := 6) (v := undef) rfl (by kernel_rfl) (by kernel_rfl) (by kernel_rfl) (fun _ _ _ h => h) (Or.inr ⟨by rfl, rfl⟩) hHeld ?_
            go_simp
            refine wpAnyH_take (i := 7) (v := undef) rfl (by kernel_rfl) (by kernel_rfl) (by kernel_rfl) (fun _ _ _ h => h) (Or.inr ⟨by rfl, rfl⟩) hHeld ?_
            go_simp
            refine wpAnyH_take (i := 8) (v := undef) rfl (by kernel_rfl) (by kernel_rfl) (by kernel_rfl) (fun _ _ _ h => h) (Or.inr ⟨by rfl, rfl⟩) hHeld ?_
            go_simp
            refine wpAnyH_take (i := 9) (v := undef) rfl (by kernel_rfl) (by kernel_rfl) (by kernel_rfl) (fun _ _ _ h => h) (Or.inr ⟨by rfl, rfl⟩) hHeld ?_
            go_simp
            refine wpAnyH_take (i := 10) (v := undef) rfl (by kernel_rfl) (by kernel_rfl) (by kernel_rfl) (fun _ _ _ h => h) (Or.inr ⟨by rfl, rfl⟩) hHeld ?_
            go_simp
            refine wpAnyH_take (i := 11) (v := ?_) rfl (by kernel_rfl) (by kernel_rfl) (by kernel_rfl) (fun _ _ _ h => h) (Or.inl ⟨by rfl, ?_⟩) hHeld ?_
            rotate_left
            · intro w hSw
              (try dsimp only at hSw)
              go_simp
              try with_reducible rfl
            go_simp
            refine wpAnyH_take (i := 12) (v := ?_) rfl (by kernel_rfl) (by kernel_rfl) (by kernel_rfl) (fun _ _ _ h => h) (Or.inl ⟨by rfl, ?_⟩) hHeld ?_
            rotate_left
            · intro w hSw
              (try dsimp only at hSw)
              go_simp
              try with_reducible rfl
            go_simp
            refine wpAnyH_take (i := 13) (v := undef) rfl (by kernel_rfl) (by kernel_rfl) (by kernel_rfl) (fun _ _ _ h => h) (Or.inr ⟨by rfl, rfl⟩) hHeld ?_
            go_simp
            refine wpAnyH_take (i := 14) (v := undef) rfl (by kernel_rfl) (by kernel_rfl) (by kernel_rfl) (fun _ _ _ h => h) (Or.inr ⟨by rfl, rfl⟩) hHeld ?_
            go_simp
            refine wpAnyH_take (i := 15) (v := undef) rfl (by kernel_rfl) (by kernel_rfl) (by kernel_rfl) (fun _ _ _ h => h) (Or.inr ⟨by rfl, rfl⟩) hHeld ?_
            go_simp
            refine wpAnyH_take (i := 16) (v := undef) rfl (by kernel_rfl) (by kernel_rfl) (by kernel_rfl) (fun _ _ _ h => h) (Or.inr ⟨by rfl, rfl⟩) hHeld ?_
            go_simp
            refine wpAnyH_take (i := 17) (v := undef) rfl (by kernel_rfl) (by kernel_rfl) (by kernel_rfl) (fun _ _ _ h => h) (Or.inr ⟨by rfl, rfl⟩) hHeld ?_
            go_simp
            refine wpAnyH_take (i := 18) (v := undef) rfl (by kernel_rfl) (by kernel_rfl) (by kernel_rfl) (fun _ _ _ h => h) (Or.inr ⟨by rfl, rfl⟩) hHeld ?_
            go_simp
            refine wpAnyH_take (i := 19) (v := undef) rfl (by kernel_rfl) (by kernel_rfl) (by kernel_rfl) (fun _ _ _ h => h) (Or.inr ⟨by rfl, rfl⟩) hHeld ?_
            go_simp
            refine wpAnyH_take (i := 20) (v := undef) rfl (by kernel_rfl) (by kernel_rfl) (by kernel_rfl) (fun _ _ _ h => h) (Or.inr ⟨by rfl, rfl⟩) hHeld ?_
            go_simp
            refine wpAnyH_take (i := 21) (v := undef) rfl (by kernel_rfl) (by kernel_rfl) (by kernel_rfl) (fun _ _ _ h => h) (Or.inr ⟨by rfl, rfl⟩) hHeld ?_
            go_simp
            refine wpAnyH_take (i := 22) (v := undef) rfl (by kernel_rfl) (by kernel_rfl) (by kernel_rfl) (fun _ _ _ h => h) (Or.inr ⟨by rfl, rfl⟩) hHeld ?_
            go_simp
            refine wpAnyH_take (i := 23) (v := undef) rfl (by kernel_rfl) (by kernel_rfl) (by kernel_rfl) (fun _ _ _ h => h) (Or.inr ⟨by rfl, rfl⟩) hHeld ?_
            go_simp
            refine wpAnyH_take (i := 24) (v := undef) rfl (by kernel_rfl) (by kernel_rfl) (by kernel_rfl) (fun _ _ _ h => h) (Or.inr ⟨by rfl, rfl⟩) hHeld ?_
            go_simp
            refine wpAnyH_take (i := 25) (v := undef) rfl (by kernel_rfl) (by kernel_rfl) (by kernel_rfl) (fun _ _ _ h => h) (Or.inr ⟨by rfl, rfl⟩) hHeld ?_
            go_simp
            refine wpAnyH_take (i := 26) (v := ?_) rfl (by kernel_rfl) (by kernel_rfl) (by kernel_rfl) (fun _ _ _ h => h) (Or.inl ⟨by rfl, ?_⟩) hHeld ?_
            rotate_left
            · intro w hSw
              (try dsimp only at hSw)
              go_simp
              try with_reducible rfl
            go_simp
            refine wpAnyH_done (by kernel_rfl) ?_ _
            refine NoPanic.normal ?_
            have HBz := Lib.hid (hbL.out.trans (hW0.mono hbL.out.size))
            have HPz := Lib.hid (RawAt.below hP2.out hW0 (RawAt.lt hP2.out))
            have HZz := Lib.hid (RawAt.below hZ2.out hW0 (RawAt.lt hZ2.out))
            generalize wr.drew = wz at *
            have q0 := RawAt.cell HPz.out 0
            have q1 := RawAt.cell HPz.out 1
            have q2 := RawAt.cell HPz.out 2
            have q3 := RawAt.cell HPz.out 3
            have y0 := RawAt.cell HZz.out 0
            have y1 := RawAt.cell HZz.out 1
            have y2 := RawAt.cell HZz.out 2
            have y3 := RawAt.cell HZz.out 3
            simp at q0 q1 q2 q3 y0 y1 y2 y3
            have f0 := RawAt.free HZz.out 0
            have f1 := RawAt.free HZz.out 1
            have f2 := RawAt.free HZz.out 2
            have f3 := RawAt.free HZz.out 3
            go_wp2
            have R5 := RawAt.set_ (RawAt.set_ (RawAt.set_ (RawAt.set_ HZz.out 0 (.int .i64 j)) 1 (.int .i64 u)) 2 (.int .i64 j)) 3 (.int .i64 v)
            have p0 := RawAt.cell R5 0
            have p1 := RawAt.cell R5 1
            have p2 := RawAt.cell R5 2
            have p3 := RawAt.cell R5 3
            simp at p0 p1 p2 p3
            refine bodyPost_ret (v := .agg #[.int .i64 j, .int .i64 u, .int .i64 j, .int .i64 v]) (by simp [results, Try.results18, go_sem, p0, p1, p2, p3]) rfl ⟨by rw [HLS.out], ?_⟩
            exact (((HBz.out.setCell (Nat.le_refl _) _).setCell (Nat.le_refl _) _).setCell (Nat.le_refl _) _).setCell (Nat.le_refl _) _
    · have a1 : decide ((j : Int) < (n : Int)) = false := decide_eq_false (by omega)
      have a1n : decide (j < n) = false := decide_eq_false b1
      have HAK : Hid (Alk (PF l o) (min l.length o.length) j) := Lib.hid ⟨by rw [HML.out]; omega, hs.out, fun h => absurd h (by rw [HML.out]; omega)⟩
      go_wp2_with fail
      have MK : Hid (∀ W : World, Below wr.heap.size wr W → (fun W => W.cell? ⟨w.heap.size + 1, 0, none⟩ = some (.int .i64 j) ∧ Below wr.heap.size wr W) W) := fun W hW => ⟨RawAt.cell (RawAt.below hP.out hW (RawAt.lt hP.out)) 0, hW⟩
      refine wp_region_noPanic ?_
      refine wp_region_held_drew (S := (fun W => W.cell? ⟨w.heap.size + 1, 0, none⟩ = some (.int .i64 j) ∧ Below wr.heap.size wr W)) (by kernel_rfl) (MK.out _ hW0) (fun hHeld => ?_)
      refine wpAnyH_take (i := 0) (v := ?_) rfl (by kernel_rfl) (by kernel_rfl) (by kernel_rfl) (fun _ _ _ h => h) (Or.inl ⟨by rfl, ?_⟩) hHeld ?_
      rotate_left
      · intro w hSw
        (try dsimp only at hSw)
        go_simp
        try with_reducible rfl
      go_simp
      refine wpAnyH_take (i := 1) (v := ?_) rfl (by kernel_rfl) (by kernel_rfl) (by kernel_rfl) (fun _ _ _ h => h) (Or.inl ⟨by rfl, ?_⟩) hHeld ?_
      rotate_left
      · intro w hSw
        (try dsimp only at hSw)
        go_simp
        try with_reducible rfl
      go_simp
      refine wpAnyH_take (i := 2) (v := ?_) rfl (by kernel_rfl) (by kernel_rfl) (by kernel_rfl) (fun _ _ _ h => h) (Or.inl ⟨by rfl, ?_⟩) hHeld ?_
      rotate_left
      · intro w hSw
        (try dsimp only at hSw)
        go_simp
        try with_reducible rfl
      go_simp
      refine wpAnyH_take (i := 3) (v := ?_) rfl (by kernel_rfl) (by kernel_rfl) (by kernel_rfl) (fun _ _ _ h => h) (Or.inl ⟨by rfl, ?_⟩) hHeld ?_
      rotate_left
      · intro w hSw
        (try dsimp only at hSw)
        go_simp
        try with_reducible rfl
      go_simp
      refine wpAnyH_take (i := 4) (v := ?_) rfl (by kernel_rfl) (by kernel_rfl) (by kernel_rfl) (fun _ _ _ h => h) (Or.inl ⟨by rfl, ?_⟩) hHeld ?_
      rotate_left
      · intro w hSw
        (try dsimp only at hSw)
        go_simp
        try with_reducible rfl
      go_simp
      refine wpAnyH_take (i := 5) (v := ?_) rfl (by kernel_rfl) (by kernel_rfl) (by kernel_rfl) (fun _ _ _ h => h) (Or.inl ⟨by rfl, ?_⟩) hHeld ?_
      rotate_left
      · intro w hSw
        (try dsimp only at hSw)
        go_simp
        try with_reducible rfl
      go_simp
      refine wpAnyH_take (i := 6) (v := undef) rfl (by kernel_rfl) (by kernel_rfl) (by kernel_rfl) (fun _ _ _ h => h) (Or.inr ⟨by rfl, rfl⟩) hHeld ?_
      go_simp
      refine wpAnyH_take (i := 7) (v := undef) rfl (by kernel_rfl) (by kernel_rfl) (by kernel_rfl) (fun _ _ _ h => h) (Or.inr ⟨by rfl, rfl⟩) hHeld ?_
      go_simp
      refine wpAnyH_take (i := 8) (v := undef) rfl (by kernel_rfl) (by kernel_rfl) (by kernel_rfl) (fun _ _ _ h => h) (Or.inr ⟨by rfl, rfl⟩) hHeld ?_
      go_simp
      refine wpAnyH_take (i := 9) (v := undef) rfl (by kernel_rfl) (by kernel_rfl) (by kernel_rfl) (fun _ _ _ h => h) (Or.inr ⟨by rfl, rfl⟩) hHeld ?_
      go_simp
      refine wpAnyH_take (i := 10) (v := undef) rfl (by kernel_rfl) (by kernel_rfl) (by kernel_rfl) (fun _ _ _ h => h) (Or.inr ⟨by rfl, rfl⟩) hHeld ?_
      go_simp
      refine wpAnyH_take (i := 11) (v := ?_) rfl (by kernel_rfl) (by kernel_rfl) (by kernel_rfl) (fun _ _ _ h => h) (Or.inl ⟨by rfl, ?_⟩) hHeld ?_
      rotate_left
      · intro w hSw
        (try dsimp only at hSw)
        go_simp
        try with_reducible rfl
      go_simp
      refine wpAnyH_take (i := 12) (v := ?_) rfl (by kernel_rfl) (by kernel_rfl) (by kernel_rfl) (fun _ _ _ h => h) (Or.inl ⟨by rfl, ?_⟩) hHeld ?_
      rotate_left
      · intro w hSw
        (try dsimp only at hSw)
        go_simp
        try with_reducible rfl
      go_simp
      refine wpAnyH_take (i := 13) (v := undef) rfl (by kernel_rfl) (by kernel_rfl) (by kernel_rfl) (fun _ _ _ h => h) (Or.inr ⟨by rfl, rfl⟩) hHeld ?_
      go_simp
      refine wpAnyH_take (i := 14) (v := undef) rfl (by kernel_rfl) (by kernel_rfl) (by kernel_rfl) (fun _ _ _ h => h) (Or.inr ⟨by rfl, rfl⟩) hHeld ?_
      go_simp
      refine wpAnyH_take (i := 15) (v := undef) rfl (by kernel_rfl) (by kernel_rfl) (by kernel_rfl) (fun _ _ _ h => h) (Or.inr ⟨by rfl, rfl⟩) hHeld ?_
      go_simp
      refine wpAnyH_take (i := 16) (v := undef) rfl (by kernel_rfl) (by kernel_rfl) (by kernel_rfl) (fun _ _ _ h => h) (Or.inr ⟨by rfl, rfl⟩) hHeld ?_
      go_simp
      refine wpAnyH_take (i := 17) (v := undef) rfl (by kernel_rfl) (by kernel_rfl) (by kernel_rfl) (fun _ _ _ h => h) (Or.inr ⟨by rfl, rfl⟩) hHeld ?_
      go_simp
      refine wpAnyH_take (i := 18) (v := undef) rfl (by kernel_rfl) (by kernel_rfl) (by kernel_rfl) (fun _ _ _ h => h) (Or.inr ⟨by rfl, rfl⟩) hHeld ?_
      go_simp
      refine wpAnyH_take (i := 19) (v := undef) rfl (by kernel_rfl) (by kernel_rfl) (by kernel_rfl) (fun _ _ _ h => h) (Or.inr ⟨by rfl, rfl⟩) hHeld ?_
      go_simp
      refine wpAnyH_take (i := 20) (v := undef) rfl (by kernel_rfl) (by kernel_rfl) (by kernel_rfl) (fun _ _ _ h => h) (Or.inr ⟨by rfl, rfl⟩) hHeld ?_
      go_simp
      refine wpAnyH_take (i := 21) (v := undef) rfl (by kernel_rfl) (by kernel_rfl) (by kernel_rfl) (fun _ _ _ h => h) (Or.inr ⟨by rfl, rfl⟩) hHeld ?_
      go_simp
      refine wpAnyH_take (i := 22) (v := undef) rfl (by kernel_rfl) (by kernel_rfl) (by kernel_rfl) (fun _ _ _ h => h) (Or.inr ⟨by rfl, rfl⟩) hHeld ?_
      go_simp
      refine wpAnyH_take (i := 23) (v := undef) rfl (by kernel_rfl) (by kernel_rfl) (by kernel_rfl) (fun _ _ _ h => h) (Or.inr ⟨by rfl, rfl⟩) hHeld ?_
      go_simp
      refine wpAnyH_take (i := 24) (v := ?_) rfl (by kernel_rfl) (by kernel_rfl) (by kernel_rfl) (fun _ _ _ h => h) (Or.inl ⟨by rfl, ?_⟩) hHeld ?_
      rotate_left
      · intro w hSw
        (try dsimp only at hSw)
        go_simp
        try with_reducible rfl
      go_simp
      refine wpAnyH_done (by kernel_rfl) ?_ _
      refine NoPanic.normal ?_
      have HBz := Lib.hid (hb.out.trans (hW0.mono hb.out.size))
      have HPz := Lib.hid (RawAt.below hP.out hW0 (RawAt.lt hP.out))
      have HZz := Lib.hid (RawAt.below hZ.out hW0 (RawAt.lt hZ.out))
      generalize wr.drew = wz at *
      clear MK
      have y0 := RawAt.cell HPz.out 0
      have y1 := RawAt.cell HPz.out 2
      simp at y0 y1
      have y2 := RawAt.free HPz.out 2
      go_wp2_with fail
      go_loopg [] n (fun g wq => ∃ (k u v : Nat), u + k = n ∧ v + k = m ∧ j ≤ u ∧ j ≤ v ∧ u ≤ g ∧ Hid (∀ i, i < k → PB l o i) ∧ Hid (Below w.heap.size w wq) ∧ Hid (RawAt 28 wq (w.heap.size + 1) #[.int .i64 j, .int .i64 u, .int .i64 j, .int .i64 v]) ∧ Hid (RawAt 28 wq w.heap.size #[.int .i64 0, .int .i64 0, .int .i64 0, .int .i64 0]))
      case atStart => exact ⟨0, n, m, rfl, rfl, by omega, by omega, Nat.le_refl _, Lib.hid (fun i h => by omega), Lib.hid (HBz.out.setCell (by simp) _), Lib.hid ((RawAt.set_ HPz.out 2 _).of_eq (by simp)), Lib.hid (RawAt.set_other HZz.out (by omega) 2 _)⟩
      case round =>
        clear HBz HPz HZz y0 y1 y2
        (try clear hHeld)
        (try clear a2 a2n)
        (try clear a1 a1n)
        (try clear hW0)
        (try clear hW2)
        (try clear b2)
        (try clear b1)
        obtain ⟨k, u, v, g1, g2, g3, g4, g5, hs2, hbL, hP2, hZ2⟩ := hrel
        have HBW := Lib.hid hbL.out
        have hW0 : Below wr.heap.size wr wr.drew := (Below.refl _ _).drew
        by_cases c1 : j < u
        · have d1 : decide ((j : Int) < (u : Int)) = true := decide_eq_true (by omega)
          have d1n : decide (j < u) = true := decide_eq_true c1
          by_cases c2 : j < v
          · have d2 : decide ((j : Int) < (v : Int)) = true := decide_eq_true (by omega)
            have d2n : decide (j < v) = true := decide_eq_true c2
            obtain ⟨u', rfl⟩ : ∃ u', u = u' + 1 := ⟨u - 1, by omega⟩
            obtain ⟨v', rfl⟩ : ∃ v', v = v' + 1 := ⟨v - 1, by omega⟩
            have hpl : u' < l.length := by rw [HL.out]; omega
            have hql : v' < o.length := by rw [HO.out]; omega
            have e1 : IntKind.i64.wrap (((u' + 1 : Nat) : Int) - 1) = (u' : Int) := by rw [show ((u' + 1 : Nat) : Int) - 1 = (u' : Int) from by omega]; exact IntWalk.i64_in _ (by omega)
            have e2 : IntKind.i64.wrap (((v' + 1 : Nat) : Int) - 1) = (v' : Int) := by rw [show ((v' + 1 : Nat) : Int) - 1 = (v' : Int) from by omega]; exact IntWalk.i64_in _ (by omega)
            obtain ⟨bv, hbv⟩ : ∃ bv : Bool, bv = true ↔ RS l[u'] o[v'] := by
              by_cases g : RS l[u'] o[v']
              · exact ⟨true, ⟨fun _ => g, fun _ => rfl⟩⟩
              · exact ⟨false, ⟨(fun h => by cases h), fun h => absurd h g⟩⟩
            have HBV : Hid (bv = true ↔ RS (rth l (u')) (rth o (v'))) := Lib.hid (by rw [rth_get hpl, rth_get hql]; exact hbv)
            have CS := Lib.hid fun W (hW : Below w.heap.size w W) => dRSame_any l[u'] o[v'] bv hbv W ((HKL.out _ (List.getElem_mem hpl)).1.below hW) ((HKO.out _ (List.getElem_mem hql)).1.below hW) (HKL.out _ (List.getElem_mem hpl)).2 (HKO.out _ (List.getElem_mem hql)).2
            clear hbv
            have HPB : Hid (PB l o k ↔ RS (rth l u') (rth o v')) := Lib.hid (by unfold PB; rw [show l.length - 1 - k = u' from by rw [HL.out]; omega, show o.length - 1 - k = v' from by rw [HO.out]; omega])
            obtain ⟨bA, off, hAe, hbA, hcA⟩ := (HA.out.below HBW.out).at1 hpl
            obtain ⟨bB, of2, hBe, hbB, hcB⟩ := (HB.out.below HBW.out).at1 hql
            subst hAe
            subst hBe
            have HBA := Lib.hid hbA
            have HBB := Lib.hid hbB
            have HcA := Lib.hid hcA
            have HcB := Lib.hid hcB
            clear hcA hcB hbA hbB
            generalize l[u'] = x at *
            generalize o[v'] = y at *
            have i1 : (0 : Int) ≤ u' := by omega
            have i2 : (u' : Int) < n := by omega
            have i3 : (0 : Int) ≤ v' := by omega
            have i4 : (v' : Int) < m := by omega
            obtain ⟨uu, huu⟩ : ∃ uu : Nat, uu = u' + 1 := ⟨_, rfl⟩
            obtain ⟨vv, hvv⟩ : ∃ vv : Nat, vv = v' + 1 := ⟨_, rfl⟩
            rw [← huu] at d1 d1n e1 hP2 g1 g3 g5
            rw [← hvv] at d2 d2n e2 hP2 g2 g4
            have HUU := Lib.hid huu
            have HVV := Lib.hid hvv
            clear huu hvv c1 c2
            go_wp2_with fail
            have MK : Hid (∀ W : World, Below wr.heap.size wr W → (fun W => (W.cell? ⟨bA, off + u' * 7, none⟩ = some (.slice x.A x.n x.c) ∧ W.cell? ⟨bA, off + u' * 7 + 1, none⟩ = some (.int .i64 x.st) ∧ W.cell? ⟨bA, off + u' * 7 + 2, none⟩ = some (.int .i64 x.en) ∧ W.cell? ⟨bA, off + u' * 7 + 3, none⟩ = some (.int .i64 x.bu) ∧ W.cell? ⟨bA, off + u' * 7 + 4, none⟩ = some (.bool x.wr) ∧ W.cell? ⟨bA, off + u' * 7 + 5, none⟩ = some (.bool x.fo) ∧ W.cell? ⟨bA, off + u' * 7 + 6, none⟩ = some (.int .i64 x.wd)) ∧ (W.cell? ⟨bB, of2 + v' * 7, none⟩ = some (.slice y.A y.n y.c) ∧ W.cell? ⟨bB, of2 + v' * 7 + 1, none⟩ = some (.int .i64 y.st) ∧ W.cell? ⟨bB, of2 + v' * 7 + 2, none⟩ = some (.int .i64 y.en) ∧ W.cell? ⟨bB, of2 + v' * 7 + 3, none⟩ = some (.int .i64 y.bu) ∧ W.cell? ⟨bB, of2 + v' * 7 + 4, none⟩ = some (.bool y.wr) ∧ W.cell? ⟨bB, of2 + v' * 7 + 5, none⟩ = some (.bool y.fo) ∧ W.cell? ⟨bB, of2 + v' * 7 + 6, none⟩ = some (.int .i64 y.wd)) ∧ (W.cell? ⟨w.heap.size + 1, 0, none⟩ = some (.int .i64 j) ∧ W.cell? ⟨w.heap.size + 1, 1, none⟩ = some (.int .i64 uu) ∧ W.cell? ⟨w.heap.size + 1, 2, none⟩ = some (.int .i64 j) ∧ W.cell? ⟨w.heap.size + 1, 3, none⟩ = some (.int .i64 vv)) ∧ Below wr.heap.size wr W) W) := fun W hW => by
              have r1 : ∀ f, f < 7 → W.cell? ⟨bA, off + u' * 7 + f, none⟩ = (encR x)[f]? := fun f h => (hW.cell (p := ⟨bA, off + u' * 7 + f, none⟩) HBA.out).trans (HcA.out f h)
              have r2 : ∀ f, f < 7 → W.cell? ⟨bB, of2 + v' * 7 + f, none⟩ = (encR y)[f]? := fun f h => (hW.cell (p := ⟨bB, of2 + v' * 7 + f, none⟩) HBB.out).trans (HcB.out f h)
              exact ⟨⟨r1 0 (by omega), r1 1 (by omega), r1 2 (by omega), r1 3 (by omega), r1 4 (by omega), r1 5 (by omega), r1 6 (by omega)⟩, ⟨r2 0 (by omega), r2 1 (by omega), r2 2 (by omega), r2 3 (by omega), r2 4 (by omega), r2 5 (by omega), r2 6 (by omega)⟩, ⟨RawAt.cell (RawAt.below hP2.out hW (RawAt.lt hP2.out)) 0, RawAt.cell (RawAt.below hP2.out hW (RawAt.lt hP2.out)) 1, RawAt.cell (RawAt.below hP2.out hW (RawAt.lt hP2.out)) 2, RawAt.cell (RawAt.below hP2.out hW (RawAt.lt hP2.out)) 3⟩, hW⟩
            have hW2 : Below wr.heap.size wr wr.drew := (Below.refl _ _).drew
            refine wp_region_noPanic ?_
            refine wp_region_held_drew (S := (fun W => (W.cell? ⟨bA, off + u' * 7, none⟩ = some (.slice x.A x.n x.c) ∧ W.cell? ⟨bA, off + u' * 7 + 1, none⟩ = some (.int .i64 x.st) ∧ W.cell? ⟨bA, off + u' * 7 + 2, none⟩ = some (.int .i64 x.en) ∧ W.cell? ⟨bA, off + u' * 7 + 3, none⟩ = some (.int .i64 x.bu) ∧ W.cell? ⟨bA, off + u' * 7 + 4, none⟩ = some (.bool x.wr) ∧ W.cell? ⟨bA, off + u' * 7 + 5, none⟩ = some (.bool x.fo) ∧ W.cell? ⟨bA, off + u' * 7 + 6, none⟩ = some (.int .i64 x.wd)) ∧ (W.cell? ⟨bB, of2 + v' * 7, none⟩ = some (.slice y.A y.n y.c) ∧ W.cell? ⟨bB, of2 + v' * 7 + 1, none⟩ = some (.int .i64 y.st) ∧ W.cell? ⟨bB, of2 + v' * 7 + 2, none⟩ = some (.int .i64 y.en) ∧ W.cell? ⟨bB, of2 + v' * 7 + 3, none⟩ = some (.int .i64 y.bu) ∧ W.cell? ⟨bB, of2 + v' * 7 + 4, none⟩ = some (.bool y.wr) ∧ W.cell? ⟨bB, of2 + v' * 7 + 5, none⟩ = some (.bool y.fo) ∧ W.cell? ⟨bB, of2 + v' * 7 + 6, none⟩ = some (.int .i64 y.wd)) ∧ (W.cell? ⟨w.heap.size + 1, 0, none⟩ = some (.int .i64 j) ∧ W.cell? ⟨w.heap.size + 1, 1, none⟩ = some (.int .i64 uu) ∧ W.cell? ⟨w.heap.size + 1, 2, none⟩ = some (.int .i64 j) ∧ W.cell? ⟨w.heap.size + 1, 3, none⟩ = some (.int .i64 vv)) ∧ Below wr.heap.size wr W)) (by kernel_rfl) (MK.out _ hW2) (fun hHeld => ?_)
            refine wpAnyH_take (i := 0) (v := ?_) rfl (by kernel_rfl) (by kernel_rfl) (by kernel_rfl) (fun _ _ _ h => h) (Or.inl ⟨by rfl, ?_⟩) hHeld ?_
            rotate_left
            · intro w hSw
              (try dsimp only at hSw)
              go_simp
              try with_reducible rfl
            go_simp
            refine wpAnyH_take (i := 1) (v := ?_) rfl (by kernel_rfl) (by kernel_rfl) (by kernel_rfl) (fun _ _ _ h => h) (Or.inl ⟨by rfl, ?_⟩) hHeld ?_
            rotate_left
            · intro w hSw
              (try dsimp only at hSw)
              go_simp
              try with_reducible rfl
            go_simp
            refine wpAnyH_take (i := 2) (v := ?_) rfl (by kernel_rfl) (by kernel_rfl) (by kernel_rfl) (fun _ _ _ h => h) (Or.inl ⟨by rfl, ?_⟩) hHeld ?_
            rotate_left
            · intro w hSw
              (try dsimp only at hSw)
              go_simp
              try with_reducible rfl
            go_simp
            refine wpAnyH_take (i := 3) (v := ?_) rfl (by kernel_rfl) (by kernel_rfl) (by kernel_rfl) (fun _ _ _ h => h) (Or.inl ⟨by rfl, ?_⟩) hHeld ?_
            rotate_left
            · intro w hSw
              (try dsimp only at hSw)
              go_simp
              try with_reducible rfl
            go_simp
            refine wpAnyH_take (i := 4) (v := ?_) rfl (by kernel_rfl) (by kernel_rfl) (by kernel_rfl) (fun _ _ _ h => h) (Or.inl ⟨by rfl, ?_⟩) hHeld ?_
            rotate_left
            · intro w hSw
              (try dsimp only at hSw)
              go_simp
              try with_reducible rfl
            go_simp
            refine wpAnyH_take (i := 5) (v := ?_) rfl (by kernel_rfl) (by kernel_rfl) (by kernel_rfl) (fun _ _ _ h => h) (Or.inl ⟨by rfl, ?_⟩) hHeld ?_
            rotate_left
            · intro w hSw
              (try dsimp only at hSw)
              go_simp
              try with_reducible rfl
            go_simp
            refine wpAnyH_take (i := 6) (v := ?_) rfl (by kernel_rfl) (by kernel_rfl) (by kernel_rfl) (fun _ _ _ h => h) (Or.inl ⟨by rfl, ?_⟩) hHeld ?_
            rotate_left
            · intro w hSw
              (try dsimp only at hSw)
              go_simp
              try with_reducible rfl
            go_simp
            refine wpAnyH_take (i := 7) (v := ?_) rfl (by kernel_rfl) (by kernel_rfl) (by kernel_rfl) (fun _ _ _ h => h) (Or.inl ⟨by rfl, ?_⟩) hHeld ?_
            rotate_left
            · intro w hSw
              (try dsimp only at hSw)
              go_simp
              try with_reducible rfl
            go_simp
            refine wpAnyH_take (i := 8) (v := ?_) rfl (by kernel_rfl) (by kernel_rfl) (by kernel_rfl) (fun _ _ _ h => h) (Or.inl ⟨by rfl, ?_⟩) hHeld ?_
            rotate_left
            · intro w hSw
              (try dsimp only at hSw)
              go_simp
              try with_reducible rfl
            go_simp
            refine wpAnyH_take (i := 9) (v := ?_) rfl (by kernel_rfl) (by kernel_rfl) (by kernel_rfl) (fun _ _ _ h => h) (Or.inl ⟨by rfl, ?_⟩) hHeld ?_
            rotate_left
            · intro w hSw
              (try dsimp only at hSw)
              go_simp
              try with_reducible rfl
            go_simp
            refine wpAnyH_take (i := 10) (v := ?_) rfl (by kernel_rfl) (by kernel_rfl) (by kernel_rfl) (fun _ _ _ h => h) (Or.inl ⟨by rfl, ?_⟩) hHeld ?_
            rotate_left
            · intro w hSw
              (try dsimp only at hSw)
              go_simp
              try with_reducible rfl
            go_simp
            refine wpAnyH_take (i := 11) (v := ?_) rfl (by kernel_rfl) (by kernel_rfl) (by kernel_rfl) (fun _ _ _ h => h) (Or.inl ⟨by rfl, ?_⟩) hHeld ?_
            rotate_left
            · intro w hSw
              (try dsimp only at hSw)
              go_simp
              try with_reducible rfl
            go_simp
            refine wpAnyH_take (i := 12) (v := ?_) rfl (by kernel_rfl) (by kernel_rfl) (by kernel_rfl) (fun _ _ _ h => h) (Or.inl ⟨by rfl, ?_⟩) hHeld ?_
            rotate_left
            · intro w hSw
              (try dsimp only at hSw)
              go_simp
              try with_reducible rfl
            go_simp
            refine wpAnyH_take (i := 13) (v := ?_) rfl (by kernel_rfl) (by kernel_rfl) (by kernel_rfl) (fun _ _ _ h => h) (Or.inl ⟨by rfl, ?_⟩) hHeld ?_
            rotate_left
            · intro w hSw
              (try dsimp only at hSw)
              go_simp
              try with_reducible rfl
            go_simp
            refine wpAnyH_take (i := 14) (v := ?_) rfl (by kernel_rfl) (by kernel_rfl) (by kernel_rfl) (fun _ _ _ h => h) (Or.inl ⟨by rfl, ?_⟩) hHeld ?_
            rotate_left
            · intro w hSw
              (try dsimp only at hSw)
              go_simp
              try with_reducible rfl
            go_simp
            refine wpAnyH_take (i := 15) (v := ?_) rfl (by kernel_rfl) (by kernel_rfl) (by kernel_rfl) (fun _ _ _ h => h) (Or.inl ⟨by rfl, ?_⟩) hHeld ?_
            rotate_left
            · intro w hSw
              (try dsimp only at hSw)
              go_simp
              try with_reducible rfl
            go_simp
            refine wpAnyH_take (i := 16) (v := ?_) rfl (by kernel_rfl) (by kernel_rfl) (by kernel_rfl) (fun _ _ _ h => h) (Or.inl ⟨by rfl, ?_⟩) hHeld ?_
            rotate_left
            · intro w hSw
              (try dsimp only at hSw)
              go_simp
              try with_reducible rfl
            go_simp
            refine wpAnyH_take (i := 17) (v := ?_) rfl (by kernel_rfl) (by kernel_rfl) (by kernel_rfl) (fun _ _ _ h => h) (Or.inl ⟨by rfl, ?_⟩) hHeld ?_
            rotate_left
            · intro w hSw
              (try dsimp only at hSw)
              go_simp
              try with_reducible rfl
            go_simp
            refine wpAnyH_take (i := 18) (v := ?_) rfl (by kernel_rfl) (by kernel_rfl) (by kernel_rfl) (fun _ _ _ h => h) (Or.inl ⟨by rfl, ?_⟩) hHeld ?_
            rotate_left
            · intro w hSw
              (try dsimp only at hSw)
              go_simp
              try with_reducible rfl
            go_simp
            refine wpAnyH_take (i := 19) (v := ?_) rfl (by kernel_rfl) (by kernel_rfl) (by kernel_rfl) (fun _ _ _ h => h) (Or.inl ⟨by rfl, ?_⟩) hHeld ?_
            rotate_left
            · intro w hSw
              (try dsimp only at hSw)
              go_simp
              try with_reducible rfl
            go_simp
            refine wpAnyH_take (i := 20) (v := ?_) rfl (by kernel_rfl) (by kernel_rfl) (by kernel_rfl) (fun _ _ _ h => h) (Or.inl ⟨by rfl, ?_⟩) hHeld ?_
            rotate_left
            · intro w hSw
              (try dsimp only at hSw)
              go_simp
              try with_reducible rfl
            go_simp
            refine wpAnyH_take (i := 21) (v := ?_) rfl (by kernel_rfl) (by kernel_rfl) (by kernel_rfl) (fun _ _ _ h => h) (Or.inl ⟨by rfl, ?_⟩) hHeld ?_
            rotate_left
            · intro w hSw
              (try dsimp only at hSw)
              go_simp
              try with_reducible rfl
            go_simp
            refine wpAnyH_take (i := 22) (v := ?_) rfl (by kernel_rfl) (by kernel_rfl) (by kernel_rfl) (fun _ _ _ h => h) (Or.inl ⟨by rfl, ?_⟩) hHeld ?_
            rotate_left
            · intro w hSw
              (try dsimp only at hSw)
              go_simp
              try with_reducible rfl
            go_simp
            refine wpAnyH_take (i := 23) (v := ?_) rfl (by kernel_rfl) (by kernel_rfl) (by kernel_rfl) (fun _ _ _ h => h) (Or.inl ⟨by rfl, ?_⟩) hHeld ?_
            rotate_left
            · intro w hSw
              (try dsimp only at hSw)
              go_simp
              try with_reducible rfl
            go_simp
            refine wpAnyH_take (i := 24) (v := ?_) rfl (by kernel_rfl) (by kernel_rfl) (by kernel_rfl) (fun _ _ _ h => h) (Or.inl ⟨by rfl, ?_⟩) hHeld ?_
            rotate_left
            · intro w hSw
              (try dsimp only at hSw)
              go_simp
              try with_reducible rfl
            go_simp
            refine wpAnyH_ready (rs := [25]) (by kernel_rfl) (by simp) ?_
            refine AllReadyH.cons rfl (fun K hK => ?_) ?_
            rotate_left
            · exact AllReadyH.nil
            go_simp
            go_wp2_with (first | (go_at_call 11; ((with_reducible refine (CS.out _ (HBW.out.trans (hW2.mono HBW.out.size))).mono ?_); rintro e w2 ⟨rfl, hb2⟩); have hW2 := hW2.trans (hb2.mono hW2.size)))
            refine hK.out _ _ (MK.out _ hW2) (fun hHeld => ?_)
            clear hK K
            go_simp
            refine wpAnyH_take (i := 26) (v := ?_) rfl (by kernel_rfl) (by kernel_rfl) (by kernel_rfl) (fun _ _ _ h => h) (Or.inl ⟨by rfl, ?_⟩) hHeld ?_
            rotate_left
            · intro w hSw
              (try dsimp only at hSw)
              go_simp
              try with_reducible rfl
            go_simp
            refine wpAnyH_done (by kernel_rfl) ?_ _
            refine NoPanic.normal ?_
            have HBz := Lib.hid (hbL.out.trans (hW2.mono hbL.out.size))
            have HPz := Lib.hid (RawAt.below hP2.out hW2 (RawAt.lt hP2.out))
            have HZz := Lib.hid (RawAt.below hZ2.out hW2 (RawAt.lt hZ2.out))
            clear hP2 hZ2 hbL
            cases bv
            · obtain ⟨u, hu⟩ : ∃ u, u = uu := ⟨_, rfl⟩
              obtain ⟨v, hv⟩ : ∃ v, v = vv := ⟨_, rfl⟩
              rw [← hu] at HPz g1 g3
              rw [← hv] at HPz g2 g4
              have hnp : ¬ PB l o k := fun h => by have := HBV.out.mpr (HPB.out.mp h); cases this
              have e9 : u = u' + 1 := by rw [hu, HUU.out]
              have e8 : v = v' + 1 := by rw [hv, HVV.out]
              have HLS : Hid (p = ⟨(j : Int), (u : Int), (j : Int), (v : Int)⟩) := Lib.hid (HPP.out.unique ⟨j, k, HAK.out, ⟨by rw [HML.out]; omega, hs2.out, fun h => hnp⟩, by rw [HL.out, HO.out]; congr 1 <;> omega⟩)
              rw [hu, hv] at HPz HLS
              clear hu hv e9 e8 hnp
              obtain ⟨u, hu⟩ : ∃ u, uu = u := ⟨_, rfl⟩
              obtain ⟨v, hv⟩ : ∃ v, vv = v := ⟨_, rfl⟩
              subst hu
              subst hv
              have q0 := RawAt.cell HPz.out 0
              have q1 := RawAt.cell HPz.out 1
              have q2 := RawAt.cell HPz.out 2
              have q3 := RawAt.cell HPz.out 3
              have y0 := RawAt.cell HZz.out 0
              have y1 := RawAt.cell HZz.out 1
              have y2 := RawAt.cell HZz.out 2
              have y3 := RawAt.cell HZz.out 3
              simp at q0 q1 q2 q3 y0 y1 y2 y3
              have f0 := RawAt.free HZz.out 0
              have f1 := RawAt.free HZz.out 1
              have f2 := RawAt.free HZz.out 2
              have f3 := RawAt.free HZz.out 3
              go_wp2
              have R5 := RawAt.set_ (RawAt.set_ (RawAt.set_ (RawAt.set_ HZz.out 0 (.int .i64 j)) 1 (.int .i64 uu)) 2 (.int .i64 j)) 3 (.int .i64 vv)
              have p0 := RawAt.cell R5 0
              have p1 := RawAt.cell R5 1
              have p2 := RawAt.cell R5 2
              have p3 := RawAt.cell R5 3
              simp at p0 p1 p2 p3
              refine bodyPost_ret (v := .agg #[.int .i64 j, .int .i64 uu, .int .i64 j, .int .i64 vv]) (by simp [results, Try.results18, go_sem, p0, p1, p2, p3]) rfl ⟨by rw [HLS.out], ?_⟩
              exact (((HBz.out.setCell (Nat.le_refl _) _).setCell (Nat.le_refl _) _).setCell (Nat.le_refl _) _).setCell (Nat.le_refl _) _
            · have HS : Hid (∀ i, i < k + 1 → PB l o i) := Lib.hid (fun i hi => by
                rcases Nat.lt_succ_iff_lt_or_eq.mp hi with g | rfl
                · exact hs2.out i g
                · exact HPB.out.mpr (HBV.out.mp rfl))
              have q0 := RawAt.cell HPz.out 1
              have q1 := RawAt.cell HPz.out 3
              simp at q0 q1
              have f0 := RawAt.free HPz.out 1
              have f1 := RawAt.free HPz.out 3
              have R3 := RawAt.set_ (RawAt.set_ HPz.out 1 (.int .i64 u')) 3 (.int .i64 v')
              simp at R3
              have HR3 := Lib.hid R3
              have HZ3 := Lib.hid (RawAt.set_other (RawAt.set_other HZz.out (b' := w.heap.size + 1) (by omega) 1 (.int .i64 u')) (b' := w.heap.size + 1) (by omega) 3 (.int .i64 v'))
              have HB3 := Lib.hid ((HBz.out.setCell (p := ⟨w.heap.size + 1, 1, none⟩) (by simp) (.int .i64 u')).setCell (p := ⟨w.heap.size + 1, 3, none⟩) (by simp) (.int .i64 v'))
              clear R3
              go_wp2
              go_roundg (gk - 1)
              case measure => have := HUU.out; omega
              case rel => exact ⟨k + 1, u', v', by have := HUU.out; omega, by have := HVV.out; omega, by have := HUU.out; have := d1; simp at this; omega, by have := HVV.out; have := d2; simp at this; omega, by have := HUU.out; omega, HS, HB3, HR3, HZ3⟩
          · have d2 : decide ((j : Int) < (v : Int)) = false := decide_eq_false (by omega)
            have d2n : decide (j < v) = false := decide_eq_false c2
            have HLS : Hid (p = ⟨(j : Int), (u : Int), (j : Int), (v : Int)⟩) := Lib.hid (HPP.out.unique ⟨j, k, HAK.out, ⟨by rw [HML.out]; omega, hs2.out, fun h => absurd h (by rw [HML.out]; omega)⟩, by rw [HL.out, HO.out]; congr 1 <;> omega⟩)
            go_wp2_with fail
            have MK : Hid (∀ W : World, Below wr.heap.size wr W → (fun W => (W.cell? ⟨w.heap.size + 1, 0, none⟩ = some (.int .i64 j) ∧ W.cell? ⟨w.heap.size + 1, 1, none⟩ = some (.int .i64 u) ∧ W.cell? ⟨w.heap.size + 1, 2, none⟩ = some (.int .i64 j) ∧ W.cell? ⟨w.heap.size + 1, 3, none⟩ = some (.int .i64 v)) ∧ Below wr.heap.size wr W) W) := fun W hW => ⟨⟨RawAt.cell (RawAt.below hP2.out hW (RawAt.lt hP2.out)) 0, RawAt.cell (RawAt.below hP2.out hW (RawAt.lt hP2.out)) 1, RawAt.cell (RawAt.below hP2.out hW (RawAt.lt hP2.out)) 2, RawAt.cell (RawAt.below hP2.out hW (RawAt.lt hP2.out)) 3⟩, hW⟩
            refine wp_region_noPanic ?_
            refine wp_region_held_drew (S := (fun W => (W.cell? ⟨w.heap.size + 1, 0, none⟩ = some (.int .i64 j) ∧ W.cell? ⟨w.heap.size + 1, 1, none⟩ = some (.int .i64 u) ∧ W.cell? ⟨w.heap.size + 1, 2, none⟩ = some (.int .i64 j) ∧ W.cell? ⟨w.heap.size + 1, 3, none⟩ = some (.int .i64 v)) ∧ Below wr.heap.size wr W)) (by kernel_rfl) (MK.out _ hW0) (fun hHeld => ?_)
            refine wpAnyH_take (i := 0) (v := ?_) rfl (by kernel_rfl) (by kernel_rfl) (by kernel_rfl) (fun _ _ _ h => h) (Or.inl ⟨by rfl, ?_⟩) hHeld ?_
            rotate_left
            · intro w hSw
              (try dsimp only at hSw)
              go_simp
              try with_reducible rfl
            go_simp
            refine wpAnyH_take (i := 1) (v := ?_) rfl (by kernel_rfl) (by kernel_rfl) (by kernel_rfl) (fun _ _ _ h => h) (Or.inl ⟨by rfl, ?_⟩) hHeld ?_
            rotate_left
            · intro w hSw
              (try dsimp only at hSw)
              go_simp
              try with_reducible rfl
            go_simp
            refine wpAnyH_take (i := 2) (v := ?_) rfl (by kernel_rfl) (by kernel_rfl) (by kernel_rfl) (fun _ _ _ h => h) (Or.inl ⟨by rfl, ?_⟩) hHeld ?_
            rotate_left
            · intro w hSw
              (try dsimp only at hSw)
              go_simp
              try with_reducible rfl
            go_simp
            refine wpAnyH_take (i := 3) (v := ?_) rfl (by kernel_rfl) (by kernel_rfl) (by kernel_rfl) (fun _ _ _ h => h) (Or.inl ⟨by rfl, ?_⟩) hHeld ?_
            rotate_left
            · intro w hSw
              (try dsimp only at hSw)
              go_simp
              try with_reducible rfl
            go_simp
            refine wpAnyH_take (i := 4) (v := ?_) rfl (by kernel_rfl) (by kernel_rfl) (by kernel_rfl) (fun _ _ _ h => h) (Or.inl ⟨by rfl, ?_⟩) hHeld ?_
            rotate_left
            · intro w hSw
              (try dsimp only at hSw)
              go_simp
              try with_reducible rfl
            go_simp
            refine wpAnyH_take (i := 5) (v := ?_) rfl (by kernel_rfl) (by kernel_rfl) (by kernel_rfl) (fun _ _ _ h => h) (Or.inl ⟨by rfl, ?_⟩) hHeld ?_
            rotate_left
            · intro w hSw
              (try dsimp only at hSw)
              go_simp
              try with_reducible rfl
            go_simp
            refine wpAnyH_take (i := 6) (v := ?_) rfl (by kernel_rfl) (by kernel_rfl) (by kernel_rfl) (fun _ _ _ h => h) (Or.inl ⟨by rfl, ?_⟩) hHeld ?_
            rotate_left
            · intro w hSw
              (try dsimp only at hSw)
              go_simp
              try with_reducible rfl
            go_simp
            refine wpAnyH_take (i := 7) (v := ?_) rfl (by kernel_rfl) (by kernel_rfl) (by kernel_rfl) (fun _ _ _ h => h) (Or.inl ⟨by rfl, ?_⟩) hHeld ?_
            rotate_left
            · intro w hSw
              (try dsimp only at hSw)
              go_simp
              try with_reducible rfl
            go_simp
            refine wpAnyH_take (i := 8) (v := ?_) rfl (by kernel_rfl) (by kernel_rfl) (by kernel_rfl) (fun _ _ _ h => h) (Or.inl ⟨by rfl, ?_⟩) hHeld ?_
            rotate_left
            · intro w hSw
              (try dsimp only at hSw)
              go_simp
              try with_reducible rfl
            go_simp
            refine wpAnyH_take (i := 9) (v := ?_) rfl (by kernel_rfl) (by kernel_rfl) (by kernel_rfl) (fun _ _ _ h => h) (Or.inl ⟨by rfl, ?_⟩) hHeld ?_
            rotate_left
            · intro w hSw
              (try dsimp only at hSw)
              go_simp
              try with_reducible rfl
            go_simp
            refine wpAnyH_take (i := 10) (v := ?_) rfl (by kernel_rfl) (by kernel_rfl) (by kernel_rfl) (fun _ _ _ h => h) (Or.inl ⟨by rfl, ?_⟩) hHeld ?_
            rotate_left
            · intro w hSw
              (try dsimp only at hSw)
              go_simp
              try with_reducible rfl
            go_simp
            refine wpAnyH_take (i := 11) (v := ?_) rfl (by kernel_rfl) (by kernel_rfl) (by kernel_rfl) (fun _ _ _ h => h) (Or.inl ⟨by rfl, ?_⟩) hHeld ?_
            rotate_left
            · intro w hSw
              (try dsimp only at hSw)
              go_simp
              try with_reducible rfl
            go_simp
            refine wpAnyH_take (i := 12) (v := ?_) rfl (by kernel_rfl) (by kernel_rfl) (by kernel_rfl) (fun _ _ _ h => h) (Or.inl ⟨by rfl, ?_⟩) hHeld ?_
            rotate_left
            · intro w hSw
              (try dsimp only at hSw)
              go_simp
              try with_reducible rfl
            go_simp
            refine wpAnyH_take (i := 13) (v := undef) rfl (by kernel_rfl) (by kernel_rfl) (by kernel_rfl) (fun _ _ _ h => h) (Or.inr ⟨by rfl, rfl⟩) hHeld ?_
            go_simp
            refine wpAnyH_take (i := 14) (v := undef) rfl (by kernel_rfl) (by kernel_rfl) (by kernel_rfl) (fun _ _ _ h => h) (Or.inr ⟨by rfl, rfl⟩) hHeld ?_
            go_simp
            refine wpAnyH_take (i := 15) (v := undef) rfl (by kernel_rfl) (by kernel_rfl) (by kernel_rfl) (fun _ _ _ h => h) (Or.inr ⟨by rfl, rfl⟩) hHeld ?_
            go_simp
            refine wpAnyH_take (i := 16) (v := undef) rfl (by kernel_rfl) (by kernel_rfl) (by kernel_rfl) (fun _ _ _ h => h) (Or.inr ⟨by rfl, rfl⟩) hHeld ?_
            go_simp
            refine wpAnyH_take (i := 17) (v := undef) rfl (by kernel_rfl) (by kernel_rfl) (by kernel_rfl) (fun _ _ _ h => h) (Or.inr ⟨by rfl, rfl⟩) hHeld ?_
            go_simp
            refine wpAnyH_take (i := 18) (v := undef) rfl (by kernel_rfl) (by kernel_rfl) (by kernel_rfl) (fun _ _ _ h => h) (Or.inr ⟨by rfl, rfl⟩) hHeld ?_
            go_simp
            refine wpAnyH_take (i := 19) (v := undef) rfl (by kernel_rfl) (by kernel_rfl) (by kernel_rfl) (fun _ _ _ h => h) (Or.inr ⟨by rfl, rfl⟩) hHeld ?_
            go_simp
            refine wpAnyH_take (i := 20) (v := undef) rfl (by kernel_rfl) (by kernel_rfl) (by kernel_rfl) (fun _ _ _ h => h) (Or.inr ⟨by rfl, rfl⟩) hHeld ?_
            go_simp
            refine wpAnyH_take (i := 21) (v := undef) rfl (by kernel_rfl) (by kernel_rfl) (by kernel_rfl) (fun _ _ _ h => h) (Or.inr ⟨by rfl, rfl⟩) hHeld ?_
            go_simp
            refine wpAnyH_take (i := 22) (v := undef) rfl (by kernel_rfl) (by kernel_rfl) (by kernel_rfl) (fun _ _ _ h => h) (Or.inr ⟨by rfl, rfl⟩) hHeld ?_
            go_simp
            refine wpAnyH_take (i := 23) (v := undef) rfl (by kernel_rfl) (by kernel_rfl) (by kernel_rfl) (fun _ _ _ h => h) (Or.inr ⟨by rfl, rfl⟩) hHeld ?_
            go_simp
            refine wpAnyH_take (i := 24) (v := undef) rfl (by kernel_rfl) (by kernel_rfl) (by kernel_rfl) (fun _ _ _ h => h) (Or.inr ⟨by rfl, rfl⟩) hHeld ?_
            go_simp
            refine wpAnyH_take (i := 25) (v := undef) rfl (by kernel_rfl) (by kernel_rfl) (by kernel_rfl) (fun _ _ _ h => h) (Or.inr ⟨by rfl, rfl⟩) hHeld ?_
            go_simp
            refine wpAnyH_take (i := 26) (v := ?_) rfl (by kernel_rfl) (by kernel_rfl) (by kernel_rfl) (fun _ _ _ h => h) (Or.inl ⟨by rfl, ?_⟩) hHeld ?_
            rotate_left
            · intro w hSw
              (try dsimp only at hSw)
              go_simp
              try with_reducible rfl
            go_simp
            refine wpAnyH_done (by kernel_rfl) ?_ _
            refine NoPanic.normal ?_
            have HBz := Lib.hid (hbL.out.trans (hW0.mono hbL.out.size))
            have HPz := Lib.hid (RawAt.below hP2.out hW0 (RawAt.lt hP2.out))
            have HZz := Lib.hid (RawAt.below hZ2.out hW0 (RawAt.lt hZ2.out))
            generalize wr.drew = wz at *
            have q0 := RawAt.cell HPz.out 0
            have q1 := RawAt.cell HPz.out 1
            have q2 := RawAt.cell HPz.out 2
            have q3 := RawAt.cell HPz.out 3
            have y0 := RawAt.cell HZz.out 0
            have y1 := RawAt.cell HZz.out 1
            have y2 := RawAt.cell HZz.out 2
            have y3 := RawAt.cell HZz.out 3
            simp at q0 q1 q2 q3 y0 y1 y2 y3
            have f0 := RawAt.free HZz.out 0
            have f1 := RawAt.free HZz.out 1
            have f2 := RawAt.free HZz.out 2
            have f3 := RawAt.free HZz.out 3
            go_wp2
            have R5 := RawAt.set_ (RawAt.set_ (RawAt.set_ (RawAt.set_ HZz.out 0 (.int .i64 j)) 1 (.int .i64 u)) 2 (.int .i64 j)) 3 (.int .i64 v)
            have p0 := RawAt.cell R5 0
            have p1 := RawAt.cell R5 1
            have p2 := RawAt.cell R5 2
            have p3 := RawAt.cell R5 3
            simp at p0 p1 p2 p3
            refine bodyPost_ret (v := .agg #[.int .i64 j, .int .i64 u, .int .i64 j, .int .i64 v]) (by simp [results, Try.results18, go_sem, p0, p1, p2, p3]) rfl ⟨by rw [HLS.out], ?_⟩
            exact (((HBz.out.setCell (Nat.le_refl _) _).setCell (Nat.le_refl _) _).setCell (Nat.le_refl _) _).setCell (Nat.le_refl _) _
        · have d1 : decide ((j : Int) < (u : Int)) = false := decide_eq_false (by omega)
          have d1n : decide (j < u) = false := decide_eq_false c1
          have HLS : Hid (p = ⟨(j : Int), (u : Int), (j : Int), (v : Int)⟩) := Lib.hid (HPP.out.unique ⟨j, k, HAK.out, ⟨by rw [HML.out]; omega, hs2.out, fun h => absurd h (by rw [HML.out]; omega)⟩, by rw [HL.out, HO.out]; congr 1 <;> omega⟩)
          go_wp2_with fail
          have MK : Hid (∀ W : World, Below wr.heap.size wr W → (fun W => (W.cell? ⟨w.heap.size + 1, 0, none⟩ = some (.int .i64 j) ∧ W.cell? ⟨w.heap.size + 1, 1, none⟩ = some (.int .i64 u) ∧ W.cell? ⟨w.heap.size + 1, 2, none⟩ = some (.int .i64 j) ∧ W.cell? ⟨w.heap.size + 1, 3, none⟩ = some (.int .i64 v)) ∧ Below wr.heap.size wr W) W) := fun W hW => ⟨⟨RawAt.cell (RawAt.below hP2.out hW (RawAt.lt hP2.out)) 0, RawAt.cell (RawAt.below hP2.out hW (RawAt.lt hP2.out)) 1, RawAt.cell (RawAt.below hP2.out hW (RawAt.lt hP2.out)) 2, RawAt.cell (RawAt.below hP2.out hW (RawAt.lt hP2.out)) 3⟩, hW⟩
          refine wp_region_noPanic ?_
          refine wp_region_held_drew (S := (fun W => (W.cell? ⟨w.heap.size + 1, 0, none⟩ = some (.int .i64 j) ∧ W.cell? ⟨w.heap.size + 1, 1, none⟩ = some (.int .i64 u) ∧ W.cell? ⟨w.heap.size + 1, 2, none⟩ = some (.int .i64 j) ∧ W.cell? ⟨w.heap.size + 1, 3, none⟩ = some (.int .i64 v)) ∧ Below wr.heap.size wr W)) (by kernel_rfl) (MK.out _ hW0) (fun hHeld => ?_)
          refine wpAnyH_take (i := 0) (v := ?_) rfl (by kernel_rfl) (by kernel_rfl) (by kernel_rfl) (fun _ _ _ h => h) (Or.inl ⟨by rfl, ?_⟩) hHeld ?_
          rotate_left
          · intro w hSw
            (try dsimp only at hSw)
            go_simp
            try with_reducible rfl
          go_simp
          refine wpAnyH_take (i := 1) (v := ?_) rfl (by kernel_rfl) (by kernel_rfl) (by kernel_rfl) (fun _ _ _ h => h) (Or.inl ⟨by rfl, ?_⟩) hHeld ?_
          rotate_left
          · intro w hSw
            (try dsimp only at hSw)
            go_simp
            try with_reducible rfl
          go_simp
          refine wpAnyH_take (i := 2) (v := ?_) rfl (by kernel_rfl) (by kernel_rfl) (by kernel_rfl) (fun _ _ _ h => h) (Or.inl ⟨by rfl, ?_⟩) hHeld ?_
          rotate_left
          · intro w hSw
            (try dsimp only at hSw)
            go_simp
            try with_reducible rfl
          go_simp
          refine wpAnyH_take (i := 3) (v := ?_) rfl (by kernel_rfl) (by kernel_rfl) (by kernel_rfl) (fun _ _ _ h => h) (Or.inl ⟨by rfl, ?_⟩) hHeld ?_
          rotate_left
          · intro w hSw
            (try dsimp only at hSw)
            go_simp
            try with_reducible rfl
          go_simp
          refine wpAnyH_take (i := 4) (v := ?_) rfl (by kernel_rfl) (by kernel_rfl) (by kernel_rfl) (fun _ _ _ h => h) (Or.inl ⟨by rfl, ?_⟩) hHeld ?_
          rotate_left
          · intro w hSw
            (try dsimp only at hSw)
            go_simp
            try with_reducible rfl
          go_simp
          refine wpAnyH_take (i := 5) (v := ?_) rfl (by kernel_rfl) (by kernel_rfl) (by kernel_rfl) (fun _ _ _ h => h) (Or.inl ⟨by rfl, ?_⟩) hHeld ?_
          rotate_left
          · intro w hSw
            (try dsimp only at hSw)
            go_simp
            try with_reducible rfl
          go_simp
          refine wpAnyH_take (i := 6) (v := undef) rfl (by kernel_rfl) (by kernel_rfl) (by kernel_rfl) (fun _ _ _ h => h) (Or.inr ⟨by rfl, rfl⟩) hHeld ?_
          go_simp
          refine wpAnyH_take (i := 7) (v := undef) rfl (by kernel_rfl) (by kernel_rfl) (by kernel_rfl) (fun _ _ _ h => h) (Or.inr ⟨by rfl, rfl⟩) hHeld ?_
          go_simp
          refine wpAnyH_take (i := 8) (v := undef) rfl (by kernel_rfl) (by kernel_rfl) (by kernel_rfl) (fun _ _ _ h => h) (Or.inr ⟨by rfl, rfl⟩) hHeld ?_
          go_simp
          refine wpAnyH_take (i := 9) (v := undef) rfl (by kernel_rfl) (by kernel_rfl) (by kernel_rfl) (fun _ _ _ h => h) (Or.inr ⟨by rfl, rfl⟩) hHeld ?_
          go_simp
          refine wpAnyH_take (i := 10) (v := undef) rfl (by kernel_rfl) (by kernel_rfl) (by kernel_rfl) (fun _ _ _ h => h) (Or.inr ⟨by rfl, rfl⟩) hHeld ?_
          go_simp
          refine wpAnyH_take (i := 11) (v := ?_) rfl (by kernel_rfl) (by kernel_rfl) (by kernel_rfl) (fun _ _ _ h => h) (Or.inl ⟨by rfl, ?_⟩) hHeld ?_
          rotate_left
          · intro w hSw
            (try dsimp only at hSw)
            go_simp
            try with_reducible rfl
          go_simp
          refine wpAnyH_take (i := 12) (v := ?_) rfl (by kernel_rfl) (by kernel_rfl) (by kernel_rfl) (fun _ _ _ h => h) (Or.inl ⟨by rfl, ?_⟩) hHeld ?_
          rotate_left
          · intro w hSw
            (try dsimp only at hSw)
            go_simp
            try with_reducible rfl
          go_simp
          refine wpAnyH_take (i := 13) (v := undef) rfl (by kernel_rfl) (by kernel_rfl) (by kernel_rfl) (fun _ _ _ h => h) (Or.inr ⟨by rfl, rfl⟩) hHeld ?_
          go_simp
          refine wpAnyH_take (i := 14) (v := undef) rfl (by kernel_rfl) (by kernel_rfl) (by kernel_rfl) (fun _ _ _ h => h) (Or.inr ⟨by rfl, rfl⟩) hHeld ?_
          go_simp
          refine wpAnyH_take (i := 15) (v := undef) rfl (by kernel_rfl) (by kernel_rfl) (by kernel_rfl) (fun _ _ _ h => h) (Or.inr ⟨by rfl, rfl⟩) hHeld ?_
          go_simp
          refine wpAnyH_take (i := 16) (v := undef) rfl (by kernel_rfl) (by kernel_rfl) (by kernel_rfl) (fun _ _ _ h => h) (Or.inr ⟨by rfl, rfl⟩) hHeld ?_
          go_simp
          refine wpAnyH_take (i := 17) (v := undef) rfl (by kernel_rfl) (by kernel_rfl) (by kernel_rfl) (fun _ _ _ h => h) (Or.inr ⟨by rfl, rfl⟩) hHeld ?_
          go_simp
          refine wpAnyH_take (i := 18) (v := undef) rfl (by kernel_rfl) (by kernel_rfl) (by kernel_rfl) (fun _ _ _ h => h) (Or.inr ⟨by rfl, rfl⟩) hHeld ?_
          go_simp
          refine wpAnyH_take (i := 19) (v := undef) rfl (by kernel_rfl) (by kernel_rfl) (by kernel_rfl) (fun _ _ _ h => h) (Or.inr ⟨by rfl, rfl⟩) hHeld ?_
          go_simp
          refine wpAnyH_take (i := 20) (v := undef) rfl (by kernel_rfl) (by kernel_rfl) (by kernel_rfl) (fun _ _ _ h => h) (Or.inr ⟨by rfl, rfl⟩) hHeld ?_
          go_simp
          refine wpAnyH_take (i := 21) (v := undef) rfl (by kernel_rfl) (by kernel_rfl) (by kernel_rfl) (fun _ _ _ h => h) (Or.inr ⟨by rfl, rfl⟩) hHeld ?_
          go_simp
          refine wpAnyH_take (i := 22) (v := undef) rfl (by kernel_rfl) (by kernel_rfl) (by kernel_rfl) (fun _ _ _ h => h) (Or.inr ⟨by rfl, rfl⟩) hHeld ?_
          go_simp
          refine wpAnyH_take (i := 23) (v := undef) rfl (by kernel_rfl) (by kernel_rfl) (by kernel_rfl) (fun _ _ _ h => h) (Or.inr ⟨by rfl, rfl⟩) hHeld ?_
          go_simp
          refine wpAnyH_take (i := 24) (v := undef) rfl (by kernel_rfl) (by kernel_rfl) (by kernel_rfl) (fun _ _ _ h => h) (Or.inr ⟨by rfl, rfl⟩) hHeld ?_
          go_simp
          refine wpAnyH_take (i := 25) (v := undef) rfl (by kernel_rfl) (by kernel_rfl) (by kernel_rfl) (fun _ _ _ h => h) (Or.inr ⟨by rfl, rfl⟩) hHeld ?_
          go_simp
          refine wpAnyH_take (i := 26) (v := ?_) rfl (by kernel_rfl) (by kernel_rfl) (by kernel_rfl) (fun _ _ _ h => h) (Or.inl ⟨by rfl, ?_⟩) hHeld ?_
          rotate_left
          · intro w hSw
            (try dsimp only at hSw)
            go_simp
            try with_reducible rfl
          go_simp
          refine wpAnyH_done (by kernel_rfl) ?_ _
          refine NoPanic.normal ?_
          have HBz := Lib.hid (hbL.out.trans (hW0.mono hbL.out.size))
          have HPz := Lib.hid (RawAt.below hP2.out hW0 (RawAt.lt hP2.out))
          have HZz := Lib.hid (RawAt.below hZ2.out hW0 (RawAt.lt hZ2.out))
          generalize wr.drew = wz at *
          have q0 := RawAt.cell HPz.out 0
          have q1 := RawAt.cell HPz.out 1
          have q2 := RawAt.cell HPz.out 2
          have q3 := RawAt.cell HPz.out 3
          have y0 := RawAt.cell HZz.out 0
          have y1 := RawAt.cell HZz.out 1
          have y2 := RawAt.cell HZz.out 2
          have y3 := RawAt.cell HZz.out 3
          simp at q0 q1 q2 q3 y0 y1 y2 y3
          have f0 := RawAt.free HZz.out 0
          have f1 := RawAt.free HZz.out 1
          have f2 := RawAt.free HZz.out 2
          have f3 := RawAt.free HZz.out 3
          go_wp2
          have R5 := RawAt.set_ (RawAt.set_ (RawAt.set_ (RawAt.set_ HZz.out 0 (.int .i64 j)) 1 (.int .i64 u)) 2 (.int .i64 j)) 3 (.int .i64 v)
          have p0 := RawAt.cell R5 0
          have p1 := RawAt.cell R5 1
          have p2 := RawAt.cell R5 2
          have p3 := RawAt.cell R5 3
          simp at p0 p1 p2 p3
          refine bodyPost_ret (v := .agg #[.int .i64 j, .int .i64 u, .int .i64 j, .int .i64 v]) (by simp [results, Try.results18, go_sem, p0, p1, p2, p3]) rfl ⟨by rw [HLS.out], ?_⟩
          exact (((HBz.out.setCell (Nat.le_refl _) _).setCell (Nat.le_refl _) _).setCell (Nat.le_refl _) _).setCell (Nat.le_refl _) _
end Go.Proofs.Ytebjkgeldjgnfaa
