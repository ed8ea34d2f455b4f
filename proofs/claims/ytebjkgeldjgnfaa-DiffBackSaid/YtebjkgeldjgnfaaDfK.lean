/- Equal rows, by the statements' own; what is not long. -/
import Derived.Test.YtebjkgeldjgnfaaDfH
import Derived.Test.YtebjkgeldjgnfaaDfX
import Derived.Test.YtebjkgeldjgnfaaPlD
namespace Go.Proofs.Ytebjkgeldjgnfaa
open Go.RowKit
set_option linter.unusedVariables false
def rtot (l : List Rw) : Nat := (l.map fun s => s.n + 1).sum
theorem rtot_each : ∀ {l : List Rw}, l.length ≤ rtot l ∧ ∀ s ∈ l, s.n ≤ rtot l
  | [] => ⟨Nat.le_refl _, fun s h => absurd h (by simp)⟩
  | x :: l => by
    have ih := rtot_each (l := l)
    have e : rtot (x :: l) = x.n + 1 + rtot l := by simp [rtot]
    refine ⟨by rw [e, List.length_cons]; omega, fun s h => ?_⟩
    rcases List.mem_cons.mp h with rfl | h
    · omega
    · have := ih.2 s h; omega
theorem rlg_small : ∀ (l : List Rw) (t : Int), 0 ≤ t → t ≤ 400 → (∀ s ∈ l, s.n * 32 ≤ reachBytes) → rlg t l = false → t + rtot l ≤ 400
  | [], t, _, h, _, _ => by simp [rtot]; exact h
  | x :: l, t, h0, h1, hs, h => by
    have hx := hs x (List.mem_cons_self ..)
    simp only [reachBytes] at hx
    have e1 : IntKind.i64.wrap (t + (x.n : Int)) = t + x.n := IntWalk.i64_in _ (by omega)
    have e2 : IntKind.i64.wrap (t + (x.n : Int) + 1) = t + x.n + 1 := IntWalk.i64_in _ (by omega)
    rw [rlg, e1, e2] at h
    split at h
    · cases h
    · rename_i g
      have ih := rlg_small l (t + x.n + 1) (by omega) (by omega) (fun s hs' => hs s (List.mem_cons_of_mem _ hs')) h
      have e : rtot (x :: l) = x.n + 1 + rtot l := by simp [rtot]
      omega
theorem small_of {l : List Rw} {n : Nat} {w : World} (hl : l.length = n) (ok : ∀ s ∈ l, RwOkW w s) (h : rlg 0 l = false) : n ≤ 400 ∧ ∀ s ∈ l, RwOk w s ∧ s.n ≤ 400 := by
  have g := rlg_small l 0 (by omega) (by omega) (fun s hs => (ok s hs).le) h
  have e := rtot_each (l := l)
  exact ⟨by omega, fun s hs => ⟨(ok s hs).ok, by have := e.2 s hs; omega⟩⟩
set_option maxHeartbeats 4000000 in
set_option maxRecDepth 100000 in
theorem plRow_any (x y : Rw) (h : RB x y) (w : World) (hx : RwOk w x) (hy : RwOk w y) (hn : x.n ≤ 1000000) :
    Calls Try.prog 28 #[.agg #[.slice x.A x.n x.c, .int .i64 x.st, .int .i64 x.en, .int .i64 x.bu, .bool x.wr, .bool x.fo, .int .i64 x.wd], .agg #[.slice y.A y.n y.c, .int .i64 y.st, .int .i64 y.en, .int .i64 y.bu, .bool y.wr, .bool y.fo, .int .i64 y.wd]] w fun e w' => e = .returned (.bool true) ∧ Below w.heap.size w w' := by
  have HBW : Hid (Below w.heap.size w ((w.alloc (.cells #[.slice x.A x.n x.c, .int .i64 x.st, .int .i64 x.en, .int .i64 x.bu, .bool x.wr, .bool x.fo, .int .i64 x.wd] 24)).alloc (.cells #[.slice y.A y.n y.c, .int .i64 y.st, .int .i64 y.en, .int .i64 y.bu, .bool y.wr, .bool y.fo, .int .i64 y.wd] 24))) := Lib.hid (((Below.refl _ _).alloc (Nat.le_refl _) _).alloc (by simp) _)
  have R2 : Hid (RawAt 24 ((w.alloc (.cells #[.slice x.A x.n x.c, .int .i64 x.st, .int .i64 x.en, .int .i64 x.bu, .bool x.wr, .bool x.fo, .int .i64 x.wd] 24)).alloc (.cells #[.slice y.A y.n y.c, .int .i64 y.st, .int .i64 y.en, .int .i64 y.bu, .bool y.wr, .bool y.fo, .int .i64 y.wd] 24)) w.heap.size #[.slice x.A x.n x.c, .int .i64 x.st, .int .i64 x.en, .int .i64 x.bu, .bool x.wr, .bool x.fo, .int .i64 x.wd] ∧ RawAt 24 ((w.alloc (.cells #[.slice x.A x.n x.c, .int .i64 x.st, .int .i64 x.en, .int .i64 x.bu, .bool x.wr, .bool x.fo, .int .i64 x.wd] 24)).alloc (.cells #[.slice y.A y.n y.c, .int .i64 y.st, .int .i64 y.en, .int .i64 y.bu, .bool y.wr, .bool y.fo, .int .i64 y.wd] 24)) (w.heap.size + 1) #[.slice y.A y.n y.c, .int .i64 y.st, .int .i64 y.en, .int .i64 y.bu, .bool y.wr, .bool y.fo, .int .i64 y.wd]) := Lib.hid ⟨RawAt.below (heap_alloc_new w _) ((Below.refl _ _).alloc (Nat.le_refl _) _) (by simp), by
    have h := heap_alloc_new (w.alloc (.cells #[.slice x.A x.n x.c, .int .i64 x.st, .int .i64 x.en, .int .i64 x.bu, .bool x.wr, .bool x.fo, .int .i64 x.wd] 24)) (.cells #[.slice y.A y.n y.c, .int .i64 y.st, .int .i64 y.en, .int .i64 y.bu, .bool y.wr, .bool y.fo, .int .i64 y.wd] 24)
    rw [show (w.alloc (.cells #[.slice x.A x.n x.c, .int .i64 x.st, .int .i64 x.en, .int .i64 x.bu, .bool x.wr, .bool x.fo, .int .i64 x.wd] 24)).heap.size = w.heap.size + 1 from by simp] at h
    exact h⟩
  have CP := Lib.hid (plcells_any x.A y.A x.n x.c y.c x.cs ((w.alloc (.cells #[.slice x.A x.n x.c, .int .i64 x.st, .int .i64 x.en, .int .i64 x.bu, .bool x.wr, .bool x.fo, .int .i64 x.wd] 24)).alloc (.cells #[.slice y.A y.n y.c, .int .i64 y.st, .int .i64 y.en, .int .i64 y.bu, .bool y.wr, .bool y.fo, .int .i64 y.wd] 24)) (hx.rows.below HBW.out) (by rw [h.2.1]; exact hy.rows.below HBW.out) hx.len hn)
  clear hx hy
  obtain ⟨xA, xn, xc, xl, x1, x2, x3, x4, x5, x6⟩ := x
  obtain ⟨yA, yn, yc, yl, y1, y2, y3, y4, y5, y6⟩ := y
  unfold RB at h
  simp only at *
  obtain ⟨rfl, rfl, rfl, rfl, rfl, rfl, rfl, rfl⟩ := h
  have j4 : (x4 == x4) = true := by simp
  have j5 : (x5 == x5) = true := by simp
  have j1 : (x1 == x1) = true := by simp
  have j2 : (x2 == x2) = true := by simp
  have j3 : (x3 == x3) = true := by simp
  have j6 : (x6 == x6) = true := by simp
  go_enter Try.func28, Try.ntmps28
  go_wp2_with fail
  with_reducible refine (CP.out).mono ?_
  rintro e w1 ⟨rfl, hb1⟩
  have HB5 := Lib.hid (HBW.out.trans (hb1.mono HBW.out.size))
  have r1 := RawAt.below R2.out.1 hb1 (RawAt.lt R2.out.1)
  have r2 := RawAt.below R2.out.2 hb1 (RawAt.lt R2.out.2)
  have p1 := RawAt.cell r1 1
  have p2 := RawAt.cell r1 2
  have p3 := RawAt.cell r1 3
  have p4 := RawAt.cell r1 4
  have p5 := RawAt.cell r1 5
  have p6 := RawAt.cell r1 6
  have q1 := RawAt.cell r2 1
  have q2 := RawAt.cell r2 2
  have q3 := RawAt.cell r2 3
  have q4 := RawAt.cell r2 4
  have q5 := RawAt.cell r2 5
  have q6 := RawAt.cell r2 6
  simp at p1 p2 p3 p4 p5 p6 q1 q2 q3 q4 q5 q6
  clear hb1 r1 r2 CP R2
  go_wp2
  go_ret
  exact ⟨rfl, HB5.out⟩
set_option maxHeartbeats 4000000 in
set_option maxRecDepth 100000 in
theorem plRows_any (A B : Option Addr) (n c d : Nat) (l o : List Rw) (h : RBs l o) (w : World) (hA : RowsAt encR 7 w A l) (hB : RowsAt encR 7 w B o) (hy : o.length = n) (okl : ∀ s ∈ l, RwOk w s) (oko : ∀ s ∈ o, RwOk w s ∧ s.n ≤ 1000000) (hn : n ≤ 1000000) :
    Calls Try.prog 20 #[.slice A n c, .slice B n d] w fun e w' => e = .returned (.bool true) ∧ Below w.heap.size w w' := by
  have HA := Lib.hid hA
  have HB := Lib.hid hB
  have HO := Lib.hid hy
  have HL : Hid (l.length = n) := Lib.hid (by rw [h.1]; exact hy)
  have HRB := Lib.hid h
  have HKL := Lib.hid okl
  have HKO := Lib.hid oko
  clear hA hB hy h okl oko
  go_enter Try.func20, Try.ntmps20
  go_wp2_with fail
  go_loopg [8] n (fun g i wr => ∃ (j : Nat), i = .int .i64 j ∧ j ≤ n ∧ n - j ≤ g ∧ Hid (Below w.heap.size w wr))
  case atStart => exact ⟨0, rfl, by omega, by omega, Lib.hid (Below.refl _ _)⟩
  case round =>
    obtain ⟨j, rfl, h1, h2, hb⟩ := hrel
    by_cases hlt : j < n
    · have hpl : j < l.length := by rw [HL.out]; exact hlt
      have hql : j < o.length := by rw [HO.out]; exact hlt
      have hrb : RB l[j] o[j] := by have := HRB.out.2 j hql; rw [rth_get hpl, rth_get hql] at this; exact this
      have hle : l[j].n ≤ 1000000 := by rw [hrb.1]; exact (HKO.out _ (List.getElem_mem hql)).2
      have CS := Lib.hid fun W (hW : Below w.heap.size w W) => plRow_any l[j] o[j] hrb W ((HKL.out _ (List.getElem_mem hpl)).below hW) ((HKO.out _ (List.getElem_mem hql)).1.below hW) hle
      clear hrb hle
      have HBW := hb
      obtain ⟨bA, off, hAe, hbA, hcA⟩ := (HA.out.below HBW.out).at1 hpl
      obtain ⟨bB, of2, hBe, hbB, hcB⟩ := (HB.out.below HBW.out).at1 hql
      subst hAe
      subst hBe
      have HBA := Lib.hid hbA
      have HBB := Lib.hid hbB
      have HcA := Lib.hid hcA
      have HcB := Lib.hid hcB
      clear hcA hcB hbA hbB
      generalize l[j] = x at *
      generalize o[j] = y at *
      have i1 : (0 : Int) ≤ j := by omega
      have i2 : (j : Int) < n := by omega
      have i3 : (0 : Int) ≤ j := by omega
      have i4 : (j : Int) < n := by omega
      have i3 : decide ((n : Int) ≤ (j : Int)) = false := decide_eq_false (by omega)
      have i4 : decide (n ≤ j) = false := decide_eq_false (by omega)
      go_wp2_with fail
      have MK : Hid (∀ W : World, Below wr.heap.size wr W → (fun W => (W.cell? ⟨bA, off + j * 7, none⟩ = some (.slice x.A x.n x.c) ∧ W.cell? ⟨bA, off + j * 7 + 1, none⟩ = some (.int .i64 x.st) ∧ W.cell? ⟨bA, off + j * 7 + 2, none⟩ = some (.int .i64 x.en) ∧ W.cell? ⟨bA, off + j * 7 + 3, none⟩ = some (.int .i64 x.bu) ∧ W.cell? ⟨bA, off + j * 7 + 4, none⟩ = some (.bool x.wr) ∧ W.cell? ⟨bA, off + j * 7 + 5, none⟩ = some (.bool x.fo) ∧ W.cell? ⟨bA, off + j * 7 + 6, none⟩ = some (.int .i64 x.wd)) ∧ (W.cell? ⟨bB, of2 + j * 7, none⟩ = some (.slice y.A y.n y.c) ∧ W.cell? ⟨bB, of2 + j * 7 + 1, none⟩ = some (.int .i64 y.st) ∧ W.cell? ⟨bB, of2 + j * 7 + 2, none⟩ = some (.int .i64 y.en) ∧ W.cell? ⟨bB, of2 + j * 7 + 3, none⟩ = some (.int .i64 y.bu) ∧ W.cell? ⟨bB, of2 + j * 7 + 4, none⟩ = some (.bool y.wr) ∧ W.cell? ⟨bB, of2 + j * 7 + 5, none⟩ = some (.bool y.fo) ∧ W.cell? ⟨bB, of2 + j * 7 + 6, none⟩ = some (.int .i64 y.wd)) ∧ Below wr.heap.size wr W) W) := fun W hW => by
        have r1 : ∀ f, f < 7 → W.cell? ⟨bA, off + j * 7 + f, none⟩ = (encR x)[f]? := fun f h => (hW.cell (p := ⟨bA, off + j * 7 + f, none⟩) HBA.out).trans (HcA.out f h)
        have r2 : ∀ f, f < 7 → W.cell? ⟨bB, of2 + j * 7 + f, none⟩ = (encR y)[f]? := fun f h => (hW.cell (p := ⟨bB, of2 + j * 7 + f, none⟩) HBB.out).trans (HcB.out f h)
        exact ⟨⟨r1 0 (by omega), r1 1 (by omega), r1 2 (by omega), r1 3 (by omega), r1 4 (by omega), r1 5 (by omega), r1 6 (by omega)⟩, ⟨r2 0 (by omega), r2 1 (by omega), r2 2 (by omega), r2 3 (by omega), r2 4 (by omega), r2 5 (by omega), r2 6 (by omega)⟩, hW⟩
      have hW2 : Below wr.heap.size wr wr.drew := (Below.refl _ _).drew
      refine wp_region_noPanic ?_
      refine wp_region_held_drew (S := (fun W => (W.cell? ⟨bA, off + j * 7, none⟩ = some (.slice x.A x.n x.c) ∧ W.cell? ⟨bA, off + j * 7 + 1, none⟩ = some (.int .i64 x.st) ∧ W.cell? ⟨bA, off + j * 7 + 2, none⟩ = some (.int .i64 x.en) ∧ W.cell? ⟨bA, off + j * 7 + 3, none⟩ = some (.int .i64 x.bu) ∧ W.cell? ⟨bA, off + j * 7 + 4, none⟩ = some (.bool x.wr) ∧ W.cell? ⟨bA, off + j * 7 + 5, none⟩ = some (.bool x.fo) ∧ W.cell? ⟨bA, off + j * 7 + 6, none⟩ = some (.int .i64 x.wd)) ∧ (W.cell? ⟨bB, of2 + j * 7, none⟩ = some (.slice y.A y.n y.c) ∧ W.cell? ⟨bB, of2 + j * 7 + 1, none⟩ = some (.int .i64 y.st) ∧ W.cell? ⟨bB, of2 + j * 7 + 2, none⟩ = some (.int .i64 y.en) ∧ W.cell? ⟨bB, of2 + j * 7 + 3, none⟩ = some (.int .i64 y.bu) ∧ W.cell? ⟨bB, of2 + j * 7 + 4, none⟩ = some (.bool y.wr) ∧ W.cell? ⟨bB, of2 + j * 7 + 5, none⟩ = some (.bool y.fo) ∧ W.cell? ⟨bB, of2 + j * 7 + 6, none⟩ = some (.int .i64 y.wd)) ∧ Below wr.heap.size wr W)) (by kernel_rfl) (MK.out _ hW2) (fun hHeld => ?_)
      refine wpAnyH_take (i := 0) (v := ?_) rfl (by kernel_rfl) (by kernel_rfl) (by kernel_rfl) (fun _ _ _ h => h) (Or.inl ⟨by rfl, ?_⟩) hHeld ?_
      rotate_left
      · intro w hSw
        (try dsimp only at hSw)
        go_simp
        try with_reducible rfl
      go_simp
      refine wpAnyH_take (i := 1) (v := ?_) rfl (by kernel_rfl) (by kernel_rfl) (by kernel_rfl) (fun _ _ _ h => h) (Or.inl ⟨by rfl, ?_⟩) hHeld ?_
      rotate_left
      · intro w hSw
        (try dsimp only at hSw)
        go_simp
        try with_reducible rfl
      go_simp
      refine wpAnyH_take (i := 2) (v := ?_) rfl (by kernel_rfl) (by kernel_rfl) (by kernel_rfl) (fun _ _ _ h => h) (Or.inl ⟨by rfl, ?_⟩) hHeld ?_
      rotate_left
      · intro w hSw
        (try dsimp only at hSw)
        go_simp
        try with_reducible rfl
      go_simp
      refine wpAnyH_take (i := 3) (v := ?_) rfl (by kernel_rfl) (by kernel_rfl) (by kernel_rfl) (fun _ _ _ h => h) (Or.inl ⟨by rfl, ?_⟩) hHeld ?_
      rotate_left
      · intro w hSw
        (try dsimp only at hSw)
        go_simp
        try with_reducible rfl
      go_simp
      refine wpAnyH_take (i := 4) (v := ?_) rfl (by kernel_rfl) (by kernel_rfl) (by kernel_rfl) (fun _ _ _ h => h) (Or.inl ⟨by rfl, ?_⟩) hHeld ?_
      rotate_left
      · intro w hSw
        (try dsimp only at hSw)
        go_simp
        try with_reducible rfl
      go_simp
      refine wpAnyH_take (i := 5) (v := ?_) rfl (by kernel_rfl) (by kernel_rfl) (by kernel_rfl) (fun _ _ _ h => h) (Or.inl ⟨by rfl, ?_⟩) hHeld ?_
      rotate_left
      · intro w hSw
        (try dsimp only at hSw)
        go_simp
        try with_reducible rfl
      go_simp
      refine wpAnyH_take (i := 6) (v := ?_) rfl (by kernel_rfl) (by kernel_rfl) (by kernel_rfl) (fun _ _ _ h => h) (Or.inl ⟨by rfl, ?_⟩) hHeld ?_
      rotate_left
      · intro w hSw
        (try dsimp only at hSw)
        go_simp
        try with_reducible rfl
      go_simp
      refine wpAnyH_take (i := 7) (v := ?_) rfl (by kernel_rfl) (by kernel_rfl) (by kernel_rfl) (fun _ _ _ h => h) (Or.inl ⟨by rfl, ?_⟩) hHeld ?_
      rotate_left
      · intro w hSw
        (try dsimp only at hSw)
        go_simp
        try with_reducible rfl
      go_simp
      refine wpAnyH_take (i := 8) (v := ?_) rfl (by kernel_rfl) (by kernel_rfl) (by kernel_rfl) (fun _ _ _ h => h) (Or.inl ⟨by rfl, ?_⟩) hHeld ?_
      rotate_left
      · intro w hSw
        (try dsimp only at hSw)
        go_simp
        try with_reducible rfl
      go_simp
      refine wpAnyH_take (i := 9) (v := ?_) rfl (by kernel_rfl) (by kernel_rfl) (by kernel_rfl) (fun _ _ _ h => h) (Or.inl ⟨by rfl, ?_⟩) hHeld ?_
      rotate_left
      · intro w hSw
        (try dsimp only at hSw)
        go_simp
        try with_reducible rfl
      go_simp
      refine wpAnyH_take (i := 10) (v := ?_) rfl (by kernel_rfl) (by kernel_rfl) (by kernel_rfl) (fun _ _ _ h => h) (Or.inl ⟨by rfl, ?_⟩) hHeld ?_
      rotate_left
      · intro w hSw
        (try dsimp only at hSw)
        go_simp
        try with_reducible rfl
      go_simp
      refine wpAnyH_take (i := 11) (v := ?_) rfl (by kernel_rfl) (by kernel_rfl) (by kernel_rfl) (fun _ _ _ h => h) (Or.inl ⟨by rfl, ?_⟩) hHeld ?_
      rotate_left
      · intro w hSw
        (try dsimp only at hSw)
        go_simp
        try with_reducible rfl
      go_simp
      refine wpAnyH_take (i := 12) (v := ?_) rfl (by kernel_rfl) (by kernel_rfl) (by kernel_rfl) (fun _ _ _ h => h) (Or.inl ⟨by rfl, ?_⟩) hHeld ?_
      rotate_left
      · intro w hSw
        (try dsimp only at hSw)
        go_simp
        try with_reducible rfl
      go_simp
      refine wpAnyH_ready (rs := [13]) (by kernel_rfl) (by simp) ?_
      refine AllReadyH.cons rfl (fun K hK => ?_) ?_
      rotate_left
      · exact AllReadyH.nil
      go_simp
      go_wp2_with (first | (go_at_call 28; ((with_reducible refine (CS.out _ (HBW.out.trans (hW2.mono HBW.out.size))).mono ?_); rintro e w2 ⟨rfl, hb2⟩); have hW2 := hW2.trans (hb2.mono hW2.size)))
      refine hK.out _ _ (MK.out _ hW2) (fun hHeld => ?_)
      clear hK K
      go_simp
      refine wpAnyH_take (i := 14) (v := ?_) rfl (by kernel_rfl) (by kernel_rfl) (by kernel_rfl) (fun _ _ _ h => h) (Or.inl ⟨by rfl, ?_⟩) hHeld ?_
      rotate_left
      · intro w hSw
        (try dsimp only at hSw)
        go_simp
        try with_reducible rfl
      go_simp
      refine wpAnyH_take (i := 15) (v := ?_) rfl (by kernel_rfl) (by kernel_rfl) (by kernel_rfl) (fun _ _ _ h => h) (Or.inl ⟨by rfl, ?_⟩) hHeld ?_
      rotate_left
      · intro w hSw
        (try dsimp only at hSw)
        go_simp
        try with_reducible rfl
      go_simp
      refine wpAnyH_done (by kernel_rfl) ?_ _
      refine NoPanic.normal ?_
      have HB4 := Lib.hid (HBW.out.trans (hW2.mono HBW.out.size))
      go_wp2
      go_roundg (gk - 1)
      case measure => omega
      case rel => exact ⟨j + 1, by go_num, by omega, by omega, HB4⟩
    · obtain rfl : j = n := by omega
      have hnn : ((j : Int) == (j : Int)) = true := by simp
      go_wp2
      go_ret
      exact ⟨rfl, hb.out⟩
end Go.Proofs.Ytebjkgeldjgnfaa
