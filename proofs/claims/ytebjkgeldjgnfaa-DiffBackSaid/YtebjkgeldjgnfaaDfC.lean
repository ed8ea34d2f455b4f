/- How many rows are shown alike: along, and what it hands over; alike. -/
import Derived.Test.YtebjkgeldjgnfaaDfB
namespace Go.Proofs.Ytebjkgeldjgnfaa
open Go.RowKit
set_option linter.unusedVariables false
set_option maxHeartbeats 4000000 in
theorem dAlong_any (a b s : Int) (w : World) :
    Calls Try.prog 25 #[.int .i64 a, .int .i64 b, .int .i64 s] w fun e w' => e = .returned (.func (.func 29) #[] #[.pointer (some ⟨w.heap.size, 0, none⟩), .pointer (some ⟨w.heap.size + 1 + 1, 0, none⟩), .pointer (some ⟨w.heap.size + 1, 0, none⟩)]) ∧ w' = ((w.alloc (.cells #[.int .i64 a] 3)).alloc (.cells #[.int .i64 b] 3)).alloc (.cells #[.int .i64 s] 3) := by
  have hmf : ∀ (fn : Fn) (first cap : Array Value) (w : World), (Instr.makeFunc fn first cap).run Try.prog w = .ok (.func fn first cap) w := fun _ _ _ _ => rfl
  go_enter Try.func25, Try.ntmps25
  go_wp2
  go_ret
  exact ⟨rfl, rfl⟩
set_option maxHeartbeats 4000000 in
set_option maxRecDepth 100000 in
theorem dAlongC_any (b1 b2 b3 : Nat) (a b s i u x y : Int) (h1 : IntKind.i64.wrap (i * s) = u) (h2 : IntKind.i64.wrap (a + u) = x) (h3 : IntKind.i64.wrap (b + u) = y) (w : World) (ha : w.cell? ⟨b1, 0, none⟩ = some (.int .i64 a)) (hs : w.cell? ⟨b2, 0, none⟩ = some (.int .i64 s)) (hb : w.cell? ⟨b3, 0, none⟩ = some (.int .i64 b)) :
    Calls Try.prog 29 #[.int .i64 i, .pointer (some ⟨b1, 0, none⟩), .pointer (some ⟨b2, 0, none⟩), .pointer (some ⟨b3, 0, none⟩)] w fun e w' => e = .returned (.tuple #[.int .i64 x, .int .i64 y]) ∧ Below w.heap.size w w' := by
  go_enter Try.func29, Try.ntmps29
  go_wp2_with fail
  go_quiet (fail)
  go_wp2
  refine bodyPost_ret (v := .tuple #[.int .i64 x, .int .i64 y]) (by simp [results, Try.results29, go_sem]) rfl ⟨rfl, ?_⟩
  exact drewN_below (Below.refl _ _) _
set_option maxHeartbeats 4000000 in
set_option maxRecDepth 100000 in
theorem dAlike_any (A B : Option Addr) (n c m d : Nat) (l o : List Rw) (N : Nat) (fa fb : Nat → Nat) (K c1 c2 c3 : Value) (hK : K = .func (.func 29) #[] #[c1, c2, c3]) (r : Nat) (hr : Alk (fun i => RS (rth l (fa i)) (rth o (fb i))) N r) (w : World)
    (hA : RowsAt encR 7 w A l) (hl : l.length = n) (hB : RowsAt encR 7 w B o) (hy : o.length = m) (okl : ∀ s ∈ l, RwOk w s ∧ s.n ≤ 9223372036854775807) (oko : ∀ s ∈ o, RwOk w s ∧ s.n ≤ 9223372036854775807) (hf : ∀ i, i < N → fa i < n ∧ fb i < m) (hN : N ≤ 9223372036854775807) (hn : n ≤ 9223372036854775807) (hm : m ≤ 9223372036854775807)
    (CK : ∀ i : Nat, i < N → ∀ W, Below w.heap.size w W → Calls Try.prog 29 #[.int .i64 i, c1, c2, c3] W fun e w' => e = .returned (.tuple #[.int .i64 (fa i), .int .i64 (fb i)]) ∧ Below W.heap.size W w') :
    Calls Try.prog 24 #[.slice A n c, .slice B m d, .int .i64 N, K] w fun e w' => e = .returned (.int .i64 r) ∧ Below w.heap.size w w' := by
  have HA := Lib.hid hA
  have HB := Lib.hid hB
  have HL := Lib.hid hl
  have HO := Lib.hid hy
  have HR := Lib.hid hr
  have HKL := Lib.hid okl
  have HKO := Lib.hid oko
  have HF := Lib.hid hf
  have HCK := Lib.hid CK
  clear hA hB hl hy hr okl oko hf CK
  subst hK
  go_enter Try.func24, Try.ntmps24
  go_wp2_with fail
  go_loopg [13] N (fun g i wr => ∃ (j : Nat), i = .int .i64 j ∧ j ≤ N ∧ N - j ≤ g ∧ Hid (j ≤ r) ∧ Hid (Below w.heap.size w wr))
  case atStart => exact ⟨0, rfl, by omega, by omega, Lib.hid (Nat.zero_le _), Lib.hid (Below.refl _ _)⟩
  case round =>
    obtain ⟨j, rfl, h1, h2, hs, hb⟩ := hrel
    by_cases hlt : j < N
    · have CKj := Lib.hid (HCK.out j hlt wr hb.out)
      obtain ⟨p, hp⟩ : ∃ p, p = fa j := ⟨_, rfl⟩
      obtain ⟨q, hq⟩ : ∃ q, q = fb j := ⟨_, rfl⟩
      have hpq := HF.out j hlt
      have HRJ : Hid ((j < r → RS (rth l (fa j)) (rth o (fb j))) ∧ (j = r → ¬ RS (rth l (fa j)) (rth o (fb j)))) := Lib.hid ⟨fun h => HR.out.2.1 j h, fun h => by subst h; exact HR.out.2.2 hlt⟩
      rw [← hp, ← hq] at CKj hpq HRJ
      clear hp hq
      obtain ⟨hpn, hqm⟩ := hpq
      have hpl : p < l.length := by rw [HL.out]; exact hpn
      have hql : q < o.length := by rw [HO.out]; exact hqm
      rw [rth_get hpl, rth_get hql] at HRJ
      go_wp2_with fail
      refine (CKj.out).mono ?_
      rintro e w1 ⟨rfl, hb1⟩
      have HB1 := Lib.hid (hb.out.trans (hb1.mono hb.out.size))
      clear hb1 CKj
      obtain ⟨bA, off, hAe, hbA, hcA⟩ := (HA.out.below HB1.out).at1 hpl
      obtain ⟨bB, of2, hBe, hbB, hcB⟩ := (HB.out.below HB1.out).at1 hql
      have hAe := hAe; subst hAe
      subst hBe
      have HBA := Lib.hid hbA
      have HBB := Lib.hid hbB
      obtain ⟨bv, hbv, hbr⟩ : ∃ bv : Bool, (bv = true ↔ RS l[p] o[q]) ∧ (bv = true ↔ j < r) := by
        by_cases g : j < r
        · exact ⟨true, ⟨fun _ => HRJ.out.1 g, fun _ => rfl⟩, ⟨fun _ => g, fun _ => rfl⟩⟩
        · have e : j = r := by have := hs.out; omega
          exact ⟨false, ⟨(fun h => by cases h), fun h => absurd h (HRJ.out.2 e)⟩, ⟨(fun h => by cases h), fun h => absurd h g⟩⟩
      have CS := Lib.hid fun W (hW : Below w.heap.size w W) => dSame_any l[p] o[q] bv hbv W ((HKL.out _ (List.getElem_mem hpl)).1.below hW) ((HKO.out _ (List.getElem_mem hql)).1.below hW) (HKL.out _ (List.getElem_mem hpl)).2 (HKO.out _ (List.getElem_mem hql)).2
      have HcA := Lib.hid hcA
      have HcB := Lib.hid hcB
      have HBR := Lib.hid hbr
      clear hbv HRJ hcA hcB hbr hbA hbB
      generalize l[p] = x at *
      generalize o[q] = y at *
      have i1 : (0 : Int) ≤ p := by omega
      have i2 : (p : Int) < n := by omega
      have i3 : (0 : Int) ≤ q := by omega
      have i4 : (q : Int) < m := by omega
      go_wp2_with fail
      have MK : Hid (∀ W : World, Below w1.heap.size w1 W → (fun W => (W.cell? ⟨bA, off + p * 7, none⟩ = some (.slice x.A x.n x.c) ∧ W.cell? ⟨bA, off + p * 7 + 1, none⟩ = some (.int .i64 x.st) ∧ W.cell? ⟨bA, off + p * 7 + 2, none⟩ = some (.int .i64 x.en) ∧ W.cell? ⟨bA, off + p * 7 + 3, none⟩ = some (.int .i64 x.bu) ∧ W.cell? ⟨bA, off + p * 7 + 4, none⟩ = some (.bool x.wr) ∧ W.cell? ⟨bA, off + p * 7 + 5, none⟩ = some (.bool x.fo) ∧ W.cell? ⟨bA, off + p * 7 + 6, none⟩ = some (.int .i64 x.wd)) ∧ (W.cell? ⟨bB, of2 + q * 7, none⟩ = some (.slice y.A y.n y.c) ∧ W.cell? ⟨bB, of2 + q * 7 + 1, none⟩ = some (.int .i64 y.st) ∧ W.cell? ⟨bB, of2 + q * 7 + 2, none⟩ = some (.int .i64 y.en) ∧ W.cell? ⟨bB, of2 + q * 7 + 3, none⟩ = some (.int .i64 y.bu) ∧ W.cell? ⟨bB, of2 + q * 7 + 4, none⟩ = some (.bool y.wr) ∧ W.cell? ⟨bB, of2 + q * 7 + 5, none⟩ = some (.bool y.fo) ∧ W.cell? ⟨bB, of2 + q * 7 + 6, none⟩ = some (.int .i64 y.wd)) ∧ Below w1.heap.size w1 W) W) := fun W hW => by
        have r1 : ∀ f, f < 7 → W.cell? ⟨bA, off + p * 7 + f, none⟩ = (encR x)[f]? := fun f h => (hW.cell (p := ⟨bA, off + p * 7 + f, none⟩) HBA.out).trans (HcA.out f h)
        have r2 : ∀ f, f < 7 → W.cell? ⟨bB, of2 + q * 7 + f, none⟩ = (encR y)[f]? := fun f h => (hW.cell (p := ⟨bB, of2 + q * 7 + f, none⟩) HBB.out).trans (HcB.out f h)
        exact ⟨⟨r1 0 (by omega), r1 1 (by omega), r1 2 (by omega), r1 3 (by omega), r1 4 (by omega), r1 5 (by omega), r1 6 (by omega)⟩, ⟨r2 0 (by omega), r2 1 (by omega), r2 2 (by omega), r2 3 (by omega), r2 4 (by omega), r2 5 (by omega), r2 6 (by omega)⟩, hW⟩
      have hW2 : Below w1.heap.size w1 w1.drew := (Below.refl _ _).drew
      refine wp_region_noPanic ?_
      refine wp_region_held_drew (S := (fun W => (W.cell? ⟨bA, off + p * 7, none⟩ = some (.slice x.A x.n x.c) ∧ W.cell? ⟨bA, off + p * 7 + 1, none⟩ = some (.int .i64 x.st) ∧ W.cell? ⟨bA, off + p * 7 + 2, none⟩ = some (.int .i64 x.en) ∧ W.cell? ⟨bA, off + p * 7 + 3, none⟩ = some (.int .i64 x.bu) ∧ W.cell? ⟨bA, off + p * 7 + 4, none⟩ = some (.bool x.wr) ∧ W.cell? ⟨bA, off + p * 7 + 5, none⟩ = some (.bool x.fo) ∧ W.cell? ⟨bA, off + p * 7 + 6, none⟩ = some (.int .i64 x.wd)) ∧ (W.cell? ⟨bB, of2 + q * 7, none⟩ = some (.slice y.A y.n y.c) ∧ W.cell? ⟨bB, of2 + q * 7 + 1, none⟩ = some (.int .i64 y.st) ∧ W.cell? ⟨bB, of2 + q * 7 + 2, none⟩ = some (.int .i64 y.en) ∧ W.cell? ⟨bB, of2 + q * 7 + 3, none⟩ = some (.int .i64 y.bu) ∧ W.cell? ⟨bB, of2 + q * 7 + 4, none⟩ = some (.bool y.wr) ∧ W.cell? ⟨bB, of2 + q * 7 + 5, none⟩ = some (.bool y.fo) ∧ W.cell? ⟨bB, of2 + q * 7 + 6, none⟩ = some (.int .i64 y.wd)) ∧ Below w1.heap.size w1 W)) (by kernel_rfl) (MK.out _ hW2) (fun hHeld => ?_)
      refine wpAnyH_take (i := 0) (v := ?_) rfl (by kernel_rfl) (by kernel_rfl) (by kernel_rfl) (fun _ _ _ h => h) (Or.inl ⟨by rfl, ?_⟩) hHeld ?_
      rotate_left
      · intro w hSw
        (try dsimp only at hSw)
        go_simp
        try with_reducible rfl
      go_simp
      refine wpAnyH_take (i := 1) (v := ?_) rfl (by kernel_rfl) (by kernel_rfl) (by kernel_rfl) (fun _ _ _ h => h) (Or.inl ⟨by rfl, ?_⟩) hHeld ?_
      rotate_left
      · intro w hSw
        (try dsimp only at hSw)
        go_simp
        try with_reducible rfl
      go_simp
      refine wpAnyH_take (i := 2) (v := ?_) rfl (by kernel_rfl) (by kernel_rfl) (by kernel_rfl) (fun _ _ _ h => h) (Or.inl ⟨by rfl, ?_⟩) hHeld ?_
      rotate_left
      · intro w hSw
        (try dsimp only at hSw)
        go_simp
        try with_reducible rfl
      go_simp
      refine wpAnyH_take (i := 3) (v := ?_) rfl (by kernel_rfl) (by kernel_rfl) (by kernel_rfl) (fun _ _ _ h => h) (Or.inl ⟨by rfl, ?_⟩) hHeld ?_
      rotate_left
      · intro w hSw
        (try dsimp only at hSw)
        go_simp
        try with_reducible rfl
      go_simp
      refine wpAnyH_take (i := 4) (v := ?_) rfl (by kernel_rfl) (by kernel_rfl) (by kernel_rfl) (fun _ _ _ h => h) (Or.inl ⟨by rfl, ?_⟩) hHeld ?_
      rotate_left
      · intro w hSw
        (try dsimp only at hSw)
        go_simp
        try with_reducible rfl
      go_simp
      refine wpAnyH_take (i := 5) (v := ?_) rfl (by kernel_rfl) (by kernel_rfl) (by kernel_rfl) (fun _ _ _ h => h) (Or.inl ⟨by rfl, ?_⟩) hHeld ?_
      rotate_left
      · intro w hSw
        (try dsimp only at hSw)
        go_simp
        try with_reducible rfl
      go_simp
      refine wpAnyH_take (i := 6) (v := ?_) rfl (by kernel_rfl) (by kernel_rfl) (by kernel_rfl) (fun _ _ _ h => h) (Or.inl ⟨by rfl, ?_⟩) hHeld ?_
      rotate_left
      · intro w hSw
        (try dsimp only at hSw)
        go_simp
        try with_reducible rfl
      go_simp
      refine wpAnyH_take (i := 7) (v := ?_) rfl (by kernel_rfl) (by kernel_rfl) (by kernel_rfl) (fun _ _ _ h => h) (Or.inl ⟨by rfl, ?_⟩) hHeld ?_
      rotate_left
      · intro w hSw
        (try dsimp only at hSw)
        go_simp
        try with_reducible rfl
      go_simp
      refine wpAnyH_ready (rs := [8]) (by kernel_rfl) (by simp) ?_
      refine AllReadyH.cons rfl (fun K hK => ?_) ?_
      rotate_left
      · exact AllReadyH.nil
      go_simp
      go_wp2_with (first | (go_at_call 10; ((with_reducible refine (CS.out _ (HB1.out.trans (hW2.mono HB1.out.size))).mono ?_); rintro e w2 ⟨rfl, hb2⟩); have hW2 := hW2.trans (hb2.mono hW2.size)))
      refine hK.out _ _ (MK.out _ hW2) (fun hHeld => ?_)
      clear hK K
      go_simp
      refine wpAnyH_take (i := 9) (v := ?_) rfl (by kernel_rfl) (by kernel_rfl) (by kernel_rfl) (fun _ _ _ h => h) (Or.inl ⟨by rfl, ?_⟩) hHeld ?_
      rotate_left
      · intro w hSw
        (try dsimp only at hSw)
        go_simp
        try with_reducible rfl
      go_simp
      refine wpAnyH_done (by kernel_rfl) ?_ _
      refine NoPanic.normal ?_
      cases bv
      · have e : r = j := by have := hs.out; have : ¬ j < r := fun h => (by have := HBR.out.mpr h; cases this); omega
        subst e
        go_wp2
        go_ret
        exact ⟨rfl, HB1.out.trans (hW2.mono HB1.out.size)⟩
      · have e : j + 1 ≤ r := HBR.out.mp rfl
        go_wp2
        go_roundg (gk - 1)
        case measure => omega
        case rel => exact ⟨j + 1, by go_num, by omega, by omega, Lib.hid e, Lib.hid (HB1.out.trans (hW2.mono HB1.out.size))⟩
    · obtain rfl : j = N := by omega
      have e : r = j := by have := hs.out; have := HR.out.1; omega
      subst e
      go_wp2
      go_ret
      exact ⟨rfl, hb.out⟩
end Go.Proofs.Ytebjkgeldjgnfaa
