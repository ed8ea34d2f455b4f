/- Patches: the contracts of Delta and of the law's two. -/
import Derived.Test.YtjkkngldiimkjaaGreatPtB
import Derived.Test.YtjkkngldiimkjaaGreatPtC
import Derived.Deep.RegionHeld3
namespace Go.Proofs.YtjkkngldiimkjaaGreat
open Go.RowKit
theorem dlt_bd {K : Int} (hK : 0 ≤ K) : ∀ {l : List Ch}, (∀ c ∈ l, -K ≤ (c.nb - c.na) - (c.ob - c.oa) ∧ (c.nb - c.na) - (c.ob - c.oa) ≤ K) → -(K * l.length) ≤ dlt l ∧ dlt l ≤ K * l.length
  | [], _ => by simp [dlt]
  | x :: l, h => by
    have ih := dlt_bd hK (fun e he => h e (List.mem_cons_of_mem _ he))
    have hx := h x (List.mem_cons_self ..)
    rw [show dlt (x :: l) = ((x.nb - x.na) - (x.ob - x.oa)) + dlt l from by simp [dlt], List.length_cons, show ((l.length + 1 : Nat) : Int) = (l.length : Int) + 1 from by omega, Int.mul_add, Int.mul_one]
    omega
set_option maxHeartbeats 4000000 in
set_option maxRecDepth 100000 in
theorem pDelta_any (A : Option Addr) (m cp : Nat) (l : List Ch) (w : World) (hA : ChsAt w A l) (hl : l.length = m) (hm : m ≤ 1000) (hr : ∀ c ∈ l, (0 ≤ c.oa ∧ c.oa ≤ c.ob ∧ c.ob ≤ M40) ∧ 0 ≤ c.na ∧ c.na ≤ c.nb ∧ c.nb ≤ M40) :
    Calls Tryz.prog 90 #[.slice A m cp] w fun e w' => e = .returned (.int .i64 (dlt l)) ∧ Below w.heap.size w w' := by
  have hgb : ∀ j, -1099511627776000 ≤ dlt (l.take j) ∧ dlt (l.take j) ≤ 1099511627776000 := fun j => by
    have h1 := dlt_bd (K := 1099511627776) (by decide) (l := l.take j) (fun c hc => by
      obtain ⟨⟨a1, a2, a3⟩, a4, a5, a6⟩ := hr c (List.mem_of_mem_take hc)
      unfold M40 at a3 a6
      omega)
    have h2 : (l.take j).length ≤ 1000 := by rw [List.length_take]; omega
    omega
  have HGB := Lib.hid hgb
  have HMB := Lib.hid hr
  have HA := Lib.hid hA
  have HL := Lib.hid hl
  clear hA hl hr hgb
  obtain ⟨R, hR⟩ : ∃ R, R = dlt l := ⟨_, rfl⟩
  rw [← hR]
  have HR := Lib.hid hR; clear hR
  go_enter Tryz.func90, Tryz.ntmps90
  go_wp2_with fail
  go_loopg [3, 8] m (fun g z i wr => ∃ (j : Nat), i = .int .i64 j ∧ j ≤ m ∧ m - j ≤ g ∧ Below w.heap.size w wr ∧ Hid (z = .int .i64 (dlt (l.take j))))
  case atStart => exact ⟨0, rfl, by omega, by omega, Below.refl _ _, Lib.hid (by simp [dlt])⟩
  case round =>
    obtain ⟨j, rfl, h1, h2, hb, hz⟩ := hrel
    have hz := hz.out
    obtain ⟨zv, hzv⟩ : ∃ zv, zv = dlt (l.take j) := ⟨_, rfl⟩
    rw [← hzv] at hz
    subst hz
    have hzb := HGB.out j
    rw [← hzv] at hzb
    have HZ := Lib.hid hzv
    clear hzv
    by_cases hlt : j < m
    · have hjl : j < l.length := by rw [HL.out]; exact hlt
      obtain ⟨bA, off, rfl, hbA, d0, d1, d2, d3⟩ := (HA.out.below hb).at1 hjl
      obtain ⟨⟨m1, m2, m3⟩, m4, m5, m6⟩ := HMB.out _ (cth_mem hjl)
      have hst := Lib.hid (dlt_take hjl)
      generalize cth l j = c at *
      unfold M40 at m3 m6
      have CO := Lib.hid fun W => psize_any c.oa c.ob W (by omega) (by omega) (by omega) (by omega)
      have CN := Lib.hid fun W => psize_any c.na c.nb W (by omega) (by omega) (by omega) (by omega)
      obtain ⟨hzb3, hzb4⟩ := hzb
      have i1 : (0 : Int) ≤ j := by omega
      have i2 : (j : Int) < m := by omega
      have x3 : Below wr.heap.size wr (wr.alloc (.cells #[.int .i64 c.oa, .int .i64 c.ob, .int .i64 c.na, .int .i64 c.nb] 64)) := (Below.refl _ _).alloc (Nat.le_refl _) _
      have R3 : RawAt 64 (wr.alloc (.cells #[.int .i64 c.oa, .int .i64 c.ob, .int .i64 c.na, .int .i64 c.nb] 64)) wr.heap.size #[.int .i64 c.oa, .int .i64 c.ob, .int .i64 c.na, .int .i64 c.nb] := heap_alloc_new wr _
      have HR3 := Lib.hid R3
      have a3 := hb.trans (x3.mono hb.size)
      obtain ⟨sb, hsb⟩ : ∃ sb, sb = wr.heap.size := ⟨_, rfl⟩
      rw [← hsb] at HR3
      have HSB := Lib.hid hsb
      clear hsb R3
      have w1 : IntKind.i64.wrap ((c.nb - c.na) - (c.ob - c.oa)) = (c.nb - c.na) - (c.ob - c.oa) := IntWalk.i64_in _ (by omega)
      have w3 : IntKind.i64.wrap (zv + ((c.nb - c.na) - (c.ob - c.oa))) = zv + ((c.nb - c.na) - (c.ob - c.oa)) := IntWalk.i64_in _ (by omega)
      go_wp2_with fail
      rw [← HSB.out]
      generalize wr.alloc (.cells #[.int .i64 c.oa, .int .i64 c.ob, .int .i64 c.na, .int .i64 c.nb] 64) = W3 at *
      have MK : Hid (∀ W : World, Below W3.heap.size W3 W → (fun W => W.cell? ⟨sb, 0, none⟩ = some (.int .i64 c.oa) ∧ W.cell? ⟨sb, 1, none⟩ = some (.int .i64 c.ob) ∧ W.cell? ⟨sb, 2, none⟩ = some (.int .i64 c.na) ∧ W.cell? ⟨sb, 3, none⟩ = some (.int .i64 c.nb) ∧ Below W3.heap.size W3 W) W) := fun W hW => ⟨RawAt.cell (RawAt.below HR3.out hW (RawAt.lt HR3.out)) 0, RawAt.cell (RawAt.below HR3.out hW (RawAt.lt HR3.out)) 1, RawAt.cell (RawAt.below HR3.out hW (RawAt.lt HR3.out)) 2, RawAt.cell (RawAt.below HR3.out hW (RawAt.lt HR3.out)) 3, hW⟩
      have hW2 : Below W3.heap.size W3 W3.drew := (Below.refl _ _).drew
      refine wp_region_noPanic ?_
      refine wp_region_held_drew (S := (fun W => W.cell? ⟨sb, 0, none⟩ = some (.int .i64 c.oa) ∧ W.cell? ⟨sb, 1, none⟩ = some (.int .i64 c.ob) ∧ W.cell? ⟨sb, 2, none⟩ = some (.int .i64 c.na) ∧ W.cell? ⟨sb, 3, none⟩ = some (.int .i64 c.nb) ∧ Below W3.heap.size W3 W)) (by kernel_rfl) (MK.out _ hW2) (fun hHeld => ?_)
      refine wpAnyH_take (i := 0) (v := ?_) rfl (by kernel_rfl) (by kernel_rfl) (by kernel_rfl) (fun _ _ _ h => h) (Or.inl ⟨by rfl, ?_⟩) hHeld ?_
      rotate_left
      · intro w hSw
        (try dsimp only at hSw)
        go_simp
        try with_reducible rfl
      go_simp
      refine wpAnyH_take (i := 1) (v := ?_) rfl (by kernel_rfl) (by kernel_rfl) (by kernel_rfl) (fun _ _ _ h => h) (Or.inl ⟨by rfl, ?_⟩) hHeld ?_
      rotate_left
      · intro w hSw
        (try dsimp only at hSw)
        go_simp
        try with_reducible rfl
      go_simp
      refine wpAnyH_take (i := 2) (v := ?_) rfl (by kernel_rfl) (by kernel_rfl) (by kernel_rfl) (fun _ _ _ h => h) (Or.inl ⟨by rfl, ?_⟩) hHeld ?_
      rotate_left
      · intro w hSw
        (try dsimp only at hSw)
        go_simp
        try with_reducible rfl
      go_simp
      refine wpAnyH_take (i := 4) (v := ?_) rfl (by kernel_rfl) (by kernel_rfl) (by kernel_rfl) (fun _ _ _ h => h) (Or.inl ⟨by rfl, ?_⟩) hHeld ?_
      rotate_left
      · intro w hSw
        (try dsimp only at hSw)
        go_simp
        try with_reducible rfl
      go_simp
      refine wpAnyH_take (i := 5) (v := ?_) rfl (by kernel_rfl) (by kernel_rfl) (by kernel_rfl) (fun _ _ _ h => h) (Or.inl ⟨by rfl, ?_⟩) hHeld ?_
      rotate_left
      · intro w hSw
        (try dsimp only at hSw)
        go_simp
        try with_reducible rfl
      go_simp
      refine wpAnyH_ready (rs := [3]) (by kernel_rfl) (by simp) ?_
      refine AllReadyH.cons rfl (fun K hK => ?_) ?_
      rotate_left
      · exact AllReadyH.nil
      go_simp
      go_wp2_with (first | (go_at_call 138; ((with_reducible first | refine (CO.out _).mono ?_ | refine (CN.out _).mono ?_); rintro e w8 ⟨rfl, hb8⟩); have hW2 := hW2.trans (hb8.mono hW2.size)))
      refine hK.out _ _ (MK.out _ hW2) (fun hHeld => ?_)
      clear hK K
      go_simp
      refine wpAnyH_ready (rs := [6]) (by kernel_rfl) (by simp) ?_
      refine AllReadyH.cons rfl (fun K hK => ?_) ?_
      rotate_left
      · exact AllReadyH.nil
      go_simp
      go_wp2_with (first | (go_at_call 138; ((with_reducible first | refine (CO.out _).mono ?_ | refine (CN.out _).mono ?_); rintro e w8 ⟨rfl, hb8⟩); have hW2 := hW2.trans (hb8.mono hW2.size)))
      refine hK.out _ _ (MK.out _ hW2) (fun hHeld => ?_)
      clear hK K
      go_simp
      refine wpAnyH_take (i := 7) (v := ?_) rfl (by kernel_rfl) (by kernel_rfl) (by kernel_rfl) (fun _ _ _ h => h) (Or.inl ⟨by rfl, ?_⟩) hHeld ?_
      rotate_left
      · intro w hSw
        (try dsimp only at hSw)
        go_simp
        try with_reducible rfl
      go_simp
      refine wpAnyH_take (i := 8) (v := ?_) rfl (by kernel_rfl) (by kernel_rfl) (by kernel_rfl) (fun _ _ _ h => h) (Or.inl ⟨by rfl, ?_⟩) hHeld ?_
      rotate_left
      · intro w hSw
        (try dsimp only at hSw)
        go_simp
        try with_reducible rfl
      go_simp
      refine wpAnyH_take (i := 9) (v := ?_) rfl (by kernel_rfl) (by kernel_rfl) (by kernel_rfl) (fun _ _ _ h => h) (Or.inl ⟨by rfl, ?_⟩) hHeld ?_
      rotate_left
      · intro w hSw
        (try dsimp only at hSw)
        go_simp
        try with_reducible rfl
      go_simp
      refine wpAnyH_done (by kernel_rfl) ?_ _
      refine NoPanic.normal ?_
      go_wp2
      go_roundg (gk - 1)
      case measure => omega
      case rel => exact ⟨j + 1, by go_num, by omega, by omega, a3.trans (hW2.mono a3.size), Lib.hid (by rw [hst.out, ← HZ.out])⟩
    · have hj : j = m := by omega
      have hzz : zv = R := by rw [HZ.out, HR.out, List.take_of_length_le (by rw [HL.out]; omega)]
      go_wp2
      go_ret
      exact ⟨by rw [hzz]; try rfl, hb⟩
end Go.Proofs.YtjkkngldiimkjaaGreat
