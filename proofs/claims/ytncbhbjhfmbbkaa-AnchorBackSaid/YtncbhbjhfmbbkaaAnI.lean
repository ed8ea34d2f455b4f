/- Anchors: the law's same, of equal ones. -/
import Derived.Test.YtncbhbjhfmbbkaaAnH
namespace Go.Proofs.Ytncbhbjhfmbbkaa
open Go.RowKit Go.Sort
set_option linter.unusedVariables false
set_option maxHeartbeats 16000000 in
set_option maxRecDepth 100000 in
theorem asame_any (A B : Option Addr) (m c d : Nat) (l : List An) (w : World) (hA : RowsAt encA 3 w A l) (hB : RowsAt encA 3 w B l) (hl : l.length = m) (hm : m ≤ 100000) :
    Calls Try.prog 22 #[.slice A m c, .slice B m d] w fun e w' => e = .returned (.bool true) ∧ Below w.heap.size w w' := by
  have CR := Lib.hid (arefs_any A m c l w hA hl hm)
  have HB := Lib.hid hB
  have HL := Lib.hid hl
  clear hA hB hl
  go_enter Try.func22, Try.ntmps22
  go_wp2_with fail
  with_reducible refine (CR.out).mono ?_
  rintro e1 w1 ⟨v1, rfl, o1, b1⟩
  obtain ⟨A1, c1, rfl, hR1, _, hC1⟩ := rows_of_own encA_len (by omega) o1
  have HA := Lib.hid hR1
  have HB1 := Lib.hid (HB.out.below b1)
  have B1 := Lib.hid b1
  clear o1 hR1 hC1 b1 CR HB
  go_wp2_with fail
  go_loopg [11] m (fun g i wr => ∃ (j : Nat), i = .int .i64 j ∧ j ≤ m ∧ m - j ≤ g ∧ Hid (Below w1.heap.size w1 wr))
  case atStart => exact ⟨0, rfl, by omega, by omega, Lib.hid (Below.refl _ _)⟩
  case round =>
    obtain ⟨j, rfl, h1, h2, hb⟩ := hrel
    by_cases hlt : j < m
    · have hjl : j < l.length := by rw [HL.out]; exact hlt
      obtain ⟨bA, off, rfl, hbA, hx⟩ := (HA.out.below hb.out).at1 hjl
      obtain ⟨bB, off2, rfl, hbB, hy⟩ := (HB1.out.below hb.out).at1 hjl
      have d0 := hx 0 (by omega)
      have d1 := hx 1 (by omega)
      have d2 := hx 2 (by omega)
      have e0 := hy 0 (by omega)
      have e1 := hy 1 (by omega)
      have e2 := hy 2 (by omega)
      rw [Nat.add_zero] at d0 e0
      clear hx hy
      generalize l[j] = x at *
      simp [encA] at d0 d1 d2 e0 e1 e2
      have i1 : (0 : Int) ≤ j := by omega
      have i2 : (j : Int) < m := by omega
      have i3 : decide ((m : Int) ≤ (j : Int)) = false := decide_eq_false (by omega)
      have i4 : decide (m ≤ j) = false := decide_eq_false (by omega)
      have MK : Hid (∀ W : World, Below wr.heap.size wr W → (fun W : World => W.cell? ⟨bA, off + j * 3, none⟩ = some (.int .i64 x.id) ∧ W.cell? ⟨bA, off + j * 3 + 1, none⟩ = some (.int .i64 x.pl) ∧ W.cell? ⟨bA, off + j * 3 + 2, none⟩ = some (.int .i64 x.bi) ∧ W.cell? ⟨bB, off2 + j * 3, none⟩ = some (.int .i64 x.id) ∧ W.cell? ⟨bB, off2 + j * 3 + 1, none⟩ = some (.int .i64 x.pl) ∧ W.cell? ⟨bB, off2 + j * 3 + 2, none⟩ = some (.int .i64 x.bi)) W) := fun W hW => ⟨(hW.cell (p := ⟨bA, _, none⟩) hbA).trans d0, (hW.cell (p := ⟨bA, _, none⟩) hbA).trans d1, (hW.cell (p := ⟨bA, _, none⟩) hbA).trans d2, (hW.cell (p := ⟨bB, _, none⟩) hbB).trans e0, (hW.cell (p := ⟨bB, _, none⟩) hbB).trans e1, (hW.cell (p := ⟨bB, _, none⟩) hbB).trans e2⟩
      clear d0 d1 d2 e0 e1 e2
      go_wp2_with fail
      refine wp_region_noPanic ?_
      refine wp_region_held_drew (S := (fun W => W.cell? ⟨bA, off + j * 3, none⟩ = some (.int .i64 x.id) ∧ W.cell? ⟨bA, off + j * 3 + 1, none⟩ = some (.int .i64 x.pl) ∧ W.cell? ⟨bA, off + j * 3 + 2, none⟩ = some (.int .i64 x.bi) ∧ W.cell? ⟨bB, off2 + j * 3, none⟩ = some (.int .i64 x.id) ∧ W.cell? ⟨bB, off2 + j * 3 + 1, none⟩ = some (.int .i64 x.pl) ∧ W.cell? ⟨bB, off2 + j * 3 + 2, none⟩ = some (.int .i64 x.bi))) (by kernel_rfl) (MK.out _ (Below.refl _ _).drew) (fun hHeld => ?_)
      refine wpAnyH_take (i := 0) (v := ?_) rfl (by kernel_rfl) (by kernel_rfl) (by kernel_rfl) (fun _ _ _ h => h) (Or.inl ⟨by rfl, ?_⟩) hHeld ?_
      rotate_left
      · intro w hSw
        (try dsimp only at hSw)
        go_simp
        try with_reducible rfl
      go_simp
      refine wpAnyH_take (i := 1) (v := ?_) rfl (by kernel_rfl) (by kernel_rfl) (by kernel_rfl) (fun _ _ _ h => h) (Or.inl ⟨by rfl, ?_⟩) hHeld ?_
      rotate_left
      · intro w hSw
        (try dsimp only at hSw)
        go_simp
        try with_reducible rfl
      go_simp
      refine wpAnyH_take (i := 2) (v := ?_) rfl (by kernel_rfl) (by kernel_rfl) (by kernel_rfl) (fun _ _ _ h => h) (Or.inl ⟨by rfl, ?_⟩) hHeld ?_
      rotate_left
      · intro w hSw
        (try dsimp only at hSw)
        go_simp
        try with_reducible rfl
      go_simp
      refine wpAnyH_take (i := 3) (v := ?_) rfl (by kernel_rfl) (by kernel_rfl) (by kernel_rfl) (fun _ _ _ h => h) (Or.inl ⟨by rfl, ?_⟩) hHeld ?_
      rotate_left
      · intro w hSw
        (try dsimp only at hSw)
        go_simp
        try with_reducible rfl
      go_simp
      refine wpAnyH_take (i := 4) (v := ?_) rfl (by kernel_rfl) (by kernel_rfl) (by kernel_rfl) (fun _ _ _ h => h) (Or.inl ⟨by rfl, ?_⟩) hHeld ?_
      rotate_left
      · intro w hSw
        (try dsimp only at hSw)
        go_simp
        try with_reducible rfl
      go_simp
      refine wpAnyH_take (i := 5) (v := ?_) rfl (by kernel_rfl) (by kernel_rfl) (by kernel_rfl) (fun _ _ _ h => h) (Or.inl ⟨by rfl, ?_⟩) hHeld ?_
      rotate_left
      · intro w hSw
        (try dsimp only at hSw)
        go_simp
        try with_reducible rfl
      go_simp
      refine wpAnyH_take (i := 6) (v := ?_) rfl (by kernel_rfl) (by kernel_rfl) (by kernel_rfl) (fun _ _ _ h => h) (Or.inl ⟨by rfl, ?_⟩) hHeld ?_
      rotate_left
      · intro w hSw
        (try dsimp only at hSw)
        go_simp
        try with_reducible rfl
      go_simp
      refine wpAnyH_take (i := 7) (v := ?_) rfl (by kernel_rfl) (by kernel_rfl) (by kernel_rfl) (fun _ _ _ h => h) (Or.inl ⟨by rfl, ?_⟩) hHeld ?_
      rotate_left
      · intro w hSw
        (try dsimp only at hSw)
        go_simp
        try with_reducible rfl
      go_simp
      refine wpAnyH_take (i := 8) (v := ?_) rfl (by kernel_rfl) (by kernel_rfl) (by kernel_rfl) (fun _ _ _ h => h) (Or.inl ⟨by rfl, ?_⟩) hHeld ?_
      rotate_left
      · intro w hSw
        (try dsimp only at hSw)
        go_simp
        try with_reducible rfl
      go_simp
      refine wpAnyH_take (i := 9) (v := ?_) rfl (by kernel_rfl) (by kernel_rfl) (by kernel_rfl) (fun _ _ _ h => h) (Or.inl ⟨by rfl, ?_⟩) hHeld ?_
      rotate_left
      · intro w hSw
        (try dsimp only at hSw)
        go_simp
        try with_reducible rfl
      go_simp
      refine wpAnyH_take (i := 10) (v := ?_) rfl (by kernel_rfl) (by kernel_rfl) (by kernel_rfl) (fun _ _ _ h => h) (Or.inl ⟨by rfl, ?_⟩) hHeld ?_
      rotate_left
      · intro w hSw
        (try dsimp only at hSw)
        go_simp
        try with_reducible rfl
      go_simp
      refine wpAnyH_take (i := 11) (v := ?_) rfl (by kernel_rfl) (by kernel_rfl) (by kernel_rfl) (fun _ _ _ h => h) (Or.inl ⟨by rfl, ?_⟩) hHeld ?_
      rotate_left
      · intro w hSw
        (try dsimp only at hSw)
        go_simp
        try with_reducible rfl
      go_simp
      refine wpAnyH_take (i := 12) (v := ?_) rfl (by kernel_rfl) (by kernel_rfl) (by kernel_rfl) (fun _ _ _ h => h) (Or.inl ⟨by rfl, ?_⟩) hHeld ?_
      rotate_left
      · intro w hSw
        (try dsimp only at hSw)
        go_simp
        try with_reducible rfl
      go_simp
      refine wpAnyH_take (i := 13) (v := ?_) rfl (by kernel_rfl) (by kernel_rfl) (by kernel_rfl) (fun _ _ _ h => h) (Or.inl ⟨by rfl, ?_⟩) hHeld ?_
      rotate_left
      · intro w hSw
        (try dsimp only at hSw)
        go_simp
        try with_reducible rfl
      go_simp
      refine wpAnyH_take (i := 14) (v := ?_) rfl (by kernel_rfl) (by kernel_rfl) (by kernel_rfl) (fun _ _ _ h => h) (Or.inl ⟨by rfl, ?_⟩) hHeld ?_
      rotate_left
      · intro w hSw
        (try dsimp only at hSw)
        go_simp
        try with_reducible rfl
      go_simp
      refine wpAnyH_done (by kernel_rfl) ?_ _
      refine NoPanic.normal ?_
      go_wp2
      go_roundg (gk - 1)
      case measure => omega
      case rel => exact ⟨j + 1, by go_num, by omega, by omega, Lib.hid hb.out.drew⟩
    · have hj : j = m := by omega
      subst hj
      go_wp2
      go_ret
      exact ⟨by simp, B1.out.trans (hb.out.mono B1.out.size)⟩
end Go.Proofs.Ytncbhbjhfmbbkaa
