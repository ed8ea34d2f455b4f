/- Patches: the contracts of the law's same, small, two, of Invert, and of the document's Kept. -/
import Derived.Test.YthbhjecfiiknaaaPtO
import Derived.Test.YthbhjecfiiknaaaPtE
import Derived.Test.YthbhjecfiiknaaaPtF
namespace Go.Proofs.Ythbhjecfiiknaaa
open Go.RowKit
set_option linter.unusedVariables false
set_option maxHeartbeats 4000000 in
set_option maxRecDepth 100000 in
theorem psame_any (A B : Option Addr) (m c d : Nat) (l : List Ch) (w : World) (hA : ChsAt w A l) (hB : ChsAt w B l) (hl : l.length = m) (hm : m ≤ 1000000) :
    Calls Try.prog 18 #[.slice A m c, .slice B m d] w fun e w' => e = .returned (.bool true) ∧ Below w.heap.size w w' := by
  have HA := Lib.hid hA; clear hA
  have HB := Lib.hid hB; clear hB
  have HL := Lib.hid hl; clear hl
  go_enter Try.func18, Try.ntmps18
  go_wp2_with fail
  go_loopg [8] m (fun g i wr => ∃ (j : Nat), i = .int .i64 j ∧ j ≤ m ∧ m - j ≤ g ∧ Below w.heap.size w wr)
  case atStart => exact ⟨0, rfl, by omega, by omega, Below.refl _ _⟩
  case round =>
    obtain ⟨j, rfl, h1, h2, hb⟩ := hrel
    by_cases hlt : j < m
    · have hjl : j < l.length := by rw [HL.out]; exact hlt
      obtain ⟨bA, off, rfl, hbA, d0, d1, d2, d3⟩ := (HA.out.below hb).at1 hjl
      obtain ⟨bB, off2, rfl, hbB, e0, e1, e2, e3⟩ := (HB.out.below hb).at1 hjl
      generalize cth l j = x at *
      have i1 : (0 : Int) ≤ j := by omega
      have i2 : (j : Int) < m := by omega
      have i3 : decide ((m : Int) ≤ (j : Int)) = false := decide_eq_false (by omega)
      have i4 : decide (m ≤ j) = false := decide_eq_false (by omega)
      have MK : Hid (∀ W : World, Below wr.heap.size wr W → (fun W => W.cell? ⟨bA, off + j * 4, none⟩ = some (.int .i64 x.oa) ∧ W.cell? ⟨bA, off + j * 4 + 1, none⟩ = some (.int .i64 x.ob) ∧ W.cell? ⟨bA, off + j * 4 + 2, none⟩ = some (.int .i64 x.na) ∧ W.cell? ⟨bA, off + j * 4 + 3, none⟩ = some (.int .i64 x.nb) ∧ W.cell? ⟨bB, off2 + j * 4, none⟩ = some (.int .i64 x.oa) ∧ W.cell? ⟨bB, off2 + j * 4 + 1, none⟩ = some (.int .i64 x.ob) ∧ W.cell? ⟨bB, off2 + j * 4 + 2, none⟩ = some (.int .i64 x.na) ∧ W.cell? ⟨bB, off2 + j * 4 + 3, none⟩ = some (.int .i64 x.nb) ∧ Below wr.heap.size wr W) W) := fun W hW => ⟨((old_cells hW).1 _ _ hbA).trans d0, ((old_cells hW).1 _ _ hbA).trans d1, ((old_cells hW).1 _ _ hbA).trans d2, ((old_cells hW).1 _ _ hbA).trans d3, ((old_cells hW).1 _ _ hbB).trans e0, ((old_cells hW).1 _ _ hbB).trans e1, ((old_cells hW).1 _ _ hbB).trans e2, ((old_cells hW).1 _ _ hbB).trans e3, hW⟩
      have hW2 : Below wr.heap.size wr wr.drew := (Below.refl _ _).drew
      clear d0 d1 d2 d3 e0 e1 e2 e3
      go_wp2_with fail
      refine wp_region_noPanic ?_
      refine wp_region_held_drew (S := (fun W => W.cell? ⟨bA, off + j * 4, none⟩ = some (.int .i64 x.oa) ∧ W.cell? ⟨bA, off + j * 4 + 1, none⟩ = some (.int .i64 x.ob) ∧ W.cell? ⟨bA, off + j * 4 + 2, none⟩ = some (.int .i64 x.na) ∧ W.cell? ⟨bA, off + j * 4 + 3, none⟩ = some (.int .i64 x.nb) ∧ W.cell? ⟨bB, off2 + j * 4, none⟩ = some (.int .i64 x.oa) ∧ W.cell? ⟨bB, off2 + j * 4 + 1, none⟩ = some (.int .i64 x.ob) ∧ W.cell? ⟨bB, off2 + j * 4 + 2, none⟩ = some (.int .i64 x.na) ∧ W.cell? ⟨bB, off2 + j * 4 + 3, none⟩ = some (.int .i64 x.nb) ∧ Below wr.heap.size wr W)) (by kernel_rfl) (MK.out _ hW2) (fun hHeld => ?_)
      refine wpAnyH_take (i := 0) (v := ?_) rfl (by kernel_rfl) (by kernel_rfl) (by kernel_rfl) (fun _ _ _ h => h) (Or.inl ⟨by rfl, ?_⟩) hHeld ?_
      rotate_left
      · intro w hSw
        (try dsimp only at hSw)
        go_simp
        try with_reducible rfl
      go_simp
      refine wpAnyH_take (i := 1) (v := ?_) rfl (by kernel_rfl) (by kernel_rfl) (by kernel_rfl) (fun _ _ _ h => h) (Or.inl ⟨by rfl, ?_⟩) hHeld ?_
      rotate_left
      · intro w hSw
        (try dsimp only at hSw)
        go_simp
        try with_reducible rfl
      go_simp
      refine wpAnyH_take (i := 2) (v := ?_) rfl (by kernel_rfl) (by kernel_rfl) (by kernel_rfl) (fun _ _ _ h => h) (Or.inl ⟨by rfl, ?_⟩) hHeld ?_
      rotate_left
      · intro w hSw
        (try dsimp only at hSw)
        go_simp
        try with_reducible rfl
      go_simp
      refine wpAnyH_take (i := 3) (v := ?_) rfl (by kernel_rfl) (by kernel_rfl) (by kernel_rfl) (fun _ _ _ h => h) (Or.inl ⟨by rfl, ?_⟩) hHeld ?_
      rotate_left
      · intro w hSw
        (try dsimp only at hSw)
        go_simp
        try with_reducible rfl
      go_simp
      refine wpAnyH_take (i := 4) (v := ?_) rfl (by kernel_rfl) (by kernel_rfl) (by kernel_rfl) (fun _ _ _ h => h) (Or.inl ⟨by rfl, ?_⟩) hHeld ?_
      rotate_left
      · intro w hSw
        (try dsimp only at hSw)
        go_simp
        try with_reducible rfl
      go_simp
      refine wpAnyH_take (i := 5) (v := ?_) rfl (by kernel_rfl) (by kernel_rfl) (by kernel_rfl) (fun _ _ _ h => h) (Or.inl ⟨by rfl, ?_⟩) hHeld ?_
      rotate_left
      · intro w hSw
        (try dsimp only at hSw)
        go_simp
        try with_reducible rfl
      go_simp
      refine wpAnyH_take (i := 6) (v := ?_) rfl (by kernel_rfl) (by kernel_rfl) (by kernel_rfl) (fun _ _ _ h => h) (Or.inl ⟨by rfl, ?_⟩) hHeld ?_
      rotate_left
      · intro w hSw
        (try dsimp only at hSw)
        go_simp
        try with_reducible rfl
      go_simp
      refine wpAnyH_take (i := 7) (v := ?_) rfl (by kernel_rfl) (by kernel_rfl) (by kernel_rfl) (fun _ _ _ h => h) (Or.inl ⟨by rfl, ?_⟩) hHeld ?_
      rotate_left
      · intro w hSw
        (try dsimp only at hSw)
        go_simp
        try with_reducible rfl
      go_simp
      refine wpAnyH_take (i := 8) (v := ?_) rfl (by kernel_rfl) (by kernel_rfl) (by kernel_rfl) (fun _ _ _ h => h) (Or.inl ⟨by rfl, ?_⟩) hHeld ?_
      rotate_left
      · intro w hSw
        (try dsimp only at hSw)
        go_simp
        try with_reducible rfl
      go_simp
      refine wpAnyH_take (i := 9) (v := ?_) rfl (by kernel_rfl) (by kernel_rfl) (by kernel_rfl) (fun _ _ _ h => h) (Or.inl ⟨by rfl, ?_⟩) hHeld ?_
      rotate_left
      · intro w hSw
        (try dsimp only at hSw)
        go_simp
        try with_reducible rfl
      go_simp
      refine wpAnyH_take (i := 10) (v := ?_) rfl (by kernel_rfl) (by kernel_rfl) (by kernel_rfl) (fun _ _ _ h => h) (Or.inl ⟨by rfl, ?_⟩) hHeld ?_
      rotate_left
      · intro w hSw
        (try dsimp only at hSw)
        go_simp
        try with_reducible rfl
      go_simp
      refine wpAnyH_take (i := 11) (v := ?_) rfl (by kernel_rfl) (by kernel_rfl) (by kernel_rfl) (fun _ _ _ h => h) (Or.inl ⟨by rfl, ?_⟩) hHeld ?_
      rotate_left
      · intro w hSw
        (try dsimp only at hSw)
        go_simp
        try with_reducible rfl
      go_simp
      refine wpAnyH_take (i := 12) (v := ?_) rfl (by kernel_rfl) (by kernel_rfl) (by kernel_rfl) (fun _ _ _ h => h) (Or.inl ⟨by rfl, ?_⟩) hHeld ?_
      rotate_left
      · intro w hSw
        (try dsimp only at hSw)
        go_simp
        try with_reducible rfl
      go_simp
      refine wpAnyH_take (i := 13) (v := ?_) rfl (by kernel_rfl) (by kernel_rfl) (by kernel_rfl) (fun _ _ _ h => h) (Or.inl ⟨by rfl, ?_⟩) hHeld ?_
      rotate_left
      · intro w hSw
        (try dsimp only at hSw)
        go_simp
        try with_reducible rfl
      go_simp
      refine wpAnyH_take (i := 14) (v := ?_) rfl (by kernel_rfl) (by kernel_rfl) (by kernel_rfl) (fun _ _ _ h => h) (Or.inl ⟨by rfl, ?_⟩) hHeld ?_
      rotate_left
      · intro w hSw
        (try dsimp only at hSw)
        go_simp
        try with_reducible rfl
      go_simp
      refine wpAnyH_done (by kernel_rfl) ?_ _
      refine NoPanic.normal ?_
      go_wp2
      go_roundg (gk - 1)
      case measure => omega
      case rel => exact ⟨j + 1, by go_num, by omega, by omega, hb.drew⟩
    · have hj : j = m := by omega
      subst hj
      go_wp2
      go_ret
      exact ⟨rfl, hb⟩
set_option maxHeartbeats 4000000 in
set_option maxRecDepth 100000 in
theorem pInvert_any (A : Option Addr) (n cp : Nat) (l : List Ch) (w : World) (hA : ChsAt w A l) (hl : l.length = n) (hn : n ≤ 1000000) :
    Calls Try.prog 25 #[.slice A n cp] w fun e w' => ∃ A' c', e = .returned (.slice A' n c') ∧ ChsAt w' A' (cinv l) ∧ Caps A' n c' ∧ Below w.heap.size w w' := by
  have HA := Lib.hid hA; clear hA
  have HL := Lib.hid hl; clear hl
  have HLI := Lib.hid (show (cinv l).length = n from by unfold cinv; rw [List.length_map]; exact HL.out)
  go_enter Try.func25, Try.ntmps25
  obtain ⟨i0, hi0, hz0, hz1, hz2⟩ := info_parts change_info
  go_wp2_with fail
  go_loopg [3, 8] n (fun g v i wr => ∃ (j : Nat), i = .int .i64 j ∧ j ≤ n ∧ n - j ≤ g ∧ Below w.heap.size w wr ∧ Hid (wr.ownsRow w.heap.size 56 4 v j (cflat ((cinv l).take j))))
  case atStart => exact ⟨0, rfl, by omega, by omega, Below.refl _ _, Lib.hid (World.ownsRow_nil _ _ _ _)⟩
  case round =>
    obtain ⟨j, rfl, j1, j2, hb, hown⟩ := hrel
    have hlt4 := hown.out.lt
    have hszw := hb.size
    by_cases hlt : j < n
    · have hjl : j < l.length := by rw [HL.out]; exact hlt
      have hji : j < (cinv l).length := by rw [HLI.out]; exact hlt
      obtain ⟨bA, off, rfl, hbA, d0, d1, d2, d3⟩ := (HA.out.below hb).at1 hjl
      have hci : cth (cinv l) j = ⟨(cth l j).na, (cth l j).nb, (cth l j).oa, (cth l j).ob⟩ := by simp [cth, cinv, List.getD, hjl]
      have hsf := Lib.hid (show cflat ((cinv l).take (j + 1)) = cflat ((cinv l).take j) ++ [.int .i64 (cth l j).na, .int .i64 (cth l j).nb, .int .i64 (cth l j).oa, .int .i64 (cth l j).ob] from by rw [cth_take hji, cflat_append, hci]; rfl)
      clear hci
      generalize cth l j = c at *
      have i1 : (0 : Int) ≤ j := by omega
      have i2 : (j : Int) < n := by omega
      have a4 := (hb.alloc hb.size (.cells #[.int .i64 c.oa, .int .i64 c.ob, .int .i64 c.na, .int .i64 c.nb] 56)).alloc (by simp; omega) (.cells #[.int .i64 c.na, .int .i64 c.nb, .int .i64 c.oa, .int .i64 c.ob] 56)
      go_wp2_with (at_builtin; refine wpList_append_own _ rfl (.tmp 12) (.tmp 18) _ rfl w.heap.size 56 i0 _ 4 32 Try.underlying22 hi0 hz0 hz1 hz2 rfl (by omega) _ j (cflat ((cinv l).take j)) rfl ((hown.out.alloc _).alloc _) ⟨wr.heap.size + 1, 0, none⟩ 1 1 [.int .i64 c.na, .int .i64 c.nb, .int .i64 c.oa, .int .i64 c.ob] rfl rfl (World.news_of_block (cs := #[.int .i64 c.na, .int .i64 c.nb, .int .i64 c.oa, .int .i64 c.ob]) (t := 56) (fr := (0, 0)) (heap_alloc2_new wr _ _)) (by simp [Value.oneCell']) (by simp only [maxLen]; omega) (by omega) (by simp; omega) ?_; intro v4 w4 hown4 hg4 hnil4; clear hnil4)
      have hb4 : Below w.heap.size w w4 := a4.grown hg4 (by simp; omega) (fun k hk => (hlt4 k hk).1)
      have HO4 := Lib.hid hown4
      clear hown4 hg4 a4
      go_wp2
      go_roundg (gk - 1)
      case measure => omega
      case rel => exact ⟨j + 1, by go_num, by omega, by omega, hb4, Lib.hid (by rw [hsf.out]; exact HO4.out)⟩
    · have hj : j = n := by omega
      subst hj
      obtain ⟨A7, c7, e7, hI7, hl7, hC7⟩ := chs_of_own (o := cinv l) (by have := hown.out; rw [List.take_of_length_le (by rw [HLI.out]; omega)] at this; exact this)
      have HI7 := Lib.hid hI7
      have HC7 := Lib.hid hC7
      subst e7
      clear hI7 hC7 hl7 hown
      go_wp2
      go_ret
      exact ⟨A7, c7, rfl, HI7.out, HC7.out, hb⟩
set_option maxHeartbeats 4000000 in
set_option maxRecDepth 100000 in
theorem rKept_any (A : Option Addr) (m cp : Nat) (l : List Ch) (at_ : Int) (w : World) (hA : ChsAt w A l) (hl : l.length = m) (hm : m ≤ 1000000) (hr : ∀ c ∈ l, (0 ≤ c.oa ∧ c.oa ≤ c.ob ∧ c.ob ≤ M40) ∧ 0 ≤ c.na ∧ c.na ≤ c.nb ∧ c.nb ≤ M40) (h0 : -10000000000000 ≤ at_) (h1 : at_ ≤ 10000000000000) :
    Calls Try.prog 24 #[.slice A m cp, .int .i64 at_] w fun e w' => e = .returned (.int .i64 (kp 0 0 l at_)) ∧ Below w.heap.size w w' := by
  have HA := Lib.hid hA
  have HL := Lib.hid hl
  have HN := Lib.hid hr
  clear hA hl hr
  obtain ⟨R, hR⟩ : ∃ R, R = kp 0 0 l at_ := ⟨_, rfl⟩
  rw [← hR]
  have HR := Lib.hid hR
  clear hR
  go_enter Try.func24, Try.ntmps24
  go_wp2_with fail
  go_loopg [5, 10] m (fun g z i wr => ∃ (j : Nat) (p q : Int), i = .int .i64 j ∧ j ≤ m ∧ m - j ≤ g ∧ Below w.heap.size w wr ∧ z = .int .i64 (q - p) ∧ -1099511627776 ≤ q - p ∧ q - p ≤ 1099511627776 ∧ Hid (R = kp p q (l.drop j) at_))
  case atStart => exact ⟨0, 0, 0, rfl, by omega, by omega, Below.refl _ _, rfl, by omega, by omega, Lib.hid HR.out⟩
  case round =>
    obtain ⟨j, p, q, rfl, j1, j2, hb, rfl, s1, s2, hmp⟩ := hrel
    have w1 : IntKind.i64.wrap (at_ + (q - p)) = at_ + (q - p) := IntWalk.i64_in _ (by omega)
    by_cases hlt : j < m
    · have hjl : j < l.length := by rw [HL.out]; exact hlt
      obtain ⟨bA, off, rfl, hbA, d0, d1, d2, d3⟩ := (HA.out.below hb).at1 hjl
      have hmp2 := hmp.out
      rw [cth_drop hjl, kp] at hmp2
      obtain ⟨⟨n1, n2, n3⟩, n4, n5, n6⟩ := HN.out _ (cth_mem hjl)
      clear hmp
      generalize cth l j = c at *
      unfold M40 at n3 n6
      have i1 : (0 : Int) ≤ j := by omega
      have i2 : (j : Int) < m := by omega
      have x3 : Below wr.heap.size wr (wr.alloc (.cells #[.int .i64 c.oa, .int .i64 c.ob, .int .i64 c.na, .int .i64 c.nb] 57)) := (Below.refl _ _).alloc (Nat.le_refl _) _
      have a3 := hb.trans (x3.mono hb.size)
      have w2 : IntKind.i64.wrap (c.nb - c.ob) = c.nb - c.ob := IntWalk.i64_in _ (by omega)
      by_cases b1 : at_ < c.oa
      · rw [if_pos b1] at hmp2
        have HM := Lib.hid hmp2; clear hmp2
        have k3 : decide (at_ < c.oa) = true := decide_eq_true b1
        go_wp2
        go_ret
        exact ⟨by rw [HM.out]; try rfl, a3⟩
      · rw [if_neg b1] at hmp2
        have k3 : decide (at_ < c.oa) = false := decide_eq_false b1
        by_cases b2 : at_ < c.ob
        · rw [if_pos b2] at hmp2
          have HM := Lib.hid hmp2; clear hmp2
          have k4 : decide (at_ < c.ob) = true := decide_eq_true b2
          go_wp2
          go_ret
          exact ⟨by rw [HM.out]; try rfl, a3⟩
        · rw [if_neg b2] at hmp2
          have HM := Lib.hid hmp2; clear hmp2
          have k4 : decide (at_ < c.ob) = false := decide_eq_false b2
          go_wp2
          go_roundg (gk - 1)
          case measure => omega
          case rel => exact ⟨j + 1, c.ob, c.nb, by go_num, by omega, by omega, a3, by go_num, by omega, by omega, HM⟩
    · have hj : j = m := by omega
      have hmp2 := hmp.out
      rw [List.drop_of_length_le (by rw [HL.out]; omega), kp] at hmp2
      have HM := Lib.hid hmp2; clear hmp2
      go_wp2
      go_ret
      exact ⟨by rw [HM.out]; try rfl, hb⟩
end Go.Proofs.Ythbhjecfiiknaaa
