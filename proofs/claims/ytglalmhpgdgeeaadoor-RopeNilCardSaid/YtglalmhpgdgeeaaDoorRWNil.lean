/- The law RopeNil. -/
import Derived.Test.YtglalmhpgdgeeaaDoorRWide
import Derived.Test.YtglalmhpgdgeeaaDoorRopeByte
import Derived.Test.YtglalmhpgdgeeaaDoorRAt
import Derived.Test.YtglalmhpgdgeeaaDoorRHigh
namespace Go.Proofs.YtglalmhpgdgeeaaDoor
open Go.RowKit
set_option maxHeartbeats 4000000 in
set_option maxRecDepth 100000 in
theorem pints_any (A B : Option Addr) (m c d : Nat) (l : List Int) (w : World) (hA : IntsAt .i64 w A l) (hB : IntsAt .i64 w B l) (hl : l.length = m) (hm : m ≤ 100000) :
    Calls Tryd.prog 10 #[.slice A m c, .slice B m d] w fun e w' => e = .returned (.bool true) ∧ Below w.heap.size w w' := by
  have HA := Lib.hid hA; clear hA
  have HB := Lib.hid hB; clear hB
  have HL := Lib.hid hl; clear hl
  go_enter Tryd.func10, Tryd.ntmps10
  go_wp2_with fail
  go_loopg [8] m (fun g i wr => ∃ (j : Nat), i = .int .i64 j ∧ j ≤ m ∧ m - j ≤ g ∧ Below w.heap.size w wr)
  case atStart => exact ⟨0, rfl, by omega, by omega, Below.refl _ _⟩
  case round =>
    obtain ⟨j, rfl, h1, h2, hb⟩ := hrel
    by_cases hlt : j < m
    · have hjl : j < l.length := by rw [HL.out]; exact hlt
      obtain ⟨bA, off, rfl, hbA, hcA⟩ := (HA.out.below hb) (by omega)
      obtain ⟨bB, off2, rfl, hbB, hcB⟩ := (HB.out.below hb) (by omega)
      have d0 := hcA j hjl
      have e0 := hcB j hjl
      clear hcA hcB
      generalize nth l j = x at *
      have i1 : (0 : Int) ≤ j := by omega
      have i2 : (j : Int) < m := by omega
      have i3 : decide ((m : Int) ≤ (j : Int)) = false := decide_eq_false (by omega)
      have i4 : decide (m ≤ j) = false := decide_eq_false (by omega)
      have MK : Hid (∀ W : World, Below wr.heap.size wr W → (fun W => W.cell? ⟨bA, off + j, none⟩ = some (.int .i64 x) ∧ W.cell? ⟨bB, off2 + j, none⟩ = some (.int .i64 x) ∧ Below wr.heap.size wr W) W) := fun W hW => ⟨((old_cells hW).1 _ _ hbA).trans d0, ((old_cells hW).1 _ _ hbB).trans e0, hW⟩
      have hW2 : Below wr.heap.size wr wr.drew := (Below.refl _ _).drew
      clear d0 e0
      go_wp2_with fail
      refine wp_region_noPanic ?_
      refine wp_region_held_drew (S := (fun W => W.cell? ⟨bA, off + j, none⟩ = some (.int .i64 x) ∧ W.cell? ⟨bB, off2 + j, none⟩ = some (.int .i64 x) ∧ Below wr.heap.size wr W)) (by kernel_rfl) (MK.out _ hW2) (fun hHeld => ?_)
      refine wpAnyH_take (i := 0) (v := ?_) rfl (by kernel_rfl) (by kernel_rfl) (by kernel_rfl) (fun _ _ _ h => h) (Or.inl ⟨by rfl, ?_⟩) hHeld ?_
      rotate_left
      · intro w hSw
        (try dsimp only at hSw)
        go_simp
        try with_reducible rfl
      go_simp
      refine wpAnyH_take (i := 1) (v := ?_) rfl (by kernel_rfl) (by kernel_rfl) (by kernel_rfl) (fun _ _ _ h => h) (Or.inl ⟨by rfl, ?_⟩) hHeld ?_
      rotate_left
      · intro w hSw
        (try dsimp only at hSw)
        go_simp
        try with_reducible rfl
      go_simp
      refine wpAnyH_take (i := 2) (v := ?_) rfl (by kernel_rfl) (by kernel_rfl) (by kernel_rfl) (fun _ _ _ h => h) (Or.inl ⟨by rfl, ?_⟩) hHeld ?_
      rotate_left
      · intro w hSw
        (try dsimp only at hSw)
        go_simp
        try with_reducible rfl
      go_simp
      refine wpAnyH_take (i := 3) (v := ?_) rfl (by kernel_rfl) (by kernel_rfl) (by kernel_rfl) (fun _ _ _ h => h) (Or.inl ⟨by rfl, ?_⟩) hHeld ?_
      rotate_left
      · intro w hSw
        (try dsimp only at hSw)
        go_simp
        try with_reducible rfl
      go_simp
      refine wpAnyH_take (i := 4) (v := ?_) rfl (by kernel_rfl) (by kernel_rfl) (by kernel_rfl) (fun _ _ _ h => h) (Or.inl ⟨by rfl, ?_⟩) hHeld ?_
      rotate_left
      · intro w hSw
        (try dsimp only at hSw)
        go_simp
        try with_reducible rfl
      go_simp
      refine wpAnyH_take (i := 5) (v := ?_) rfl (by kernel_rfl) (by kernel_rfl) (by kernel_rfl) (fun _ _ _ h => h) (Or.inl ⟨by rfl, ?_⟩) hHeld ?_
      rotate_left
      · intro w hSw
        (try dsimp only at hSw)
        go_simp
        try with_reducible rfl
      go_simp
      refine wpAnyH_take (i := 6) (v := ?_) rfl (by kernel_rfl) (by kernel_rfl) (by kernel_rfl) (fun _ _ _ h => h) (Or.inl ⟨by rfl, ?_⟩) hHeld ?_
      rotate_left
      · intro w hSw
        (try dsimp only at hSw)
        go_simp
        try with_reducible rfl
      go_simp
      refine wpAnyH_take (i := 7) (v := ?_) rfl (by kernel_rfl) (by kernel_rfl) (by kernel_rfl) (fun _ _ _ h => h) (Or.inl ⟨by rfl, ?_⟩) hHeld ?_
      rotate_left
      · intro w hSw
        (try dsimp only at hSw)
        go_simp
        try with_reducible rfl
      go_simp
      refine wpAnyH_take (i := 8) (v := ?_) rfl (by kernel_rfl) (by kernel_rfl) (by kernel_rfl) (fun _ _ _ h => h) (Or.inl ⟨by rfl, ?_⟩) hHeld ?_
      rotate_left
      · intro w hSw
        (try dsimp only at hSw)
        go_simp
        try with_reducible rfl
      go_simp
      refine wpAnyH_take (i := 9) (v := ?_) rfl (by kernel_rfl) (by kernel_rfl) (by kernel_rfl) (fun _ _ _ h => h) (Or.inl ⟨by rfl, ?_⟩) hHeld ?_
      rotate_left
      · intro w hSw
        (try dsimp only at hSw)
        go_simp
        try with_reducible rfl
      go_simp
      refine wpAnyH_take (i := 10) (v := ?_) rfl (by kernel_rfl) (by kernel_rfl) (by kernel_rfl) (fun _ _ _ h => h) (Or.inl ⟨by rfl, ?_⟩) hHeld ?_
      rotate_left
      · intro w hSw
        (try dsimp only at hSw)
        go_simp
        try with_reducible rfl
      go_simp
      refine wpAnyH_take (i := 11) (v := ?_) rfl (by kernel_rfl) (by kernel_rfl) (by kernel_rfl) (fun _ _ _ h => h) (Or.inl ⟨by rfl, ?_⟩) hHeld ?_
      rotate_left
      · intro w hSw
        (try dsimp only at hSw)
        go_simp
        try with_reducible rfl
      go_simp
      refine wpAnyH_take (i := 12) (v := ?_) rfl (by kernel_rfl) (by kernel_rfl) (by kernel_rfl) (fun _ _ _ h => h) (Or.inl ⟨by rfl, ?_⟩) hHeld ?_
      rotate_left
      · intro w hSw
        (try dsimp only at hSw)
        go_simp
        try with_reducible rfl
      go_simp
      refine wpAnyH_take (i := 13) (v := ?_) rfl (by kernel_rfl) (by kernel_rfl) (by kernel_rfl) (fun _ _ _ h => h) (Or.inl ⟨by rfl, ?_⟩) hHeld ?_
      rotate_left
      · intro w hSw
        (try dsimp only at hSw)
        go_simp
        try with_reducible rfl
      go_simp
      refine wpAnyH_take (i := 14) (v := ?_) rfl (by kernel_rfl) (by kernel_rfl) (by kernel_rfl) (fun _ _ _ h => h) (Or.inl ⟨by rfl, ?_⟩) hHeld ?_
      rotate_left
      · intro w hSw
        (try dsimp only at hSw)
        go_simp
        try with_reducible rfl
      go_simp
      refine wpAnyH_done (by kernel_rfl) ?_ _
      refine NoPanic.normal ?_
      go_wp2
      go_roundg (gk - 1)
      case measure => omega
      case rel => exact ⟨j + 1, by go_num, by omega, by omega, hb.drew⟩
    · have hj : j = m := by omega
      subst hj
      go_wp2
      go_ret
      exact ⟨rfl, hb⟩
theorem ints_of_raw {w : World} {b : Nat} {l : List Int} {cs : Array Value} {t : TypeId} (h : RawAt t w b cs) (hc : cs.toList = l.map (.int .i64)) : IntsAt .i64 w (some ⟨b, 0, none⟩) l := by
  intro _
  refine ⟨b, 0, rfl, RawAt.lt h, fun k hk => ?_⟩
  rw [RawAt.cell h, ← Array.getElem?_toList, hc, Nat.zero_add]
  simp [nth, List.getD, hk]
theorem nl_dec : dec ⟨#[97, 98]⟩ = [97, 98] := by decide
set_option maxHeartbeats 8000000 in
set_option maxRecDepth 100000 in
theorem ropeNil_walk (at_ : Int) (w : World) (_ha : Lit.wf (.int .i64 at_)) : Calls Tryd.prog 3 #[.int .i64 at_] w fun e w' => e = .returned (.bool true) ∧ Below w.heap.size w w' := by
  clear _ha
  have CW := Lib.hid fun W => wide_any W
  obtain ⟨ev, hev⟩ : ∃ ev : Int, (at_ = 0 ∧ ev = 0) ∨ ((at_ == 0) = false ∧ ev = 1) := by
    by_cases h : at_ = 0
    · exact ⟨0, .inl ⟨h, rfl⟩⟩
    · exact ⟨1, .inr ⟨by simpa using h, rfl⟩⟩
  have CA := Lib.hid fun (W : World) => (runeAt_any (RP.none_ W) at_).mono fun e w' ⟨a, c, hi, he, hb⟩ => (by
    have : a = 0 ∧ c = ev := hi.unique (by
      rcases hev with ⟨rfl, rfl⟩ | ⟨h, rfl⟩
      · exact .inr (.inl ⟨0, Nat.zero_le _, by simp [szl_nil], rfl, rfl⟩)
      · exact .inl ⟨fun h2 => by rw [show szl ([] : List (List Int)).flatten 0 = 0 from szl_nil 0] at h2; exact absurd (show at_ = 0 by omega) (by simpa using h), rfl, rfl⟩)
    obtain ⟨rfl, rfl⟩ := this
    exact ⟨he, hb⟩ : e = Ending.returned (.tuple #[.int .i64 0, .int .i64 ev]) ∧ Below W.heap.size W w')
  have CB := Lib.hid fun (W : World) => (byteAt_any (RP.none_ W) at_).mono fun e w' ⟨a, c, hi, he, hb⟩ => (by
    have : a = 0 ∧ c = ev := hi.unique (by
      rcases hev with ⟨rfl, rfl⟩ | ⟨h, rfl⟩
      · exact .inr ⟨Int.le_refl _, Int.le_refl _, by simp [szl_nil], rfl⟩
      · exact .inl ⟨fun h2 => by simp at h2; exact absurd (show at_ = 0 by omega) (by simpa using h), rfl, rfl⟩)
    obtain ⟨rfl, rfl⟩ := this
    exact ⟨he, hb⟩ : e = Ending.returned (.tuple #[.int .i64 0, .int .i64 ev]) ∧ Below W.heap.size W w')
  have CC := Lib.hid fun (W : World) => rat_no (RP.none_ W) at_ (fun h => by simp at h; omega)
  have CR := Lib.hid fun (W : World) => (rrepl_any (RP.none_ W) 0 0 (Nat.le_refl _) (Nat.le_refl _) ⟨#[97, 98]⟩ (by decide) (by rw [nl_dec]; decide)).mono fun e w' ⟨b, ps, h, he, hR, hf, hb⟩ => (⟨b, ps, h, he, hR, by rw [nl_dec] at hf; exact hf, hb⟩ : ∃ (b : Nat) (ps : List (List Int)) (h : Nat), e = Ending.returned (.tuple #[.pointer (some ⟨b, 0, none⟩), .int .i64 0]) ∧ RP w' (some ⟨b, 0, none⟩) ps h ∧ ps.flatten = [97, 98] ∧ Below W.heap.size W w')
  have CH := Lib.hid fun (W : World) => (behind_any (RP.none_ W) 0).mono fun e w' ⟨a, c, hi, he, hb⟩ => (by
    obtain ⟨rfl, rfl⟩ := hi.unique (show BehindIs [] 0 0 0 from .inr ⟨by decide, by decide, 0, ⟨Nat.zero_le _, fun i hi => by omega, by rw [List.take_zero, szl_nil]; exact Int.le_refl _⟩, rfl, rfl⟩)
    exact ⟨he, hb⟩ : e = Ending.returned (.tuple #[.int .i64 0, .int .i64 0]) ∧ Below W.heap.size W w')
  have CT0 := Lib.hid fun (W : World) => (by have := rtext_any (RP.none_ W); rwa [show txt ([] : List (List Int)).flatten = ⟨#[]⟩ from by decide] at this : Calls Tryd.prog 9 #[.pointer none] W fun e w' => e = .returned (.string ⟨#[]⟩) ∧ Below W.heap.size W w')
  have C1 := Lib.hid fun (W : World) => (by have := rrunes_any (RP.none_ W); exact this : Calls Tryd.prog 11 #[.pointer none] W fun e w' => e = .returned (.int .i64 0) ∧ Below W.heap.size W w')
  have C2 := Lib.hid fun (W : World) => (by have := rbytes_any (RP.none_ W); rwa [show szl ([] : List (List Int)).flatten 0 = 0 from szl_nil 0] at this : Calls Tryd.prog 12 #[.pointer none] W fun e w' => e = .returned (.int .i64 0) ∧ Below W.heap.size W w')
  have C3 := Lib.hid fun (W : World) => (by have := rbreaks_any (RP.none_ W); exact this : Calls Tryd.prog 13 #[.pointer none] W fun e w' => e = .returned (.int .i64 0) ∧ Below W.heap.size W w')
  have C4 := Lib.hid fun (W : World) => (by have := rheight_any (RP.none_ W); exact this : Calls Tryd.prog 14 #[.pointer none] W fun e w' => e = .returned (.int .i64 0) ∧ Below W.heap.size W w')
  have CI := Lib.hid fun (W : World) => (by
    obtain ⟨R0, R1, hb, hz⟩ := new2 W 3 3 #[.int .i64 0, .int .i64 0, .int .i64 0, .int .i64 0] #[.int .i64 0, .int .i64 0, .int .i64 0, .int .i64 0]
    exact (pints_any (some ⟨W.heap.size, 0, none⟩) (some ⟨W.heap.size + 1, 0, none⟩) 4 4 4 [0, 0, 0, 0] _ (ints_of_raw R0 rfl) (ints_of_raw R1 rfl) rfl (by decide)).mono fun e w' ⟨he, hb2⟩ => ⟨he, hb.trans (hb2.mono hb.size)⟩ : Calls Tryd.prog 10 #[.slice (some ⟨W.heap.size, 0, none⟩) 4 4, .slice (some ⟨W.heap.size + 1, 0, none⟩) 4 4] ((W.alloc (.cells #[.int .i64 0, .int .i64 0, .int .i64 0, .int .i64 0] 3)).alloc (.cells #[.int .i64 0, .int .i64 0, .int .i64 0, .int .i64 0] 3)) fun e w' => e = .returned (.bool true) ∧ Below W.heap.size W w')
  rcases hev with ⟨rfl, rfl⟩ | ⟨hat, rfl⟩
  all_goals
    go_enter Tryd.func3, Tryd.ntmps3
    go_wp2_with fail
    refine (CA.out _).mono ?_
    rintro e w1 ⟨rfl, hb1⟩
    go_wp2_with fail
    refine (CB.out _).mono ?_
    rintro e w2 ⟨rfl, hb2⟩
    have a2 := hb1.trans (hb2.mono hb1.size)
    go_wp2_with fail
    refine (CC.out _).mono ?_
    rintro e w3 ⟨rfl, hb3⟩
    have a3 := a2.trans (hb3.mono a2.size)
    go_wp2_with fail
    refine (CR.out _).mono ?_
    rintro e w4 ⟨b4, ps4, h4, rfl, hR4, hf4, hb4⟩
    have a4 := a3.trans (hb4.mono a3.size)
    have HR4 := Lib.hid hR4
    have HF4 := Lib.hid hf4
    clear hR4 hf4
    go_wp2_with fail
    refine (CH.out _).mono ?_
    rintro e w5 ⟨rfl, hb5⟩
    have a5 := a4.trans (hb5.mono a4.size)
    have CT := Lib.hid (by
      have := rtext_any (HR4.out.below hb5)
      rwa [HF4.out, show txt [97, 98] = ⟨#[97, 98]⟩ from by decide] at this : Calls Tryd.prog 9 #[.pointer (some ⟨b4, 0, none⟩)] w5 fun e w' => e = .returned (.string ⟨#[97, 98]⟩) ∧ Below w5.heap.size w5 w')
    go_wp2_with fail
    refine CT.out.mono ?_
    rintro e w6 ⟨rfl, hb6⟩
    have a6 := a5.trans (hb6.mono a5.size)
    go_wp2_with fail
    refine (CT0.out _).mono ?_
    rintro e w7 ⟨rfl, hb7⟩
    have a7 := a6.trans (hb7.mono a6.size)
    go_wp2_with fail
    refine (C1.out _).mono ?_
    rintro e w8 ⟨rfl, hb8⟩
    have a8 := a7.trans (hb8.mono a7.size)
    go_wp2_with fail
    refine (C2.out _).mono ?_
    rintro e w9 ⟨rfl, hb9⟩
    have a9 := a8.trans (hb9.mono a8.size)
    go_wp2_with fail
    refine (C3.out _).mono ?_
    rintro e w10 ⟨rfl, hb10⟩
    have a10 := a9.trans (hb10.mono a9.size)
    go_wp2_with fail
    refine (C4.out _).mono ?_
    rintro e w11 ⟨rfl, hb11⟩
    have a11 := a10.trans (hb11.mono a10.size)
    go_wp2_with fail
    refine (CI.out _).mono ?_
    rintro e w12 ⟨rfl, hb12⟩
    have a12 := a11.trans (hb12.mono a11.size)
    go_wp2_with fail
    refine (CW.out _).mono ?_
    rintro e w13 ⟨rfl, hb13⟩
    go_wp2_with fail
    go_ret
    exact ⟨rfl, a12.trans (hb13.mono a12.size)⟩
end Go.Proofs.YtglalmhpgdgeeaaDoor
