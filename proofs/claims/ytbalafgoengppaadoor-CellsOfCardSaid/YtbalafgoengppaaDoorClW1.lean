/- The law CellsStops. -/
import Derived.Test.YtbalafgoengppaaDoorClH
import Derived.Test.YtbalafgoengppaaDoorClR
namespace Go.Proofs.YtbalafgoengppaaDoor
open Go.RowKit
set_option linter.unusedVariables false
def encB (b : Bool) : List Value := [.bool b]
theorem encB_len (b : Bool) : (encB b).length = 1 := rfl
theorem kfl_encB (l : List Bool) : kfl encB l = l.map .bool := by
  induction l with
  | nil => rfl
  | cons x l ih => rw [kfl_cons, ih]; rfl
/-- Bools, a cell each. -/
theorem bools_of_own {w : World} {base n : Nat} {e : TypeId} {v : Value} {l : List Bool} (h : w.ownsRow base e 1 v n (l.map .bool)) : ∃ A c, v = .slice A n c ∧ RowsAt encB 1 w A l ∧ l.length = n ∧ Caps A n c := by
  rw [← kfl_encB] at h
  exact rows_of_own encB_len (by omega) h
theorem bool_at {w : World} {A : Option Addr} {l : List Bool} (h : RowsAt encB 1 w A l) {j : Nat} {b : Bool} (hj : l[j]? = some b) : ∃ bS offS, A = some ⟨bS, offS, none⟩ ∧ bS < w.heap.size ∧ w.cell? ⟨bS, offS + j, none⟩ = some (.bool b) := by
  obtain ⟨hlt, he⟩ := List.getElem?_eq_some_iff.1 hj
  obtain ⟨bS, offS, e, h1, h2⟩ := h.at1 hlt
  refine ⟨bS, offS, e, h1, ?_⟩
  have := h2 0 (by omega)
  rw [Nat.mul_one, Nat.add_zero] at this
  rw [this, he]
  rfl
set_option maxHeartbeats 8000000 in
set_option maxRecDepth 100000 in
theorem cellsStops_walk (A : Option Addr) (n c : Nat) (l : List Cl) (w : World) (h : Tabs w) (hA : RowsAt encC 4 w A l) (hl : l.length = n) (hn : n ≤ maxLen) (_ : Caps A n c) (_ : ∀ s ∈ l, ClOk s) :
    Calls Tryd.prog 9 #[.slice A n c] w fun e w' => e = .returned (.bool true) ∧ Below w.heap.size w w' := by
  unfold maxLen at hn
  have C4 := Lib.hid fun W (hb : Below w.heap.size w W) => four_any W (h.below hb)
  have HA := Lib.hid hA
  have HL := Lib.hid hl
  clear h hA hl
  by_cases g1 : 300 < n
  · go_enter Tryd.func9, Tryd.ntmps9
    go_wp2_with fail
    with_reducible refine (C4.out _ (Below.refl _ _)).mono ?_
    rintro e w1 ⟨rfl, hb1⟩
    go_wp2
    go_ret
    exact ⟨rfl, hb1⟩
  · have CS := Lib.hid (cStops_any A n c l w HA.out HL.out (by omega))
    go_enter Tryd.func9, Tryd.ntmps9
    go_wp2_with fail
    with_reducible refine (CS.out).mono ?_
    rintro e w1 ⟨v1, rfl, o1, hb1⟩
    obtain ⟨A1, c1, rfl, R1, _, _⟩ := bools_of_own o1
    have HR1 := Lib.hid R1
    have HB1 := Lib.hid hb1
    clear o1 R1 hb1 CS
    go_wp2_with fail
    go_loopg [3, 5, 6, 20] n (fun g s x y i wr => ∃ (j : Nat) (t : Int), i = .int .i64 j ∧ s = .int .i64 t ∧ j ≤ n ∧ n - j ≤ g ∧ Hid (t = wsum (l.take j)) ∧ Hid (∀ x ∈ l.take j, 0 ≤ x.wd ∧ x.wd ≤ 1099511627776) ∧ Hid (Below w.heap.size w wr) ∧ Hid (Below w1.heap.size w1 wr))
    case atStart => exact ⟨0, 0, rfl, rfl, by omega, by omega, Lib.hid (by simp [wsum]), Lib.hid (fun x hx => absurd hx (by simp)), HB1, Lib.hid (Below.refl _ _)⟩
    case round =>
      obtain ⟨j, t, rfl, rfl, h1, h2, ht, hwb, hb, hbs⟩ := hrel
      by_cases hlt : j < n
      · have hjl : j < l.length := by rw [HL.out]; exact hlt
        have CST := Lib.hid fun W (hW : Below w.heap.size w W) => rStop_any A n c l j W (HA.out.below hW) HL.out (by omega) hlt
        obtain ⟨bA, off, rfl, hbA, d0, d1, d2, d3⟩ := (HA.out.below hb.out).cell4 hjl
        obtain ⟨bS, offS, rfl, hbS, es⟩ := bool_at (HR1.out.below hbs.out) (stL_at hjl)
        have hw := wsum_take hjl
        rw [← ht.out] at hw
        have ht1 := wsum_bd (l.take j) hwb.out
        rw [← ht.out, List.length_take, HL.out] at ht1
        have b1 : 0 ≤ t := ht1.1
        have b2 : t ≤ 1099511627776 * 300 := by have := ht1.2; omega
        have HTK := Lib.hid (List.take_succ_eq_append_getElem hjl)
        have HW := Lib.hid hw.symm
        clear ht1 ht hw
        generalize l[j] = o at *
        generalize stopAt l j = sb at *
        obtain ⟨r, kd, wd, p⟩ := o
        simp only at d0 d1 d2 d3 HW
        have i1 : (0 : Int) ≤ j := by omega
        have i2 : (j : Int) < n := by omega
        have x3 : Below wr.heap.size wr (wr.alloc (.cells #[.int .i32 r, .int .i64 kd, .int .i64 wd, .int .i64 p] 58)) := (Below.refl _ _).alloc (Nat.le_refl _) _
        have HR3 : Hid (RawAt 58 (wr.alloc (.cells #[.int .i32 r, .int .i64 kd, .int .i64 wd, .int .i64 p] 58)) wr.heap.size #[.int .i32 r, .int .i64 kd, .int .i64 wd, .int .i64 p]) := Lib.hid (heap_alloc_new wr _)
        have HSB : Hid ((wr.alloc (.cells #[.int .i32 r, .int .i64 kd, .int .i64 wd, .int .i64 p] 58)).cell? ⟨bS, offS + j, none⟩ = some (.bool sb)) := Lib.hid (((old_cells x3).1 _ _ hbS).trans es)
        have HNB : Hid (bS < (wr.alloc (.cells #[.int .i32 r, .int .i64 kd, .int .i64 wd, .int .i64 p] 58)).heap.size) := Lib.hid (Nat.lt_of_lt_of_le hbS x3.size)
        have HBW := Lib.hid (hb.out.trans (x3.mono hb.out.size))
        have HBS := Lib.hid (hbs.out.trans (x3.mono hbs.out.size))
        clear x3 hb hbs es hbS
        by_cases q1 : wd < 0
        · have k1 : decide (wd < 0) = true := decide_eq_true q1
          have HB3 := HBW
          go_wp2_with fail
          with_reducible refine (C4.out _ HB3.out).mono ?_
          rintro e w8 ⟨rfl, hb8⟩
          have HB8 := Lib.hid (HB3.out.trans (hb8.mono HB3.out.size))
          clear hb8
          go_wp2
          go_ret
          exact ⟨rfl, HB8.out⟩
        · have k1 : decide (wd < 0) = false := decide_eq_false q1
          by_cases q2 : 1099511627776 < wd
          · have k2 : decide (1099511627776 < wd) = true := decide_eq_true q2
            have HB3 := HBW
            go_wp2_with fail
            with_reducible refine (C4.out _ HB3.out).mono ?_
            rintro e w8 ⟨rfl, hb8⟩
            have HB8 := Lib.hid (HB3.out.trans (hb8.mono HB3.out.size))
            clear hb8
            go_wp2
            go_ret
            exact ⟨rfl, HB8.out⟩
          · have k2 : decide (1099511627776 < wd) = false := decide_eq_false q2
            have HWB : Hid (∀ x ∈ l.take (j + 1), 0 ≤ x.wd ∧ x.wd ≤ 1099511627776) := Lib.hid (by
              rw [HTK.out]
              intro x hx
              rcases List.mem_append.1 hx with hx | hx
              · exact hwb.out x hx
              · rw [List.mem_singleton.1 hx]; simp only; omega)
            have w1' : 0 ≤ wd := by omega
            have w2' : wd ≤ 1099511627776 := by omega
            clear hwb q1 q2
            by_cases r1 : r = 32
            · subst r1
              have CBL := Lib.hid fun W => cBlank_any ⟨32, kd, wd, p⟩ true (by simp) W
              simp only at CBL
              go_wp2_with fail
              generalize wr.alloc (.cells #[.int .i32 32, .int .i64 kd, .int .i64 wd, .int .i64 p] 58) = W3 at *
              clear d0 d1 d2 d3 hbA
              generalize wr.heap.size = N at *
              have MK : Hid (∀ W : World, Below W3.heap.size W3 W → (fun W => W.cell? ⟨N, 0, none⟩ = some (.int .i32 32) ∧ W.cell? ⟨N, 1, none⟩ = some (.int .i64 kd) ∧ W.cell? ⟨N, 2, none⟩ = some (.int .i64 wd) ∧ W.cell? ⟨N, 3, none⟩ = some (.int .i64 p) ∧ W.cell? ⟨bS, offS + j, none⟩ = some (.bool sb)) W) := fun W hW => ⟨RawAt.cell (HR3.out.below hW HR3.out.lt) 0, RawAt.cell (HR3.out.below hW HR3.out.lt) 1, RawAt.cell (HR3.out.below hW HR3.out.lt) 2, RawAt.cell (HR3.out.below hW HR3.out.lt) 3, ((old_cells hW).1 _ _ HNB.out).trans HSB.out⟩
              have hW2 : Below W3.heap.size W3 W3.drew := (Below.refl _ _).drew
              have CST1 := Lib.hid (CST.out W3.drew HBW.out.drew)
              clear CST
              refine wp_region_noPanic ?_
              refine wp_region_held_drew (S := ((fun W => W.cell? ⟨N, 0, none⟩ = some (.int .i32 32) ∧ W.cell? ⟨N, 1, none⟩ = some (.int .i64 kd) ∧ W.cell? ⟨N, 2, none⟩ = some (.int .i64 wd) ∧ W.cell? ⟨N, 3, none⟩ = some (.int .i64 p) ∧ W.cell? ⟨bS, offS + j, none⟩ = some (.bool sb)))) (by kernel_rfl) (MK.out _ hW2) (fun hHeld => ?_)
              refine wpAnyH_take (i := 0) (v := ?_) rfl (by kernel_rfl) (by kernel_rfl) (by kernel_rfl) (fun _ _ _ h => h) (Or.inl ⟨by rfl, ?_⟩) hHeld ?_
              rotate_left
              · intro w hSw
                (try dsimp only at hSw)
                go_simp
                try with_reducible rfl
              go_simp
              refine wpAnyH_take (i := 1) (v := ?_) rfl (by kernel_rfl) (by kernel_rfl) (by kernel_rfl) (fun _ _ _ h => h) (Or.inl ⟨by rfl, ?_⟩) hHeld ?_
              rotate_left
              · intro w hSw
                (try dsimp only at hSw)
                go_simp
                try with_reducible rfl
              go_simp
              refine wpAnyH_take (i := 2) (v := ?_) rfl (by kernel_rfl) (by kernel_rfl) (by kernel_rfl) (fun _ _ _ h => h) (Or.inl ⟨by rfl, ?_⟩) hHeld ?_
              rotate_left
              · intro w hSw
                (try dsimp only at hSw)
                go_simp
                try with_reducible rfl
              go_simp
              refine wpAnyH_take (i := 3) (v := ?_) rfl (by kernel_rfl) (by kernel_rfl) (by kernel_rfl) (fun _ _ _ h => h) (Or.inl ⟨by rfl, ?_⟩) hHeld ?_
              rotate_left
              · intro w hSw
                (try dsimp only at hSw)
                go_simp
                try with_reducible rfl
              go_simp
              refine wpAnyH_take (i := 4) (v := ?_) rfl (by kernel_rfl) (by kernel_rfl) (by kernel_rfl) (fun _ _ _ h => h) (Or.inl ⟨by rfl, ?_⟩) hHeld ?_
              rotate_left
              · intro w hSw
                (try dsimp only at hSw)
                go_simp
                try with_reducible rfl
              go_simp
              refine wpAnyH_take (i := 5) (v := ?_) rfl (by kernel_rfl) (by kernel_rfl) (by kernel_rfl) (fun _ _ _ h => h) (Or.inl ⟨by rfl, ?_⟩) hHeld ?_
              rotate_left
              · intro w hSw
                (try dsimp only at hSw)
                go_simp
                try with_reducible rfl
              go_simp
              refine wpAnyH_ready (rs := [6]) (by kernel_rfl) (by simp) ?_
              refine AllReadyH.cons rfl (fun K hK => ?_) ?_
              rotate_left
              · exact AllReadyH.nil
              go_simp
              go_wp2_with (first | (go_at_call 31; ((with_reducible refine (CST1.out).mono ?_); rintro e w5 ⟨rfl, hb5⟩); have hW2 := hW2.trans (hb5.mono hW2.size)) | (go_at_call 32; ((with_reducible refine (CBL.out _).mono ?_); rintro e w6 ⟨rfl, hb6⟩); have hW2 := hW2.trans (hb6.mono hW2.size)))
              refine hK.out _ _ (MK.out _ hW2) (fun hHeld => ?_)
              clear hK K
              go_simp
              refine wpAnyH_take (i := 7) (v := ?_) rfl (by kernel_rfl) (by kernel_rfl) (by kernel_rfl) (fun _ _ _ h => h) (Or.inl ⟨by rfl, ?_⟩) hHeld ?_
              rotate_left
              · intro w hSw
                (try dsimp only at hSw)
                go_simp
                try with_reducible rfl
              go_simp
              refine wpAnyH_take (i := 8) (v := ?_) rfl (by kernel_rfl) (by kernel_rfl) (by kernel_rfl) (fun _ _ _ h => h) (Or.inl ⟨by rfl, ?_⟩) hHeld ?_
              rotate_left
              · intro w hSw
                (try dsimp only at hSw)
                go_simp
                try with_reducible rfl
              go_simp
              refine wpAnyH_take (i := 9) (v := ?_) rfl (by kernel_rfl) (by kernel_rfl) (by kernel_rfl) (fun _ _ _ h => h) (Or.inl ⟨by rfl, ?_⟩) hHeld ?_
              rotate_left
              · intro w hSw
                (try dsimp only at hSw)
                go_simp
                try with_reducible rfl
              go_simp
              refine wpAnyH_take (i := 11) (v := ?_) rfl (by kernel_rfl) (by kernel_rfl) (by kernel_rfl) (fun _ _ _ h => h) (Or.inl ⟨by rfl, ?_⟩) hHeld ?_
              rotate_left
              · intro w hSw
                (try dsimp only at hSw)
                go_simp
                try with_reducible rfl
              go_simp
              refine wpAnyH_take (i := 12) (v := ?_) rfl (by kernel_rfl) (by kernel_rfl) (by kernel_rfl) (fun _ _ _ h => h) (Or.inl ⟨by rfl, ?_⟩) hHeld ?_
              rotate_left
              · intro w hSw
                (try dsimp only at hSw)
                go_simp
                try with_reducible rfl
              go_simp
              refine wpAnyH_take (i := 13) (v := ?_) rfl (by kernel_rfl) (by kernel_rfl) (by kernel_rfl) (fun _ _ _ h => h) (Or.inl ⟨by rfl, ?_⟩) hHeld ?_
              rotate_left
              · intro w hSw
                (try dsimp only at hSw)
                go_simp
                try with_reducible rfl
              go_simp
              refine wpAnyH_ready (rs := [10]) (by kernel_rfl) (by simp) ?_
              refine AllReadyH.cons rfl (fun K hK => ?_) ?_
              rotate_left
              · exact AllReadyH.nil
              go_simp
              go_wp2_with (first | (go_at_call 31; ((with_reducible refine (CST1.out).mono ?_); rintro e w5 ⟨rfl, hb5⟩); have hW2 := hW2.trans (hb5.mono hW2.size)) | (go_at_call 32; ((with_reducible refine (CBL.out _).mono ?_); rintro e w6 ⟨rfl, hb6⟩); have hW2 := hW2.trans (hb6.mono hW2.size)))
              refine hK.out _ _ (MK.out _ hW2) (fun hHeld => ?_)
              clear hK K
              go_simp
              refine wpAnyH_take (i := 14) (v := ?_) rfl (by kernel_rfl) (by kernel_rfl) (by kernel_rfl) (fun _ _ _ h => h) (Or.inl ⟨by rfl, ?_⟩) hHeld ?_
              rotate_left
              · intro w hSw
                (try dsimp only at hSw)
                go_simp
                try with_reducible rfl
              go_simp
              refine wpAnyH_take (i := 15) (v := undef) rfl (by kernel_rfl) (by kernel_rfl) (by kernel_rfl) (fun _ _ _ h => h) (Or.inr ⟨by rfl, rfl⟩) hHeld ?_
              go_simp
              refine wpAnyH_take (i := 16) (v := undef) rfl (by kernel_rfl) (by kernel_rfl) (by kernel_rfl) (fun _ _ _ h => h) (Or.inr ⟨by rfl, rfl⟩) hHeld ?_
              go_simp
              refine wpAnyH_take (i := 17) (v := undef) rfl (by kernel_rfl) (by kernel_rfl) (by kernel_rfl) (fun _ _ _ h => h) (Or.inr ⟨by rfl, rfl⟩) hHeld ?_
              go_simp
              refine wpAnyH_take (i := 18) (v := ?_) rfl (by kernel_rfl) (by kernel_rfl) (by kernel_rfl) (fun _ _ _ h => h) (Or.inl ⟨by rfl, ?_⟩) hHeld ?_
              rotate_left
              · intro w hSw
                (try dsimp only at hSw)
                go_simp
                try with_reducible rfl
              go_simp
              refine wpAnyH_take (i := 19) (v := ?_) rfl (by kernel_rfl) (by kernel_rfl) (by kernel_rfl) (fun _ _ _ h => h) (Or.inl ⟨by rfl, ?_⟩) hHeld ?_
              rotate_left
              · intro w hSw
                (try dsimp only at hSw)
                go_simp
                try with_reducible rfl
              go_simp
              refine wpAnyH_take (i := 20) (v := ?_) rfl (by kernel_rfl) (by kernel_rfl) (by kernel_rfl) (fun _ _ _ h => h) (Or.inl ⟨by rfl, ?_⟩) hHeld ?_
              rotate_left
              · intro w hSw
                (try dsimp only at hSw)
                go_simp
                try with_reducible rfl
              go_simp
              refine wpAnyH_done (by kernel_rfl) ?_ _
              refine NoPanic.normal ?_
              have HB5 := Lib.hid (HBW.out.trans (hW2.mono HBW.out.size))
              have HB6 := Lib.hid (HBS.out.trans (hW2.mono HBS.out.size))
              clear hW2 hHeld
              go_wp2
              go_roundg (gk - 1)
              case measure => omega
              case rel => exact ⟨j + 1, t + wd, by go_num, rfl, by omega, by omega, HW, HWB, HB5, HB6⟩
            · have k3 : (r == 32) = false := by simpa using r1
              by_cases r2 : r = 9
              · subst r2
                clear k3
                have CBL := Lib.hid fun W => cBlank_any ⟨9, kd, wd, p⟩ true (by simp) W
                simp only at CBL
                go_wp2_with fail
                generalize wr.alloc (.cells #[.int .i32 9, .int .i64 kd, .int .i64 wd, .int .i64 p] 58) = W3 at *
                clear d0 d1 d2 d3 hbA
                generalize wr.heap.size = N at *
                have MK : Hid (∀ W : World, Below W3.heap.size W3 W → (fun W => W.cell? ⟨N, 0, none⟩ = some (.int .i32 9) ∧ W.cell? ⟨N, 1, none⟩ = some (.int .i64 kd) ∧ W.cell? ⟨N, 2, none⟩ = some (.int .i64 wd) ∧ W.cell? ⟨N, 3, none⟩ = some (.int .i64 p) ∧ W.cell? ⟨bS, offS + j, none⟩ = some (.bool sb)) W) := fun W hW => ⟨RawAt.cell (HR3.out.below hW HR3.out.lt) 0, RawAt.cell (HR3.out.below hW HR3.out.lt) 1, RawAt.cell (HR3.out.below hW HR3.out.lt) 2, RawAt.cell (HR3.out.below hW HR3.out.lt) 3, ((old_cells hW).1 _ _ HNB.out).trans HSB.out⟩
                have hW2 : Below W3.heap.size W3 W3.drew := (Below.refl _ _).drew
                have CST1 := Lib.hid (CST.out W3.drew HBW.out.drew)
                clear CST
                refine wp_region_noPanic ?_
                refine wp_region_held_drew (S := ((fun W => W.cell? ⟨N, 0, none⟩ = some (.int .i32 9) ∧ W.cell? ⟨N, 1, none⟩ = some (.int .i64 kd) ∧ W.cell? ⟨N, 2, none⟩ = some (.int .i64 wd) ∧ W.cell? ⟨N, 3, none⟩ = some (.int .i64 p) ∧ W.cell? ⟨bS, offS + j, none⟩ = some (.bool sb)))) (by kernel_rfl) (MK.out _ hW2) (fun hHeld => ?_)
                refine wpAnyH_take (i := 0) (v := ?_) rfl (by kernel_rfl) (by kernel_rfl) (by kernel_rfl) (fun _ _ _ h => h) (Or.inl ⟨by rfl, ?_⟩) hHeld ?_
                rotate_left
                · intro w hSw
                  (try dsimp only at hSw)
                  go_simp
                  try with_reducible rfl
                go_simp
                refine wpAnyH_take (i := 1) (v := ?_) rfl (by kernel_rfl) (by kernel_rfl) (by kernel_rfl) (fun _ _ _ h => h) (Or.inl ⟨by rfl, ?_⟩) hHeld ?_
                rotate_left
                · intro w hSw
                  (try dsimp only at hSw)
                  go_simp
                  try with_reducible rfl
                go_simp
                refine wpAnyH_take (i := 2) (v := ?_) rfl (by kernel_rfl) (by kernel_rfl) (by kernel_rfl) (fun _ _ _ h => h) (Or.inl ⟨by rfl, ?_⟩) hHeld ?_
                rotate_left
                · intro w hSw
                  (try dsimp only at hSw)
                  go_simp
                  try with_reducible rfl
                go_simp
                refine wpAnyH_take (i := 3) (v := ?_) rfl (by kernel_rfl) (by kernel_rfl) (by kernel_rfl) (fun _ _ _ h => h) (Or.inl ⟨by rfl, ?_⟩) hHeld ?_
                rotate_left
                · intro w hSw
                  (try dsimp only at hSw)
                  go_simp
                  try with_reducible rfl
                go_simp
                refine wpAnyH_take (i := 4) (v := ?_) rfl (by kernel_rfl) (by kernel_rfl) (by kernel_rfl) (fun _ _ _ h => h) (Or.inl ⟨by rfl, ?_⟩) hHeld ?_
                rotate_left
                · intro w hSw
                  (try dsimp only at hSw)
                  go_simp
                  try with_reducible rfl
                go_simp
                refine wpAnyH_take (i := 5) (v := ?_) rfl (by kernel_rfl) (by kernel_rfl) (by kernel_rfl) (fun _ _ _ h => h) (Or.inl ⟨by rfl, ?_⟩) hHeld ?_
                rotate_left
                · intro w hSw
                  (try dsimp only at hSw)
                  go_simp
                  try with_reducible rfl
                go_simp
                refine wpAnyH_ready (rs := [6]) (by kernel_rfl) (by simp) ?_
                refine AllReadyH.cons rfl (fun K hK => ?_) ?_
                rotate_left
                · exact AllReadyH.nil
                go_simp
                go_wp2_with (first | (go_at_call 31; ((with_reducible refine (CST1.out).mono ?_); rintro e w5 ⟨rfl, hb5⟩); have hW2 := hW2.trans (hb5.mono hW2.size)) | (go_at_call 32; ((with_reducible refine (CBL.out _).mono ?_); rintro e w6 ⟨rfl, hb6⟩); have hW2 := hW2.trans (hb6.mono hW2.size)))
                refine hK.out _ _ (MK.out _ hW2) (fun hHeld => ?_)
                clear hK K
                go_simp
                refine wpAnyH_take (i := 7) (v := ?_) rfl (by kernel_rfl) (by kernel_rfl) (by kernel_rfl) (fun _ _ _ h => h) (Or.inl ⟨by rfl, ?_⟩) hHeld ?_
                rotate_left
                · intro w hSw
                  (try dsimp only at hSw)
                  go_simp
                  try with_reducible rfl
                go_simp
                refine wpAnyH_take (i := 8) (v := ?_) rfl (by kernel_rfl) (by kernel_rfl) (by kernel_rfl) (fun _ _ _ h => h) (Or.inl ⟨by rfl, ?_⟩) hHeld ?_
                rotate_left
                · intro w hSw
                  (try dsimp only at hSw)
                  go_simp
                  try with_reducible rfl
                go_simp
                refine wpAnyH_take (i := 9) (v := ?_) rfl (by kernel_rfl) (by kernel_rfl) (by kernel_rfl) (fun _ _ _ h => h) (Or.inl ⟨by rfl, ?_⟩) hHeld ?_
                rotate_left
                · intro w hSw
                  (try dsimp only at hSw)
                  go_simp
                  try with_reducible rfl
                go_simp
                refine wpAnyH_take (i := 11) (v := ?_) rfl (by kernel_rfl) (by kernel_rfl) (by kernel_rfl) (fun _ _ _ h => h) (Or.inl ⟨by rfl, ?_⟩) hHeld ?_
                rotate_left
                · intro w hSw
                  (try dsimp only at hSw)
                  go_simp
                  try with_reducible rfl
                go_simp
                refine wpAnyH_take (i := 12) (v := ?_) rfl (by kernel_rfl) (by kernel_rfl) (by kernel_rfl) (fun _ _ _ h => h) (Or.inl ⟨by rfl, ?_⟩) hHeld ?_
                rotate_left
                · intro w hSw
                  (try dsimp only at hSw)
                  go_simp
                  try with_reducible rfl
                go_simp
                refine wpAnyH_take (i := 13) (v := ?_) rfl (by kernel_rfl) (by kernel_rfl) (by kernel_rfl) (fun _ _ _ h => h) (Or.inl ⟨by rfl, ?_⟩) hHeld ?_
                rotate_left
                · intro w hSw
                  (try dsimp only at hSw)
                  go_simp
                  try with_reducible rfl
                go_simp
                refine wpAnyH_ready (rs := [10]) (by kernel_rfl) (by simp) ?_
                refine AllReadyH.cons rfl (fun K hK => ?_) ?_
                rotate_left
                · exact AllReadyH.nil
                go_simp
                go_wp2_with (first | (go_at_call 31; ((with_reducible refine (CST1.out).mono ?_); rintro e w5 ⟨rfl, hb5⟩); have hW2 := hW2.trans (hb5.mono hW2.size)) | (go_at_call 32; ((with_reducible refine (CBL.out _).mono ?_); rintro e w6 ⟨rfl, hb6⟩); have hW2 := hW2.trans (hb6.mono hW2.size)))
                refine hK.out _ _ (MK.out _ hW2) (fun hHeld => ?_)
                clear hK K
                go_simp
                refine wpAnyH_take (i := 14) (v := ?_) rfl (by kernel_rfl) (by kernel_rfl) (by kernel_rfl) (fun _ _ _ h => h) (Or.inl ⟨by rfl, ?_⟩) hHeld ?_
                rotate_left
                · intro w hSw
                  (try dsimp only at hSw)
                  go_simp
                  try with_reducible rfl
                go_simp
                refine wpAnyH_take (i := 15) (v := ?_) rfl (by kernel_rfl) (by kernel_rfl) (by kernel_rfl) (fun _ _ _ h => h) (Or.inl ⟨by rfl, ?_⟩) hHeld ?_
                rotate_left
                · intro w hSw
                  (try dsimp only at hSw)
                  go_simp
                  try with_reducible rfl
                go_simp
                refine wpAnyH_take (i := 16) (v := ?_) rfl (by kernel_rfl) (by kernel_rfl) (by kernel_rfl) (fun _ _ _ h => h) (Or.inl ⟨by rfl, ?_⟩) hHeld ?_
                rotate_left
                · intro w hSw
                  (try dsimp only at hSw)
                  go_simp
                  try with_reducible rfl
                go_simp
                refine wpAnyH_take (i := 17) (v := ?_) rfl (by kernel_rfl) (by kernel_rfl) (by kernel_rfl) (fun _ _ _ h => h) (Or.inl ⟨by rfl, ?_⟩) hHeld ?_
                rotate_left
                · intro w hSw
                  (try dsimp only at hSw)
                  go_simp
                  try with_reducible rfl
                go_simp
                refine wpAnyH_take (i := 18) (v := ?_) rfl (by kernel_rfl) (by kernel_rfl) (by kernel_rfl) (fun _ _ _ h => h) (Or.inl ⟨by rfl, ?_⟩) hHeld ?_
                rotate_left
                · intro w hSw
                  (try dsimp only at hSw)
                  go_simp
                  try with_reducible rfl
                go_simp
                refine wpAnyH_take (i := 19) (v := ?_) rfl (by kernel_rfl) (by kernel_rfl) (by kernel_rfl) (fun _ _ _ h => h) (Or.inl ⟨by rfl, ?_⟩) hHeld ?_
                rotate_left
                · intro w hSw
                  (try dsimp only at hSw)
                  go_simp
                  try with_reducible rfl
                go_simp
                refine wpAnyH_take (i := 20) (v := ?_) rfl (by kernel_rfl) (by kernel_rfl) (by kernel_rfl) (fun _ _ _ h => h) (Or.inl ⟨by rfl, ?_⟩) hHeld ?_
                rotate_left
                · intro w hSw
                  (try dsimp only at hSw)
                  go_simp
                  try with_reducible rfl
                go_simp
                refine wpAnyH_done (by kernel_rfl) ?_ _
                refine NoPanic.normal ?_
                have HB5 := Lib.hid (HBW.out.trans (hW2.mono HBW.out.size))
                have HB6 := Lib.hid (HBS.out.trans (hW2.mono HBS.out.size))
                clear hW2 hHeld
                go_wp2
                go_roundg (gk - 1)
                case measure => omega
                case rel => exact ⟨j + 1, t + wd, by go_num, rfl, by omega, by omega, HW, HWB, HB5, HB6⟩
              · have k4 : (r == 9) = false := by simpa using r2
                have CBL := Lib.hid fun W => cBlank_any ⟨r, kd, wd, p⟩ false (by simp [r1, r2]) W
                simp only at CBL
                go_wp2_with fail
                generalize wr.alloc (.cells #[.int .i32 r, .int .i64 kd, .int .i64 wd, .int .i64 p] 58) = W3 at *
                clear d0 d1 d2 d3 hbA
                generalize wr.heap.size = N at *
                have MK : Hid (∀ W : World, Below W3.heap.size W3 W → (fun W => W.cell? ⟨N, 0, none⟩ = some (.int .i32 r) ∧ W.cell? ⟨N, 1, none⟩ = some (.int .i64 kd) ∧ W.cell? ⟨N, 2, none⟩ = some (.int .i64 wd) ∧ W.cell? ⟨N, 3, none⟩ = some (.int .i64 p) ∧ W.cell? ⟨bS, offS + j, none⟩ = some (.bool sb)) W) := fun W hW => ⟨RawAt.cell (HR3.out.below hW HR3.out.lt) 0, RawAt.cell (HR3.out.below hW HR3.out.lt) 1, RawAt.cell (HR3.out.below hW HR3.out.lt) 2, RawAt.cell (HR3.out.below hW HR3.out.lt) 3, ((old_cells hW).1 _ _ HNB.out).trans HSB.out⟩
                have hW2 : Below W3.heap.size W3 W3.drew := (Below.refl _ _).drew
                have CST1 := Lib.hid (CST.out W3.drew HBW.out.drew)
                clear CST
                refine wp_region_noPanic ?_
                refine wp_region_held_drew (S := ((fun W => W.cell? ⟨N, 0, none⟩ = some (.int .i32 r) ∧ W.cell? ⟨N, 1, none⟩ = some (.int .i64 kd) ∧ W.cell? ⟨N, 2, none⟩ = some (.int .i64 wd) ∧ W.cell? ⟨N, 3, none⟩ = some (.int .i64 p) ∧ W.cell? ⟨bS, offS + j, none⟩ = some (.bool sb)))) (by kernel_rfl) (MK.out _ hW2) (fun hHeld => ?_)
                refine wpAnyH_take (i := 0) (v := ?_) rfl (by kernel_rfl) (by kernel_rfl) (by kernel_rfl) (fun _ _ _ h => h) (Or.inl ⟨by rfl, ?_⟩) hHeld ?_
                rotate_left
                · intro w hSw
                  (try dsimp only at hSw)
                  go_simp
                  try with_reducible rfl
                go_simp
                refine wpAnyH_take (i := 1) (v := ?_) rfl (by kernel_rfl) (by kernel_rfl) (by kernel_rfl) (fun _ _ _ h => h) (Or.inl ⟨by rfl, ?_⟩) hHeld ?_
                rotate_left
                · intro w hSw
                  (try dsimp only at hSw)
                  go_simp
                  try with_reducible rfl
                go_simp
                refine wpAnyH_take (i := 2) (v := ?_) rfl (by kernel_rfl) (by kernel_rfl) (by kernel_rfl) (fun _ _ _ h => h) (Or.inl ⟨by rfl, ?_⟩) hHeld ?_
                rotate_left
                · intro w hSw
                  (try dsimp only at hSw)
                  go_simp
                  try with_reducible rfl
                go_simp
                refine wpAnyH_take (i := 3) (v := ?_) rfl (by kernel_rfl) (by kernel_rfl) (by kernel_rfl) (fun _ _ _ h => h) (Or.inl ⟨by rfl, ?_⟩) hHeld ?_
                rotate_left
                · intro w hSw
                  (try dsimp only at hSw)
                  go_simp
                  try with_reducible rfl
                go_simp
                refine wpAnyH_take (i := 4) (v := ?_) rfl (by kernel_rfl) (by kernel_rfl) (by kernel_rfl) (fun _ _ _ h => h) (Or.inl ⟨by rfl, ?_⟩) hHeld ?_
                rotate_left
                · intro w hSw
                  (try dsimp only at hSw)
                  go_simp
                  try with_reducible rfl
                go_simp
                refine wpAnyH_take (i := 5) (v := ?_) rfl (by kernel_rfl) (by kernel_rfl) (by kernel_rfl) (fun _ _ _ h => h) (Or.inl ⟨by rfl, ?_⟩) hHeld ?_
                rotate_left
                · intro w hSw
                  (try dsimp only at hSw)
                  go_simp
                  try with_reducible rfl
                go_simp
                refine wpAnyH_ready (rs := [6]) (by kernel_rfl) (by simp) ?_
                refine AllReadyH.cons rfl (fun K hK => ?_) ?_
                rotate_left
                · exact AllReadyH.nil
                go_simp
                go_wp2_with (first | (go_at_call 31; ((with_reducible refine (CST1.out).mono ?_); rintro e w5 ⟨rfl, hb5⟩); have hW2 := hW2.trans (hb5.mono hW2.size)) | (go_at_call 32; ((with_reducible refine (CBL.out _).mono ?_); rintro e w6 ⟨rfl, hb6⟩); have hW2 := hW2.trans (hb6.mono hW2.size)))
                refine hK.out _ _ (MK.out _ hW2) (fun hHeld => ?_)
                clear hK K
                go_simp
                refine wpAnyH_take (i := 7) (v := ?_) rfl (by kernel_rfl) (by kernel_rfl) (by kernel_rfl) (fun _ _ _ h => h) (Or.inl ⟨by rfl, ?_⟩) hHeld ?_
                rotate_left
                · intro w hSw
                  (try dsimp only at hSw)
                  go_simp
                  try with_reducible rfl
                go_simp
                refine wpAnyH_take (i := 8) (v := ?_) rfl (by kernel_rfl) (by kernel_rfl) (by kernel_rfl) (fun _ _ _ h => h) (Or.inl ⟨by rfl, ?_⟩) hHeld ?_
                rotate_left
                · intro w hSw
                  (try dsimp only at hSw)
                  go_simp
                  try with_reducible rfl
                go_simp
                refine wpAnyH_take (i := 9) (v := ?_) rfl (by kernel_rfl) (by kernel_rfl) (by kernel_rfl) (fun _ _ _ h => h) (Or.inl ⟨by rfl, ?_⟩) hHeld ?_
                rotate_left
                · intro w hSw
                  (try dsimp only at hSw)
                  go_simp
                  try with_reducible rfl
                go_simp
                refine wpAnyH_take (i := 11) (v := ?_) rfl (by kernel_rfl) (by kernel_rfl) (by kernel_rfl) (fun _ _ _ h => h) (Or.inl ⟨by rfl, ?_⟩) hHeld ?_
                rotate_left
                · intro w hSw
                  (try dsimp only at hSw)
                  go_simp
                  try with_reducible rfl
                go_simp
                refine wpAnyH_take (i := 12) (v := ?_) rfl (by kernel_rfl) (by kernel_rfl) (by kernel_rfl) (fun _ _ _ h => h) (Or.inl ⟨by rfl, ?_⟩) hHeld ?_
                rotate_left
                · intro w hSw
                  (try dsimp only at hSw)
                  go_simp
                  try with_reducible rfl
                go_simp
                refine wpAnyH_take (i := 13) (v := ?_) rfl (by kernel_rfl) (by kernel_rfl) (by kernel_rfl) (fun _ _ _ h => h) (Or.inl ⟨by rfl, ?_⟩) hHeld ?_
                rotate_left
                · intro w hSw
                  (try dsimp only at hSw)
                  go_simp
                  try with_reducible rfl
                go_simp
                refine wpAnyH_ready (rs := [10]) (by kernel_rfl) (by simp) ?_
                refine AllReadyH.cons rfl (fun K hK => ?_) ?_
                rotate_left
                · exact AllReadyH.nil
                go_simp
                go_wp2_with (first | (go_at_call 31; ((with_reducible refine (CST1.out).mono ?_); rintro e w5 ⟨rfl, hb5⟩); have hW2 := hW2.trans (hb5.mono hW2.size)) | (go_at_call 32; ((with_reducible refine (CBL.out _).mono ?_); rintro e w6 ⟨rfl, hb6⟩); have hW2 := hW2.trans (hb6.mono hW2.size)))
                refine hK.out _ _ (MK.out _ hW2) (fun hHeld => ?_)
                clear hK K
                go_simp
                refine wpAnyH_take (i := 14) (v := ?_) rfl (by kernel_rfl) (by kernel_rfl) (by kernel_rfl) (fun _ _ _ h => h) (Or.inl ⟨by rfl, ?_⟩) hHeld ?_
                rotate_left
                · intro w hSw
                  (try dsimp only at hSw)
                  go_simp
                  try with_reducible rfl
                go_simp
                refine wpAnyH_take (i := 15) (v := ?_) rfl (by kernel_rfl) (by kernel_rfl) (by kernel_rfl) (fun _ _ _ h => h) (Or.inl ⟨by rfl, ?_⟩) hHeld ?_
                rotate_left
                · intro w hSw
                  (try dsimp only at hSw)
                  go_simp
                  try with_reducible rfl
                go_simp
                refine wpAnyH_take (i := 16) (v := ?_) rfl (by kernel_rfl) (by kernel_rfl) (by kernel_rfl) (fun _ _ _ h => h) (Or.inl ⟨by rfl, ?_⟩) hHeld ?_
                rotate_left
                · intro w hSw
                  (try dsimp only at hSw)
                  go_simp
                  try with_reducible rfl
                go_simp
                refine wpAnyH_take (i := 17) (v := ?_) rfl (by kernel_rfl) (by kernel_rfl) (by kernel_rfl) (fun _ _ _ h => h) (Or.inl ⟨by rfl, ?_⟩) hHeld ?_
                rotate_left
                · intro w hSw
                  (try dsimp only at hSw)
                  go_simp
                  try with_reducible rfl
                go_simp
                refine wpAnyH_take (i := 18) (v := ?_) rfl (by kernel_rfl) (by kernel_rfl) (by kernel_rfl) (fun _ _ _ h => h) (Or.inl ⟨by rfl, ?_⟩) hHeld ?_
                rotate_left
                · intro w hSw
                  (try dsimp only at hSw)
                  go_simp
                  try with_reducible rfl
                go_simp
                refine wpAnyH_take (i := 19) (v := ?_) rfl (by kernel_rfl) (by kernel_rfl) (by kernel_rfl) (fun _ _ _ h => h) (Or.inl ⟨by rfl, ?_⟩) hHeld ?_
                rotate_left
                · intro w hSw
                  (try dsimp only at hSw)
                  go_simp
                  try with_reducible rfl
                go_simp
                refine wpAnyH_take (i := 20) (v := ?_) rfl (by kernel_rfl) (by kernel_rfl) (by kernel_rfl) (fun _ _ _ h => h) (Or.inl ⟨by rfl, ?_⟩) hHeld ?_
                rotate_left
                · intro w hSw
                  (try dsimp only at hSw)
                  go_simp
                  try with_reducible rfl
                go_simp
                refine wpAnyH_done (by kernel_rfl) ?_ _
                refine NoPanic.normal ?_
                have HB5 := Lib.hid (HBW.out.trans (hW2.mono HBW.out.size))
                have HB6 := Lib.hid (HBS.out.trans (hW2.mono HBS.out.size))
                clear hW2 hHeld
                go_wp2
                go_roundg (gk - 1)
                case measure => omega
                case rel => exact ⟨j + 1, t + wd, by go_num, rfl, by omega, by omega, HW, HWB, HB5, HB6⟩
      · obtain rfl : j = n := by omega
        have e1 : l.take j = l := List.take_of_length_le (by rw [HL.out]; exact Nat.le_refl _)
        have h5 := ht.out
        have h6 := hwb.out
        rw [e1] at h5 h6
        have CW := Lib.hid (cWidth_any A j c l wr (HA.out.below hb.out) HL.out (by omega) h6)
        rw [← h5] at CW
        clear h5 h6 ht hwb e1
        go_wp2_with fail
        with_reducible refine (CW.out).mono ?_
        rintro e w7 ⟨rfl, hb7⟩
        have HB3 := Lib.hid (hb.out.trans (hb7.mono hb.out.size))
        clear hb7
        go_wp2_with fail
        with_reducible refine (C4.out _ HB3.out).mono ?_
        rintro e w8 ⟨rfl, hb8⟩
        have HB8 := Lib.hid (HB3.out.trans (hb8.mono HB3.out.size))
        clear hb8
        go_wp2
        go_ret
        exact ⟨rfl, HB8.out⟩
end Go.Proofs.YtbalafgoengppaaDoor
