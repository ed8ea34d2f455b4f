/- Cells: which are stops. -/
import Derived.Test.YtbalafgoengppaaDoorClA
namespace Go.Proofs.YtbalafgoengppaaDoor
open Go.RowKit
set_option linter.unusedVariables false
def clth (l : List Cl) (i : Nat) : Cl := l.getD i ⟨0, 0, 0, 0⟩
theorem clth_eq {l : List Cl} {i : Nat} (h : i < l.length) : clth l i = l[i] := by simp [clth, List.getD, h]
/-- Is the i'th cell a stop? -/
def stopAt (l : List Cl) (i : Nat) : Bool := decide ((clth l i).k = 1 ∨ (clth l i).k = 3 ∨ (clth l i).k = 2 ∧ (i = 0 ∨ (clth l (i - 1)).p ≠ (clth l i).p))
def stL (l : List Cl) : List Bool := (List.range l.length).map (stopAt l)
theorem stL_length (l : List Cl) : (stL l).length = l.length := by simp [stL]
theorem stL_at {l : List Cl} {i : Nat} (h : i < l.length) : (stL l)[i]? = some (stopAt l i) := by
  unfold stL
  rw [List.getElem?_map, List.getElem?_range h]
  rfl
def bl (l : List Cl) (n j : Nat) : List Bool := (List.range j).map (stopAt l) ++ List.replicate (n - j) false
theorem bcell {l : List Cl} {n j : Nat} (h : j < n) : ((bl l n j).map Value.bool)[j]? = some (.bool false) := by
  unfold bl
  rw [List.getElem?_map, List.getElem?_append_right (by simp), List.length_map, List.length_range, Nat.sub_self, List.getElem?_replicate, if_pos (by omega)]
  rfl
theorem bset {l : List Cl} {n j : Nat} (h : j < n) (hs : stopAt l j = true) : ((bl l n j).map Value.bool).set j (.bool true) = (bl l n (j + 1)).map Value.bool := by
  unfold bl
  rw [← List.map_set, List.set_append_right _ _ (by simp), List.range_succ, List.map_append (f := stopAt l), List.append_assoc]
  congr 2
  obtain ⟨k, hk⟩ : ∃ k, n - j = k + 1 := ⟨n - j - 1, by omega⟩
  rw [hk, show n - (j + 1) = k by omega]
  simp [List.replicate_succ, hs]
theorem bkeep {l : List Cl} {n j : Nat} (h : j < n) (hs : stopAt l j = false) : bl l n j = bl l n (j + 1) := by
  unfold bl
  rw [List.range_succ, List.map_append, List.append_assoc]
  congr 1
  obtain ⟨k, hk⟩ : ∃ k, n - j = k + 1 := ⟨n - j - 1, by omega⟩
  rw [hk, show n - (j + 1) = k by omega]
  simp [List.replicate_succ, hs]
theorem bfull (l : List Cl) : bl l l.length l.length = stL l := by simp [bl, stL]
set_option maxHeartbeats 4000000 in
set_option maxRecDepth 100000 in
theorem cStops_any (A : Option Addr) (n c : Nat) (l : List Cl) (w : World) (hA : RowsAt encC 4 w A l) (hl : l.length = n) (hn : n ≤ 1000000) :
    Calls Tryd.prog 30 #[.slice A n c] w fun e w' => ∃ v, e = .returned v ∧ w'.ownsRow w.heap.size 4 1 v n ((stL l).map .bool) ∧ Below w.heap.size w w' := by
  obtain ⟨i0, hi0, hz0, hz1, hz2⟩ := info_parts bool_info
  have HA := Lib.hid hA
  have HL := Lib.hid hl
  clear hA hl
  go_enter Tryd.func30, Tryd.ntmps30
  go_wp2_with (at_make; refine wpList_make_full _ rfl _ _ 55 rfl w.heap.size 4 i0 (.bool false) 1 Tryd.underlying55 hi0 hz0 hz1 .i64 .i64 _ _ n rfl rfl rfl rfl (by rw [hz2]; omega) (by unfold maxLen; omega) (Nat.le_refl _) ?_; intro w2 hown2 hgrow2)
  have b2 := Lib.hid ((Below.refl w.heap.size w).grown hgrow2 (Nat.le_refl _) (fun k hk => by cases hk))
  have O2 : Hid (w2.ownsRow w.heap.size 4 1 (.slice (some ⟨w.heap.size, 0, none⟩) n n) n ((bl l n 0).map .bool)) := Lib.hid (by
    have h := hown2
    rw [show (Value.bool false).cells = #[Value.bool false] from rfl, toList_madeCells_one, Nat.mul_one] at h
    simpa [bl] using h)
  clear hown2 hgrow2
  go_loopg [4, 11] n (fun g x i wr => ∃ (j : Nat), i = .int .i64 j ∧ j ≤ n ∧ n - j ≤ g ∧ Hid (Below w.heap.size w wr) ∧ Hid (wr.ownsRow w.heap.size 4 1 (.slice (some ⟨w.heap.size, 0, none⟩) n n) n ((bl l n j).map .bool)))
  case atStart => exact ⟨0, rfl, by omega, by omega, b2, O2⟩
  case round =>
    clear b2 O2
    obtain ⟨j, rfl, h1, h2, hb, hown⟩ := hrel
    by_cases hlt : j < n
    · have hjl : j < l.length := by rw [HL.out]; exact hlt
      have HJ := Lib.hid hlt
      obtain ⟨bA, off, rfl, hbA, d0, d1, d2, d3⟩ := (HA.out.below hb.out).cell4 hjl
      have HT : Hid (stopAt l j = decide (l[j].k = 1 ∨ l[j].k = 3 ∨ l[j].k = 2 ∧ (j = 0 ∨ (clth l (j - 1)).p ≠ l[j].p))) := Lib.hid (by unfold stopAt; rw [clth_eq hjl])
      have HPREV : Hid (0 < j → wr.cell? ⟨bA, off + (j - 1) * 4 + 3, none⟩ = some (.int .i64 (clth l (j - 1)).p)) := Lib.hid fun h0 => by
        obtain ⟨b', off', e', _, _, _, _, c3⟩ := (HA.out.below hb.out).cell4 (j := j - 1) (by omega)
        injection e' with e'
        injection e' with e1 e2
        subst e1
        subst e2
        rw [clth_eq (by omega)]
        exact c3
      generalize l[j] = o at *
      generalize (clth l (j - 1)).p = q at *
      have i1 : (0 : Int) ≤ j := by omega
      have i2 : (j : Int) < n := by omega
      have x3 : Below wr.heap.size wr (wr.alloc (.cells #[.int .i32 o.r, .int .i64 o.k, .int .i64 o.wd, .int .i64 o.p] 58)) := (Below.refl _ _).alloc (Nat.le_refl _) _
      have R3 : RawAt 58 (wr.alloc (.cells #[.int .i32 o.r, .int .i64 o.k, .int .i64 o.wd, .int .i64 o.p] 58)) wr.heap.size #[.int .i32 o.r, .int .i64 o.k, .int .i64 o.wd, .int .i64 o.p] := heap_alloc_new wr _
      have HE3 : Hid ((wr.alloc (.cells #[.int .i32 o.r, .int .i64 o.k, .int .i64 o.wd, .int .i64 o.p] 58)).cell? ⟨wr.heap.size, 3, none⟩ = some (.int .i64 o.p)) := Lib.hid (RawAt.cell R3 3)
      have HPREV3 : Hid (0 < j → (wr.alloc (.cells #[.int .i32 o.r, .int .i64 o.k, .int .i64 o.wd, .int .i64 o.p] 58)).cell? ⟨bA, off + (j - 1) * 4 + 3, none⟩ = some (.int .i64 q)) := Lib.hid fun h0 => ((old_cells x3).1 _ _ hbA).trans (HPREV.out h0)
      have HB3 := Lib.hid (hb.out.trans (x3.mono hb.out.size))
      have HO3 := Lib.hid (own_below hown.out x3)
      have ecw := hown.out.cellAt j (by omega)
      rw [bcell HJ.out] at ecw
      have fcw := own_freeM hown.out j
      have hws : w.heap.size < wr.heap.size := (hown.out.lt w.heap.size rfl).2
      clear R3 x3 HPREV
      by_cases k2 : o.k = 2
      · have n1 : ¬ o.k = 1 := by omega
        have n3 : ¬ o.k = 3 := by omega
        obtain ⟨or, ok, owd, op⟩ := o
        simp only at k2 n1 n3 HT HE3 HPREV3 HB3 HO3
        subst k2
        go_wp2_with fail
        clear hb hown ecw fcw
        generalize wr.alloc (.cells #[.int .i32 or, .int .i64 2, .int .i64 owd, .int .i64 op] 58) = W3 at *
        have e3 := HE3.out
        by_cases hj0 : 0 < j
        · have k4 : decide ((0 : Int) < (j : Int)) = true := decide_eq_true (by omega)
          have k5 : decide (0 < j) = true := decide_eq_true hj0
          have ep := HPREV3.out hj0
          have i3 : ((j : Int) - 1).toNat = j - 1 := by omega
          have i4 : (0 : Int) ≤ (j : Int) - 1 := by omega
          have i5 : (j : Int) - 1 < n := by omega
          have i6 : (1 : Int) ≤ j := by omega
          have hj1 : ¬ j = 0 := by omega
          have w1 : IntKind.i64.wrap ((j : Int) - 1) = (j : Int) - 1 := IntWalk.i64_in _ (by omega)
          by_cases hp : q = op
          · have HTT := Lib.hid (HT.out.trans (show _ = false by simp [hp, hj1]))
            rw [hp] at ep
            refine wp_region_noPanic ?_
            refine wp_region_held_drew (S := (fun W => W.cell? ⟨bA, off + (j - 1) * 4 + 3, none⟩ = some (.int .i64 op) ∧ W.cell? ⟨wr.heap.size, 3, none⟩ = some (.int .i64 op))) (by kernel_rfl) (⟨ep, e3⟩) (fun hHeld => ?_)
            refine wpAnyH_take (i := 0) (v := ?_) rfl (by kernel_rfl) (by kernel_rfl) (by kernel_rfl) (fun _ _ _ h => h) (Or.inl ⟨by rfl, ?_⟩) hHeld ?_
            rotate_left
            · intro w hSw
              (try dsimp only at hSw)
              go_simp
              try with_reducible rfl
            go_simp
            refine wpAnyH_take (i := 1) (v := ?_) rfl (by kernel_rfl) (by kernel_rfl) (by kernel_rfl) (fun _ _ _ h => h) (Or.inl ⟨by rfl, ?_⟩) hHeld ?_
            rotate_left
            · intro w hSw
              (try dsimp only at hSw)
              go_simp
              try with_reducible rfl
            go_simp
            refine wpAnyH_take (i := 2) (v := ?_) rfl (by kernel_rfl) (by kernel_rfl) (by kernel_rfl) (fun _ _ _ h => h) (Or.inl ⟨by rfl, ?_⟩) hHeld ?_
            rotate_left
            · intro w hSw
              (try dsimp only at hSw)
              go_simp
              try with_reducible rfl
            go_simp
            refine wpAnyH_take (i := 3) (v := ?_) rfl (by kernel_rfl) (by kernel_rfl) (by kernel_rfl) (fun _ _ _ h => h) (Or.inl ⟨by rfl, ?_⟩) hHeld ?_
            rotate_left
            · intro w hSw
              (try dsimp only at hSw)
              go_simp
              try with_reducible rfl
            go_simp
            refine wpAnyH_take (i := 4) (v := ?_) rfl (by kernel_rfl) (by kernel_rfl) (by kernel_rfl) (fun _ _ _ h => h) (Or.inl ⟨by rfl, ?_⟩) hHeld ?_
            rotate_left
            · intro w hSw
              (try dsimp only at hSw)
              go_simp
              try with_reducible rfl
            go_simp
            refine wpAnyH_take (i := 5) (v := ?_) rfl (by kernel_rfl) (by kernel_rfl) (by kernel_rfl) (fun _ _ _ h => h) (Or.inl ⟨by rfl, ?_⟩) hHeld ?_
            rotate_left
            · intro w hSw
              (try dsimp only at hSw)
              go_simp
              try with_reducible rfl
            go_simp
            refine wpAnyH_take (i := 6) (v := ?_) rfl (by kernel_rfl) (by kernel_rfl) (by kernel_rfl) (fun _ _ _ h => h) (Or.inl ⟨by rfl, ?_⟩) hHeld ?_
            rotate_left
            · intro w hSw
              (try dsimp only at hSw)
              go_simp
              try with_reducible rfl
            go_simp
            refine wpAnyH_take (i := 7) (v := ?_) rfl (by kernel_rfl) (by kernel_rfl) (by kernel_rfl) (fun _ _ _ h => h) (Or.inl ⟨by rfl, ?_⟩) hHeld ?_
            rotate_left
            · intro w hSw
              (try dsimp only at hSw)
              go_simp
              try with_reducible rfl
            go_simp
            refine wpAnyH_take (i := 8) (v := ?_) rfl (by kernel_rfl) (by kernel_rfl) (by kernel_rfl) (fun _ _ _ h => h) (Or.inl ⟨by rfl, ?_⟩) hHeld ?_
            rotate_left
            · intro w hSw
              (try dsimp only at hSw)
              go_simp
              try with_reducible rfl
            go_simp
            refine wpAnyH_take (i := 9) (v := ?_) rfl (by kernel_rfl) (by kernel_rfl) (by kernel_rfl) (fun _ _ _ h => h) (Or.inl ⟨by rfl, ?_⟩) hHeld ?_
            rotate_left
            · intro w hSw
              (try dsimp only at hSw)
              go_simp
              try with_reducible rfl
            go_simp
            refine wpAnyH_take (i := 10) (v := ?_) rfl (by kernel_rfl) (by kernel_rfl) (by kernel_rfl) (fun _ _ _ h => h) (Or.inl ⟨by rfl, ?_⟩) hHeld ?_
            rotate_left
            · intro w hSw
              (try dsimp only at hSw)
              go_simp
              try with_reducible rfl
            go_simp
            refine wpAnyH_take (i := 11) (v := ?_) rfl (by kernel_rfl) (by kernel_rfl) (by kernel_rfl) (fun _ _ _ h => h) (Or.inl ⟨by rfl, ?_⟩) hHeld ?_
            rotate_left
            · intro w hSw
              (try dsimp only at hSw)
              go_simp
              try with_reducible rfl
            go_simp
            refine wpAnyH_take (i := 12) (v := ?_) rfl (by kernel_rfl) (by kernel_rfl) (by kernel_rfl) (fun _ _ _ h => h) (Or.inl ⟨by rfl, ?_⟩) hHeld ?_
            rotate_left
            · intro w hSw
              (try dsimp only at hSw)
              go_simp
              try with_reducible rfl
            go_simp
            refine wpAnyH_done (by kernel_rfl) ?_ _
            refine NoPanic.normal ?_
            have HBD := Lib.hid (show Below w.heap.size w W3.drew from HB3.out.drew)
            have HOD := Lib.hid (show W3.drew.ownsRow w.heap.size 4 1 (.slice (some ⟨w.heap.size, 0, none⟩) n n) n ((bl l n j).map .bool) from HO3.out)
            have ec := HOD.out.cellAt j (by omega)
            rw [bcell HJ.out] at ec
            have fc := own_freeM HOD.out j
            have O9 := Lib.hid (by have := HOD.out; rw [bkeep HJ.out HTT.out] at this; exact this)
            go_wp2
            go_roundg (gk - 1)
            case measure => omega
            case rel => exact ⟨j + 1, by go_num, by omega, by omega, HBD, O9⟩
          · have HTT := Lib.hid (HT.out.trans (show _ = true by simp [hp]))
            have k6 : (q == op) = false := by simpa using hp
            refine wp_region_noPanic ?_
            refine wp_region_held_drew (S := (fun W => W.cell? ⟨bA, off + (j - 1) * 4 + 3, none⟩ = some (.int .i64 q) ∧ W.cell? ⟨wr.heap.size, 3, none⟩ = some (.int .i64 op))) (by kernel_rfl) (⟨ep, e3⟩) (fun hHeld => ?_)
            refine wpAnyH_take (i := 0) (v := ?_) rfl (by kernel_rfl) (by kernel_rfl) (by kernel_rfl) (fun _ _ _ h => h) (Or.inl ⟨by rfl, ?_⟩) hHeld ?_
            rotate_left
            · intro w hSw
              (try dsimp only at hSw)
              go_simp
              try with_reducible rfl
            go_simp
            refine wpAnyH_take (i := 1) (v := ?_) rfl (by kernel_rfl) (by kernel_rfl) (by kernel_rfl) (fun _ _ _ h => h) (Or.inl ⟨by rfl, ?_⟩) hHeld ?_
            rotate_left
            · intro w hSw
              (try dsimp only at hSw)
              go_simp
              try with_reducible rfl
            go_simp
            refine wpAnyH_take (i := 2) (v := ?_) rfl (by kernel_rfl) (by kernel_rfl) (by kernel_rfl) (fun _ _ _ h => h) (Or.inl ⟨by rfl, ?_⟩) hHeld ?_
            rotate_left
            · intro w hSw
              (try dsimp only at hSw)
              go_simp
              try with_reducible rfl
            go_simp
            refine wpAnyH_take (i := 3) (v := ?_) rfl (by kernel_rfl) (by kernel_rfl) (by kernel_rfl) (fun _ _ _ h => h) (Or.inl ⟨by rfl, ?_⟩) hHeld ?_
            rotate_left
            · intro w hSw
              (try dsimp only at hSw)
              go_simp
              try with_reducible rfl
            go_simp
            refine wpAnyH_take (i := 4) (v := ?_) rfl (by kernel_rfl) (by kernel_rfl) (by kernel_rfl) (fun _ _ _ h => h) (Or.inl ⟨by rfl, ?_⟩) hHeld ?_
            rotate_left
            · intro w hSw
              (try dsimp only at hSw)
              go_simp
              try with_reducible rfl
            go_simp
            refine wpAnyH_take (i := 5) (v := ?_) rfl (by kernel_rfl) (by kernel_rfl) (by kernel_rfl) (fun _ _ _ h => h) (Or.inl ⟨by rfl, ?_⟩) hHeld ?_
            rotate_left
            · intro w hSw
              (try dsimp only at hSw)
              go_simp
              try with_reducible rfl
            go_simp
            refine wpAnyH_take (i := 6) (v := ?_) rfl (by kernel_rfl) (by kernel_rfl) (by kernel_rfl) (fun _ _ _ h => h) (Or.inl ⟨by rfl, ?_⟩) hHeld ?_
            rotate_left
            · intro w hSw
              (try dsimp only at hSw)
              go_simp
              try with_reducible rfl
            go_simp
            refine wpAnyH_take (i := 7) (v := ?_) rfl (by kernel_rfl) (by kernel_rfl) (by kernel_rfl) (fun _ _ _ h => h) (Or.inl ⟨by rfl, ?_⟩) hHeld ?_
            rotate_left
            · intro w hSw
              (try dsimp only at hSw)
              go_simp
              try with_reducible rfl
            go_simp
            refine wpAnyH_take (i := 8) (v := ?_) rfl (by kernel_rfl) (by kernel_rfl) (by kernel_rfl) (fun _ _ _ h => h) (Or.inl ⟨by rfl, ?_⟩) hHeld ?_
            rotate_left
            · intro w hSw
              (try dsimp only at hSw)
              go_simp
              try with_reducible rfl
            go_simp
            refine wpAnyH_take (i := 9) (v := ?_) rfl (by kernel_rfl) (by kernel_rfl) (by kernel_rfl) (fun _ _ _ h => h) (Or.inl ⟨by rfl, ?_⟩) hHeld ?_
            rotate_left
            · intro w hSw
              (try dsimp only at hSw)
              go_simp
              try with_reducible rfl
            go_simp
            refine wpAnyH_take (i := 10) (v := ?_) rfl (by kernel_rfl) (by kernel_rfl) (by kernel_rfl) (fun _ _ _ h => h) (Or.inl ⟨by rfl, ?_⟩) hHeld ?_
            rotate_left
            · intro w hSw
              (try dsimp only at hSw)
              go_simp
              try with_reducible rfl
            go_simp
            refine wpAnyH_take (i := 11) (v := ?_) rfl (by kernel_rfl) (by kernel_rfl) (by kernel_rfl) (fun _ _ _ h => h) (Or.inl ⟨by rfl, ?_⟩) hHeld ?_
            rotate_left
            · intro w hSw
              (try dsimp only at hSw)
              go_simp
              try with_reducible rfl
            go_simp
            refine wpAnyH_take (i := 12) (v := ?_) rfl (by kernel_rfl) (by kernel_rfl) (by kernel_rfl) (fun _ _ _ h => h) (Or.inl ⟨by rfl, ?_⟩) hHeld ?_
            rotate_left
            · intro w hSw
              (try dsimp only at hSw)
              go_simp
              try with_reducible rfl
            go_simp
            refine wpAnyH_done (by kernel_rfl) ?_ _
            refine NoPanic.normal ?_
            have HBD := Lib.hid (show Below w.heap.size w W3.drew from HB3.out.drew)
            have HOD := Lib.hid (show W3.drew.ownsRow w.heap.size 4 1 (.slice (some ⟨w.heap.size, 0, none⟩) n n) n ((bl l n j).map .bool) from HO3.out)
            have ec := HOD.out.cellAt j (by omega)
            rw [bcell HJ.out] at ec
            have fc := own_freeM HOD.out j
            have B9 := Lib.hid (HBD.out.setCell (p := ⟨w.heap.size, j, none⟩) (Nat.le_refl _) (.bool true))
            have O9 := Lib.hid (by have := own_setM HOD.out j (.bool true); rw [bset HJ.out HTT.out] at this; exact this)
            go_wp2
            go_roundg (gk - 1)
            case measure => omega
            case rel => exact ⟨j + 1, by go_num, by omega, by omega, B9, O9⟩
        · obtain rfl : j = 0 := by omega
          have k4 : decide ((0 : Int) < ((0 : Nat) : Int)) = false := by decide
          have HTT := Lib.hid (HT.out.trans (show _ = true by simp))
          refine wp_region_noPanic ?_
          refine wp_region_held_drew (S := (fun W => W.cell? ⟨wr.heap.size, 3, none⟩ = some (.int .i64 op))) (by kernel_rfl) (e3) (fun hHeld => ?_)
          refine wpAnyH_take (i := 0) (v := ?_) rfl (by kernel_rfl) (by kernel_rfl) (by kernel_rfl) (fun _ _ _ h => h) (Or.inl ⟨by rfl, ?_⟩) hHeld ?_
          rotate_left
          · intro w hSw
            (try dsimp only at hSw)
            go_simp
            try with_reducible rfl
          go_simp
          refine wpAnyH_take (i := 1) (v := ?_) rfl (by kernel_rfl) (by kernel_rfl) (by kernel_rfl) (fun _ _ _ h => h) (Or.inl ⟨by rfl, ?_⟩) hHeld ?_
          rotate_left
          · intro w hSw
            (try dsimp only at hSw)
            go_simp
            try with_reducible rfl
          go_simp
          refine wpAnyH_take (i := 2) (v := ?_) rfl (by kernel_rfl) (by kernel_rfl) (by kernel_rfl) (fun _ _ _ h => h) (Or.inl ⟨by rfl, ?_⟩) hHeld ?_
          rotate_left
          · intro w hSw
            (try dsimp only at hSw)
            go_simp
            try with_reducible rfl
          go_simp
          refine wpAnyH_take (i := 3) (v := undef) rfl (by kernel_rfl) (by kernel_rfl) (by kernel_rfl) (fun _ _ _ h => h) (Or.inr ⟨by rfl, rfl⟩) hHeld ?_
          go_simp
          refine wpAnyH_take (i := 4) (v := undef) rfl (by kernel_rfl) (by kernel_rfl) (by kernel_rfl) (fun _ _ _ h => h) (Or.inr ⟨by rfl, rfl⟩) hHeld ?_
          go_simp
          refine wpAnyH_take (i := 5) (v := undef) rfl (by kernel_rfl) (by kernel_rfl) (by kernel_rfl) (fun _ _ _ h => h) (Or.inr ⟨by rfl, rfl⟩) hHeld ?_
          go_simp
          refine wpAnyH_take (i := 6) (v := undef) rfl (by kernel_rfl) (by kernel_rfl) (by kernel_rfl) (fun _ _ _ h => h) (Or.inr ⟨by rfl, rfl⟩) hHeld ?_
          go_simp
          refine wpAnyH_take (i := 7) (v := undef) rfl (by kernel_rfl) (by kernel_rfl) (by kernel_rfl) (fun _ _ _ h => h) (Or.inr ⟨by rfl, rfl⟩) hHeld ?_
          go_simp
          refine wpAnyH_take (i := 8) (v := undef) rfl (by kernel_rfl) (by kernel_rfl) (by kernel_rfl) (fun _ _ _ h => h) (Or.inr ⟨by rfl, rfl⟩) hHeld ?_
          go_simp
          refine wpAnyH_take (i := 9) (v := undef) rfl (by kernel_rfl) (by kernel_rfl) (by kernel_rfl) (fun _ _ _ h => h) (Or.inr ⟨by rfl, rfl⟩) hHeld ?_
          go_simp
          refine wpAnyH_take (i := 10) (v := undef) rfl (by kernel_rfl) (by kernel_rfl) (by kernel_rfl) (fun _ _ _ h => h) (Or.inr ⟨by rfl, rfl⟩) hHeld ?_
          go_simp
          refine wpAnyH_take (i := 11) (v := undef) rfl (by kernel_rfl) (by kernel_rfl) (by kernel_rfl) (fun _ _ _ h => h) (Or.inr ⟨by rfl, rfl⟩) hHeld ?_
          go_simp
          refine wpAnyH_take (i := 12) (v := ?_) rfl (by kernel_rfl) (by kernel_rfl) (by kernel_rfl) (fun _ _ _ h => h) (Or.inl ⟨by rfl, ?_⟩) hHeld ?_
          rotate_left
          · intro w hSw
            (try dsimp only at hSw)
            go_simp
            try with_reducible rfl
          go_simp
          refine wpAnyH_done (by kernel_rfl) ?_ _
          refine NoPanic.normal ?_
          have HBD := Lib.hid (show Below w.heap.size w W3.drew from HB3.out.drew)
          have HOD := Lib.hid (show W3.drew.ownsRow w.heap.size 4 1 (.slice (some ⟨w.heap.size, 0, none⟩) n n) n ((bl l n 0).map .bool) from HO3.out)
          have ec := HOD.out.cellAt 0 (by omega)
          rw [bcell HJ.out] at ec
          have fc := own_freeM HOD.out 0
          have B9 := Lib.hid (HBD.out.setCell (p := ⟨w.heap.size, 0, none⟩) (Nat.le_refl _) (.bool true))
          have O9 := Lib.hid (by have := own_setM HOD.out 0 (.bool true); rw [bset HJ.out HTT.out] at this; exact this)
          go_wp2
          go_roundg (gk - 1)
          case measure => omega
          case rel => exact ⟨0 + 1, by go_num, by omega, by omega, B9, O9⟩
      · have k3 : (o.k == 2) = false := by simpa using k2
        by_cases k1 : o.k = 1
        · have HTT := Lib.hid (HT.out.trans (show _ = true by simp [k1]))
          rw [k1] at k3
          have HBS := Lib.hid (hb.out.setCell (p := ⟨w.heap.size, j, none⟩) (Nat.le_refl _) (.bool true))
          have HOS := Lib.hid (by have := own_setM hown.out j (.bool true); rw [bset HJ.out HTT.out] at this; exact this)
          clear hb hown HB3 HO3
          go_wp2
          go_roundg (gk - 1)
          case measure => omega
          case rel => exact ⟨j + 1, by go_num, by omega, by omega, Lib.hid (HBS.out.alloc HBS.out.size _), Lib.hid (own_below HOS.out ((Below.refl _ _).alloc (Nat.le_refl _) _))⟩
        · have k4 : (o.k == 1) = false := by simpa using k1
          by_cases k5 : o.k = 3
          · have HTT := Lib.hid (HT.out.trans (show _ = true by simp [k5]))
            rw [k5] at k3 k4
            have HBS := Lib.hid (hb.out.setCell (p := ⟨w.heap.size, j, none⟩) (Nat.le_refl _) (.bool true))
            have HOS := Lib.hid (by have := own_setM hown.out j (.bool true); rw [bset HJ.out HTT.out] at this; exact this)
            clear hb hown HB3 HO3
            go_wp2
            go_roundg (gk - 1)
            case measure => omega
            case rel => exact ⟨j + 1, by go_num, by omega, by omega, Lib.hid (HBS.out.alloc HBS.out.size _), Lib.hid (own_below HOS.out ((Below.refl _ _).alloc (Nat.le_refl _) _))⟩
          · have k6 : (o.k == 3) = false := by simpa using k5
            have HTT := Lib.hid (HT.out.trans (show _ = false by simp [k1, k2, k5]))
            have HBD := HB3
            have HOD := HO3
            have O9 := Lib.hid (by have := HOD.out; rw [bkeep HJ.out HTT.out] at this; exact this)
            clear HOD HO3 HB3 hb hown
            go_wp2_with fail
            go_roundg (gk - 1)
            case measure => omega
            case rel => exact ⟨j + 1, by go_num, by omega, by omega, HBD, O9⟩
    · obtain rfl : j = n := by omega
      have h5 := hown.out
      rw [show bl l j j = stL l by rw [← HL.out]; exact bfull l] at h5
      have H5 := Lib.hid h5
      clear h5 hown
      go_wp2
      go_ret
      exact ⟨_, rfl, H5.out, hb.out⟩
end Go.Proofs.YtbalafgoengppaaDoor
