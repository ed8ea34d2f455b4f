/- Flow: the laws' refs; the document's right, Right, Sum, Widest; Lines. -/
import Derived.Test.YtnfjleobcfhpnaaFlB
namespace Go.Proofs.Ytnfjleobcfhpnaa
open Go.RowKit
set_option linter.unusedVariables false
theorem ln_info : (Try.prog.info? 78).map (fun i => (i.zero, i.size, i.bytes)) = some (some (.agg #[.int .i64 0, .int .i64 0, .int .i64 0, .int .i64 0]), 4, 32) := by kernel_rfl
theorem ln_slt : SlT Try.prog 57 78 4 32 := slt_of Try.underlying57 ln_info rfl (by kernel_rfl)
theorem lr_info : (Try.prog.info? 72).map (fun i => (i.zero, i.size, i.bytes)) = some (some (.agg #[.int .i64 0, .int .i64 0, .int .i64 0, .int .i64 0]), 4, 32) := by kernel_rfl
theorem lr_slt : SlT Try.prog 62 72 4 32 := slt_of Try.underlying62 lr_info rfl (by kernel_rfl)
set_option maxHeartbeats 4000000 in
set_option maxRecDepth 100000 in
theorem lrefs (A : Option Addr) (n c : Nat) (l : List Ln) (w : World) (hA : RowsAt encL 4 w A l) (hl : l.length = n) (hn : n ≤ 1000000) :
    Calls Try.prog 28 #[.slice A n c] w fun e w' => ∃ v, e = .returned v ∧ w'.ownsRow w.heap.size 72 4 v n (kfl encL l) ∧ Below w.heap.size w w' := by
  have ST := lr_slt
  have HA := Lib.hid hA
  have HL := Lib.hid hl
  clear hA hl
  go_enter Try.func28, Try.ntmps28
  go_wp2_with fail
  go_loopg [3, 8] n (fun g v i wr => ∃ k : Nat, i = .int .i64 k ∧ k ≤ n ∧ n - k ≤ g ∧ Hid (Below w.heap.size w wr) ∧ Hid (wr.ownsRow w.heap.size 72 4 v k (kfl encL (l.take k))))
  case atStart => exact ⟨0, rfl, by omega, by omega, Lib.hid (Below.refl _ _), Lib.hid (World.ownsRow_nil _ _ _ _)⟩
  case round =>
    obtain ⟨k, rfl, h1, h2, hb, hown⟩ := hrel
    have hlt4 := hown.out.lt
    by_cases hlt : k < n
    · have hkl : k < l.length := by rw [HL.out]; exact hlt
      obtain ⟨bA, off, rfl, hbA, d0, d1, d2, d3⟩ := rowsL (HA.out.below hb.out) hkl
      have htk : l.take (k + 1) = l.take k ++ [l[k]] := by rw [List.take_succ_eq_append_getElem hkl]
      have HTK := Lib.hid htk
      clear htk
      generalize l[k] = a at *
      have i1 : (0 : Int) ≤ k := by omega
      have i2 : (k : Int) < n := by omega
      obtain ⟨A3, c3, rfl⟩ := own_formL hown.out
      have x4 : Below wr.heap.size wr (wr.alloc (.cells #[.int .i64 a.s, .int .i64 a.b, .int .i64 a.r, .int .i64 a.wd] 78)) := (Below.refl _ _).alloc (Nat.le_refl _) _
      have hsz : (wr.alloc (.cells #[.int .i64 a.s, .int .i64 a.b, .int .i64 a.r, .int .i64 a.wd] 78)).heap.size = wr.heap.size + 1 := by simp
      have x5 : Below (wr.alloc (.cells #[.int .i64 a.s, .int .i64 a.b, .int .i64 a.r, .int .i64 a.wd] 78)).heap.size (wr.alloc (.cells #[.int .i64 a.s, .int .i64 a.b, .int .i64 a.r, .int .i64 a.wd] 78)) ((wr.alloc (.cells #[.int .i64 a.s, .int .i64 a.b, .int .i64 a.r, .int .i64 a.wd] 78)).alloc (.cells #[.int .i64 a.s, .int .i64 a.b, .int .i64 a.r, .int .i64 a.wd] 72)) := (Below.refl _ _).alloc (Nat.le_refl _) _
      have R5 : RawAt 72 ((wr.alloc (.cells #[.int .i64 a.s, .int .i64 a.b, .int .i64 a.r, .int .i64 a.wd] 78)).alloc (.cells #[.int .i64 a.s, .int .i64 a.b, .int .i64 a.r, .int .i64 a.wd] 72)) (wr.alloc (.cells #[.int .i64 a.s, .int .i64 a.b, .int .i64 a.r, .int .i64 a.wd] 78)).heap.size #[.int .i64 a.s, .int .i64 a.b, .int .i64 a.r, .int .i64 a.wd] := heap_alloc_new (wr.alloc (.cells #[.int .i64 a.s, .int .i64 a.b, .int .i64 a.r, .int .i64 a.wd] 78)) _
      have hs5 : RowsAt encL 4 ((wr.alloc (.cells #[.int .i64 a.s, .int .i64 a.b, .int .i64 a.r, .int .i64 a.wd] 78)).alloc (.cells #[.int .i64 a.s, .int .i64 a.b, .int .i64 a.r, .int .i64 a.wd] 72)) (some ⟨(wr.alloc (.cells #[.int .i64 a.s, .int .i64 a.b, .int .i64 a.r, .int .i64 a.wd] 78)).heap.size, 0, none⟩) [a] := rows_of_block (enc := encL) (k := 4) encL_len R5 (l := [a]) rfl
      rw [hsz] at hs5
      have HS5 := Lib.hid hs5
      have HB4 := hb.out.trans (x4.mono hb.out.size)
      have HO5 := Lib.hid (own_below (own_below hown.out x4) x5)
      have HB5 := Lib.hid (HB4.trans (x5.mono HB4.size))
      clear hown hb x4 x5 R5 HB4 hs5 hsz
      go_wp2_with (at_builtin; refine wpList_appK (enc := encL) ST encL_len (by omega) rfl (.tmp 12) (.tmp 22) rfl (base := w.heap.size) (v := .slice A3 k c3) rfl HO5.out _ 1 1 [a] rfl HS5.out ⟨Nat.le_refl _, fun h => by cases h⟩ rfl (kfl_one' encL_one _) (by simp only [maxLen]; omega) (by omega) HB5.out.size ?_; intro v6 w6 hown6 hg6 hor6; have HB6 := Lib.hid (HB5.out.grown hg6 HB5.out.size (fun j hj => (hlt4 j hj).1)); have HO6 : Hid (w6.ownsRow w.heap.size 72 4 v6 (k + 1) (kfl encL (l.take (k + 1)))) := Lib.hid (by rw [HTK.out, kfl_append]; exact hown6); clear hown6 hg6 hor6 HO5 HS5 HB5)
      go_roundg (gk - 1)
      case measure => omega
      case rel => exact ⟨k + 1, by go_num, by omega, by omega, HB6, HO6⟩
    · obtain rfl : n = k := by omega
      have e2 : l.take n = l := List.take_of_length_le (by rw [HL.out]; exact Nat.le_refl _)
      have ho2 := hown.out
      rw [e2] at ho2
      have HO := Lib.hid ho2
      have HB := Lib.hid hb.out
      clear ho2 hown hb e2
      go_wp2
      go_ret
      exact ⟨_, rfl, HO.out, HB.out⟩
theorem r22 (x : Int) (w : World) : Calls Try.prog 52 #[.int .i64 x] w fun e w' => e = .returned (.bool (decide (0 ≤ x ∧ x ≤ 1099511627776))) ∧ w' = w := by
  by_cases g1 : 0 ≤ x
  · have k1 : decide (0 ≤ x) = true := decide_eq_true g1
    by_cases g2 : x ≤ 1099511627776
    · have k2 : decide (x ≤ 1099511627776) = true := decide_eq_true g2
      have HR : Hid (decide (0 ≤ x ∧ x ≤ 1099511627776) = true) := Lib.hid (decide_eq_true ⟨g1, g2⟩)
      rw [HR.out]
      go_enter Try.func52, Try.ntmps52
      go_wp2
      go_ret
      exact ⟨rfl, rfl⟩
    · have k2 : decide (x ≤ 1099511627776) = false := decide_eq_false g2
      have HR : Hid (decide (0 ≤ x ∧ x ≤ 1099511627776) = false) := Lib.hid (decide_eq_false fun h => g2 h.2)
      rw [HR.out]
      clear g2
      go_enter Try.func52, Try.ntmps52
      go_wp2
      go_ret
      exact ⟨rfl, rfl⟩
  · have k1 : decide (0 ≤ x) = false := decide_eq_false g1
    have HR : Hid (decide (0 ≤ x ∧ x ≤ 1099511627776) = false) := Lib.hid (decide_eq_false fun h => g1 h.1)
    rw [HR.out]
    clear g1
    go_enter Try.func52, Try.ntmps52
    go_wp2
    go_ret
    exact ⟨rfl, rfl⟩
theorem lok_iff (a : Ln) : Lok a ↔ (0 ≤ a.s ∧ a.s ≤ 1099511627776) ∧ (0 ≤ a.b ∧ a.b ≤ 1099511627776) ∧ (0 ≤ a.r ∧ a.r ≤ 1099511627776) ∧ (0 ≤ a.wd ∧ a.wd ≤ 1099511627776) ∧ a.r ≠ 0 := Iff.rfl
set_option maxHeartbeats 8000000 in
set_option maxRecDepth 100000 in
theorem lright (A : Option Addr) (n c : Nat) (l : List Ln) (w : World) (hA : RowsAt encL 4 w A l) (hl : l.length = n) (hn : n ≤ maxLen) (r : Bool) (hr : r = true ↔ Loks l) :
    Calls Try.prog 27 #[.slice A n c] w fun e w' => e = .returned (.bool r) ∧ Below w.heap.size w w' := by
  unfold maxLen at hn
  have HA := Lib.hid hA
  have HL := Lib.hid hl
  have HR := Lib.hid hr
  clear hA hl hr
  go_enter Try.func27, Try.ntmps27
  go_wp2_with fail
  go_loopg [7] n (fun g i wr => ∃ k : Nat, i = .int .i64 k ∧ k ≤ n ∧ n - k ≤ g ∧ Hid (Below w.heap.size w wr) ∧ Hid (Loks (l.take k)))
  case atStart => exact ⟨0, rfl, by omega, by omega, Lib.hid (Below.refl _ _), Lib.hid (fun x hx => absurd hx (by simp))⟩
  case round =>
    obtain ⟨k, rfl, h1, h2, hb, hok⟩ := hrel
    by_cases hlt : k < n
    · have hkl : k < l.length := by rw [HL.out]; exact hlt
      obtain ⟨bA, off, rfl, hbA, d0, d1, d2, d3⟩ := rowsL (HA.out.below hb.out) hkl
      have htk : l.take (k + 1) = l.take k ++ [l[k]] := by rw [List.take_succ_eq_append_getElem hkl]
      have hmem : l[k] ∈ l := List.getElem_mem hkl
      have HTK := Lib.hid htk
      have HMEM := Lib.hid hmem
      clear htk hmem
      generalize l[k] = a at *
      have i1 : (0 : Int) ≤ k := by omega
      have i2 : (k : Int) < n := by omega
      have x3 : Below wr.heap.size wr (wr.alloc (.cells #[.int .i64 a.s, .int .i64 a.b, .int .i64 a.r, .int .i64 a.wd] 72)) := (Below.refl _ _).alloc (Nat.le_refl _) _
      have R3 : RawAt 72 (wr.alloc (.cells #[.int .i64 a.s, .int .i64 a.b, .int .i64 a.r, .int .i64 a.wd] 72)) wr.heap.size #[.int .i64 a.s, .int .i64 a.b, .int .i64 a.r, .int .i64 a.wd] := heap_alloc_new wr _
      have HB3 := Lib.hid (hb.out.trans (x3.mono hb.out.size))
      have c0 := RawAt.cell R3 0
      have c1 := RawAt.cell R3 1
      have c2 := RawAt.cell R3 2
      have c3' := RawAt.cell R3 3
      simp at c0 c1 c2 c3'
      have C0 := Lib.hid fun W => r22 a.s W
      have C1 := Lib.hid fun W => r22 a.b W
      have C2 := Lib.hid fun W => r22 a.r W
      have C3 := Lib.hid fun W => r22 a.wd W
      have HLO := Lib.hid (lok_iff a)
      clear R3 x3 hb
      by_cases g0 : 0 ≤ a.s ∧ a.s ≤ 1099511627776
      · rw [decide_eq_true g0] at C0
        by_cases g1 : 0 ≤ a.b ∧ a.b ≤ 1099511627776
        · rw [decide_eq_true g1] at C1
          by_cases g2 : 0 ≤ a.r ∧ a.r ≤ 1099511627776
          · rw [decide_eq_true g2] at C2
            by_cases g3 : 0 ≤ a.wd ∧ a.wd ≤ 1099511627776
            · rw [decide_eq_true g3] at C3
              by_cases g4 : a.r = 0
              · have k5 : decide (a.r = 0) = true := decide_eq_true g4
                have k6 : (a.r == 0) = true := by simp [g4]
                have hno : ¬ Lok a := fun h => (HLO.out.1 h).2.2.2.2 g4
                have e : r = false := by cases r; rfl; exact absurd (HR.out.1 rfl _ HMEM.out) hno
                subst e
                clear hno g0 g1 g2 g3 g4
                go_wp2_with fail
                with_reducible refine (C0.out _).mono ?_
                rintro e w4 ⟨rfl, hw4⟩
                subst hw4
                go_wp2_with fail
                with_reducible refine (C1.out _).mono ?_
                rintro e w5 ⟨rfl, hw5⟩
                subst hw5
                go_wp2_with fail
                with_reducible refine (C2.out _).mono ?_
                rintro e w6 ⟨rfl, hw6⟩
                subst hw6
                go_wp2_with fail
                with_reducible refine (C3.out _).mono ?_
                rintro e w7 ⟨rfl, hw7⟩
                subst hw7
                go_wp2
                go_ret
                exact ⟨rfl, HB3.out⟩
              · have k5 : decide (a.r = 0) = false := decide_eq_false g4
                have k6 : (a.r == 0) = false := by simp [g4]
                have HOK : Hid (Loks (l.take (k + 1))) := Lib.hid (by rw [HTK.out]; exact hok.out.append_ (fun x hx => by rw [List.mem_singleton.1 hx]; exact HLO.out.2 ⟨g0, g1, g2, g3, g4⟩))
                clear g0 g1 g2 g3 g4 hok
                go_wp2_with fail
                with_reducible refine (C0.out _).mono ?_
                rintro e w4 ⟨rfl, hw4⟩
                subst hw4
                go_wp2_with fail
                with_reducible refine (C1.out _).mono ?_
                rintro e w5 ⟨rfl, hw5⟩
                subst hw5
                go_wp2_with fail
                with_reducible refine (C2.out _).mono ?_
                rintro e w6 ⟨rfl, hw6⟩
                subst hw6
                go_wp2_with fail
                with_reducible refine (C3.out _).mono ?_
                rintro e w7 ⟨rfl, hw7⟩
                subst hw7
                go_wp2
                go_roundg (gk - 1)
                case measure => omega
                case rel => exact ⟨k + 1, by go_num, by omega, by omega, HB3, HOK⟩
            · rw [decide_eq_false g3] at C3
              have hno : ¬ Lok a := fun h => g3 (HLO.out.1 h).2.2.2.1
              have e : r = false := by cases r; rfl; exact absurd (HR.out.1 rfl _ HMEM.out) hno
              subst e
              clear hno g0 g1 g2 g3
              go_wp2_with fail
              with_reducible refine (C0.out _).mono ?_
              rintro e w4 ⟨rfl, hw4⟩
              subst hw4
              go_wp2_with fail
              with_reducible refine (C1.out _).mono ?_
              rintro e w5 ⟨rfl, hw5⟩
              subst hw5
              go_wp2_with fail
              with_reducible refine (C2.out _).mono ?_
              rintro e w6 ⟨rfl, hw6⟩
              subst hw6
              go_wp2_with fail
              with_reducible refine (C3.out _).mono ?_
              rintro e w7 ⟨rfl, hw7⟩
              subst hw7
              go_wp2
              go_ret
              exact ⟨rfl, HB3.out⟩
          · rw [decide_eq_false g2] at C2
            have hno : ¬ Lok a := fun h => g2 (HLO.out.1 h).2.2.1
            have e : r = false := by cases r; rfl; exact absurd (HR.out.1 rfl _ HMEM.out) hno
            subst e
            clear hno g0 g1 g2
            go_wp2_with fail
            with_reducible refine (C0.out _).mono ?_
            rintro e w4 ⟨rfl, hw4⟩
            subst hw4
            go_wp2_with fail
            with_reducible refine (C1.out _).mono ?_
            rintro e w5 ⟨rfl, hw5⟩
            subst hw5
            go_wp2_with fail
            with_reducible refine (C2.out _).mono ?_
            rintro e w6 ⟨rfl, hw6⟩
            subst hw6
            go_wp2
            go_ret
            exact ⟨rfl, HB3.out⟩
        · rw [decide_eq_false g1] at C1
          have hno : ¬ Lok a := fun h => g1 (HLO.out.1 h).2.1
          have e : r = false := by cases r; rfl; exact absurd (HR.out.1 rfl _ HMEM.out) hno
          subst e
          clear hno g0 g1
          go_wp2_with fail
          with_reducible refine (C0.out _).mono ?_
          rintro e w4 ⟨rfl, hw4⟩
          subst hw4
          go_wp2_with fail
          with_reducible refine (C1.out _).mono ?_
          rintro e w5 ⟨rfl, hw5⟩
          subst hw5
          go_wp2
          go_ret
          exact ⟨rfl, HB3.out⟩
      · rw [decide_eq_false g0] at C0
        have hno : ¬ Lok a := fun h => g0 (HLO.out.1 h).1
        have e : r = false := by cases r; rfl; exact absurd (HR.out.1 rfl _ HMEM.out) hno
        subst e
        clear hno g0
        go_wp2_with fail
        with_reducible refine (C0.out _).mono ?_
        rintro e w4 ⟨rfl, hw4⟩
        subst hw4
        go_wp2
        go_ret
        exact ⟨rfl, HB3.out⟩
    · obtain rfl : n = k := by omega
      have e2 : l.take n = l := List.take_of_length_le (by rw [HL.out]; exact Nat.le_refl _)
      have hk2 := hok.out
      rw [e2] at hk2
      have e := HR.out.2 hk2
      subst e
      have HB := Lib.hid hb.out
      clear hk2 hok hb e2
      go_wp2
      go_ret
      exact ⟨rfl, HB.out⟩
end Go.Proofs.Ytnfjleobcfhpnaa
