/- The document's stops: the contracts of its Right, Sizes, Cells. -/
import Derived.Test.YtbalafgoengppaaDoorStB
import Derived.Test.YtbalafgoengppaaDoorRefP
namespace Go.Proofs.YtbalafgoengppaaDoor
open Go.RowKit
set_option linter.unusedVariables false
theorem rsRight_yes (tab : Int) (w : World) (h1 : 1 ≤ tab) (h2 : tab ≤ 16) : Calls Tryd.prog 16 #[.int .i64 tab] w fun e w' => e = .returned (.bool true) ∧ w' = w := by
  have k1 : decide (1 ≤ tab) = true := decide_eq_true h1
  have k2 : decide (tab ≤ 16) = true := decide_eq_true h2
  go_enter Tryd.func16, Tryd.ntmps16
  go_wp2
  go_ret
  exact ⟨rfl, rfl⟩
theorem rsRight_no (tab : Int) (w : World) (h : ¬ (1 ≤ tab ∧ tab ≤ 16)) : Calls Tryd.prog 16 #[.int .i64 tab] w fun e w' => e = .returned (.bool false) ∧ w' = w := by
  by_cases h1 : 1 ≤ tab
  · have h2 : ¬ tab ≤ 16 := fun h2 => h ⟨h1, h2⟩
    have k1 : decide (1 ≤ tab) = true := decide_eq_true h1
    have k2 : decide (tab ≤ 16) = false := decide_eq_false h2
    go_enter Tryd.func16, Tryd.ntmps16
    go_wp2
    go_ret
    exact ⟨rfl, rfl⟩
  · have k1 : decide (1 ≤ tab) = false := decide_eq_false h1
    go_enter Tryd.func16, Tryd.ntmps16
    go_wp2
    go_ret
    exact ⟨rfl, rfl⟩
set_option maxHeartbeats 4000000 in
set_option maxRecDepth 100000 in
theorem rsSizes_any (tb : Nat) (zs ws : List (Int × Int)) (A : Option Addr) (n c : Nat) (l : List Int) (tab : Int) (w : World) (hT : RTab w tb zs ws) (hA : IntsAt .i32 w A l) (hl : l.length = n) (hn : n ≤ 1000000) (h1 : 1 ≤ tab) (h2 : tab ≤ 16) :
    Calls Tryd.prog 18 #[.pointer (some ⟨tb, 0, none⟩), .slice A n c, .int .i64 tab] w fun e w' => ∃ v, e = .returned v ∧ w'.ownsRow w.heap.size 3 1 v n ((szs (wid zs ws) tab 0 l).map (.int .i64)) ∧ Below w.heap.size w w' := by
  obtain ⟨i0, hi0, hz0, hz1, hz2⟩ := info_parts int_info
  have HT := Lib.hid hT
  have HA := Lib.hid hA
  have HL := Lib.hid hl
  have HF := Lib.hid (wid_bd zs ws)
  have HZ := Lib.hid (szs_length (wid zs ws) tab l 0)
  clear hT hA hl
  go_enter Tryd.func18, Tryd.ntmps18
  go_wp2_with fail
  go_loopg [7, 8, 10, 11, 14] n (fun g v a r x i wr => ∃ (j : Nat) (p : Int) (d : List Int) (u : Value), i = .int .i64 j ∧ j ≤ n ∧ n - j ≤ g ∧ a = .int .i64 p ∧ u = v ∧ 0 ≤ p ∧ p ≤ 16 * j ∧ Hid (Below w.heap.size w wr) ∧ Hid (wr.ownsRow w.heap.size 3 1 u d.length (d.map (.int .i64))) ∧ Hid (d ++ szs (wid zs ws) tab p (l.drop j) = szs (wid zs ws) tab 0 l) ∧ Hid (d.length = j))
  case atStart => exact ⟨0, 0, [], _, rfl, by omega, by omega, rfl, rfl, by omega, by omega, Lib.hid (Below.refl _ _), Lib.hid ⟨rfl, .inl ⟨rfl, rfl⟩⟩, Lib.hid rfl, Lib.hid rfl⟩
  case round =>
    obtain ⟨j, p, d, v, rfl, g1, g2, rfl, rfl, p1, p2, hb, hown, hst, hdl⟩ := hrel
    by_cases hlt : j < n
    · have hjl : j < l.length := by rw [HL.out]; exact hlt
      have hdn : d.length < n := by rw [hdl.out]; exact hlt
      obtain ⟨bA, off, rfl, hbA, hce⟩ := (HA.out.below hb.out) (by omega)
      have d0 := hce j hjl
      have hs := hst.out
      rw [List.drop_eq_getElem_cons hjl, szs] at hs
      have e : l[j] = nth l j := by simp [nth, List.getD, hjl]
      rw [e] at hs
      clear hce e hst
      generalize nth l j = r at *
      have i1 : (0 : Int) ≤ j := by omega
      have i2 : (j : Int) < n := by omega
      have bx := csz_bd HF.out h1 h2 p1 r
      have CW := Lib.hid (rof_any tb zs ws r wr (HT.out.below hb.out))
      obtain ⟨G, hG⟩ : ∃ G, G = gk := ⟨_, rfl⟩
      subst hG
      by_cases hr : r = 9
      · subst hr
        have HX : Hid (csz (wid zs ws) tab p 9 = tleft tab p) := Lib.hid (by unfold csz; rw [if_pos rfl])
        rw [HX.out] at hs bx
        have HS := Lib.hid hs
        have HS2 := Lib.hid (show (d ++ [tleft tab p]) ++ szs (wid zs ws) tab (p + tleft tab p) (l.drop (j + 1)) = szs (wid zs ws) tab 0 l from by rw [List.append_assoc]; exact hs)
        have HTL : Hid (tleft tab p = if p < 64 then tab - p % tab else 1) := Lib.hid rfl
        obtain ⟨t1, t2⟩ := tleft_bd h1 p1 (tab := tab)
        clear hs HS HX
        generalize tleft tab p = x at *
        obtain ⟨b1, b2⟩ := bx
        go_wp2_with fail
        with_reducible refine (CW.out).mono ?_
        rintro e w4 ⟨rfl, hb4⟩
        have HB4 := Lib.hid (hb.out.trans (hb4.mono hb.out.size))
        have HOW := Lib.hid (own_below (own_below hown.out hb4) ((Below.refl _ _).alloc (Nat.le_refl _) (.cells #[.int .i64 x] 3)))
        have HB4A := Lib.hid (HB4.out.alloc HB4.out.size (.cells #[.int .i64 x] 3))
        clear hb hown hb4 CW
        go_wp2_with fail
        go_loopg [11] (x.toNat + 1) (fun g y wq => ∃ z : Int, y = .int .i64 z ∧ 1 ≤ z ∧ z ≤ x ∧ x - z < g ∧ w4 = wq)
        case atStart => exact ⟨1, rfl, by omega, by omega, by omega, rfl⟩
        case round =>
          obtain ⟨z, rfl, z1, z2, z3, rfl⟩ := hrel
          by_cases hz : z < x
          · have hp64 : p < 64 := by
              have := HTL.out
              by_cases h : p < 64
              · exact h
              · rw [if_neg h] at this; omega
            have hne := tab_ne h1 p1 z1 (show z < tab - p % tab by have := HTL.out; rw [if_pos hp64] at this; omega)
            have k1 : decide (p < 64) = true := decide_eq_true hp64
            have k2 : ((p + z) % tab != 0) = true := by simpa using hne
            have k3 : ((p + z) % tab == 0) = false := by simpa using hne
            clear hne
            go_wp2_with fail
            go_roundg (gk - 1)
            case measure => omega
            case rel => exact ⟨z + 1, rfl, by omega, by omega, by omega, rfl⟩
          · obtain rfl : z = x := by omega
            by_cases hp64 : p < 64
            · have heq : (p + z) % tab = 0 := by have := HTL.out; rw [if_pos hp64] at this; rw [this]; exact tab_eq h1
              have k1 : decide (p < 64) = true := decide_eq_true hp64
              have k2 : ((p + z) % tab != 0) = false := by simpa using heq
              have k3 : ((p + z) % tab == 0) = true := by simpa using heq
              clear heq
              obtain ⟨x, rfl⟩ : ∃ x, x = z := ⟨_, rfl⟩
              go_wp2_with (at_builtin; go_loud (refine wpList_append_own _ rfl (.tmp 35) (.tmp 37) _ rfl w.heap.size 3 i0 _ 1 8 Tryd.underlying24 hi0 hz0 hz1 hz2 rfl (by omega) v d.length (d.map (.int .i64)) rfl HOW.out ⟨w4.heap.size, 0, none⟩ 1 1 [.int .i64 x] rfl rfl (one_new _ _ _) (by simp [Value.oneCell']) (by simp only [maxLen]; omega) (by omega) (by have := HB4.out.size; simp; omega) ?_; intro v5 w5 hown5 hg5 hnil5; clear hnil5; obtain ⟨g5, cap5, rfl⟩ := own_slice hown5 (by omega)))
              have HO5 := Lib.hid hown5
              have HB5 := Lib.hid (HB4A.out.grown hg5 (by have := HB4.out.size; simp; omega) (fun k hk => (HOW.out.lt k hk).1))
              clear hown5 hg5
              go_roundg (G - 1)
              case measure => omega
              case rel => exact ⟨j + 1, p + x, d ++ [x], _, by go_num, by omega, by omega, rfl, rfl, by omega, by omega, HB5, Lib.hid (by have := HO5.out; rw [List.length_append, List.map_append]; exact this), HS2, Lib.hid (by have := hdl.out; rw [List.length_append]; simp; omega)⟩
            · have k1 : decide (p < 64) = false := decide_eq_false hp64
              obtain ⟨x, rfl⟩ : ∃ x, x = z := ⟨_, rfl⟩
              go_wp2_with (at_builtin; go_loud (refine wpList_append_own _ rfl (.tmp 35) (.tmp 37) _ rfl w.heap.size 3 i0 _ 1 8 Tryd.underlying24 hi0 hz0 hz1 hz2 rfl (by omega) v d.length (d.map (.int .i64)) rfl HOW.out ⟨w4.heap.size, 0, none⟩ 1 1 [.int .i64 x] rfl rfl (one_new _ _ _) (by simp [Value.oneCell']) (by simp only [maxLen]; omega) (by omega) (by have := HB4.out.size; simp; omega) ?_; intro v5 w5 hown5 hg5 hnil5; clear hnil5; obtain ⟨g5, cap5, rfl⟩ := own_slice hown5 (by omega)))
              have HO5 := Lib.hid hown5
              have HB5 := Lib.hid (HB4A.out.grown hg5 (by have := HB4.out.size; simp; omega) (fun k hk => (HOW.out.lt k hk).1))
              clear hown5 hg5
              go_roundg (G - 1)
              case measure => omega
              case rel => exact ⟨j + 1, p + x, d ++ [x], _, by go_num, by omega, by omega, rfl, rfl, by omega, by omega, HB5, Lib.hid (by have := HO5.out; rw [List.length_append, List.map_append]; exact this), HS2, Lib.hid (by have := hdl.out; rw [List.length_append]; simp; omega)⟩
      · have k1 : (r == 9) = false := by simpa using hr
        have HX : Hid (csz (wid zs ws) tab p r = wid zs ws r) := Lib.hid (by unfold csz; rw [if_neg hr])
        rw [HX.out] at hs bx
        have HS2 := Lib.hid (show (d ++ [wid zs ws r]) ++ szs (wid zs ws) tab (p + wid zs ws r) (l.drop (j + 1)) = szs (wid zs ws) tab 0 l from by rw [List.append_assoc]; exact hs)
        clear hs hr HX
        generalize wid zs ws r = x at *
        obtain ⟨b1, b2⟩ := bx
        go_wp2_with fail
        with_reducible refine (CW.out).mono ?_
        rintro e w4 ⟨rfl, hb4⟩
        have HB4 := Lib.hid (hb.out.trans (hb4.mono hb.out.size))
        have HOW := Lib.hid (own_below (own_below hown.out hb4) ((Below.refl _ _).alloc (Nat.le_refl _) (.cells #[.int .i64 x] 3)))
        have HB4A := Lib.hid (HB4.out.alloc HB4.out.size (.cells #[.int .i64 x] 3))
        clear hb hown hb4 CW
        go_wp2_with (at_builtin; go_loud (refine wpList_append_own _ rfl (.tmp 35) (.tmp 37) _ rfl w.heap.size 3 i0 _ 1 8 Tryd.underlying24 hi0 hz0 hz1 hz2 rfl (by omega) v d.length (d.map (.int .i64)) rfl HOW.out ⟨w4.heap.size, 0, none⟩ 1 1 [.int .i64 x] rfl rfl (one_new _ _ _) (by simp [Value.oneCell']) (by simp only [maxLen]; omega) (by omega) (by have := HB4.out.size; simp; omega) ?_; intro v5 w5 hown5 hg5 hnil5; clear hnil5; obtain ⟨g5, cap5, rfl⟩ := own_slice hown5 (by omega)))
        have HO5 := Lib.hid hown5
        have HB5 := Lib.hid (HB4A.out.grown hg5 (by have := HB4.out.size; simp; omega) (fun k hk => (HOW.out.lt k hk).1))
        clear hown5 hg5
        go_roundg (G - 1)
        case measure => omega
        case rel => exact ⟨j + 1, p + x, d ++ [x], _, by go_num, by omega, by omega, rfl, rfl, by omega, by omega, HB5, Lib.hid (by have := HO5.out; rw [List.length_append, List.map_append]; exact this), HS2, Lib.hid (by have := hdl.out; rw [List.length_append]; simp; omega)⟩
    · obtain rfl : j = n := by omega
      have hs := hst.out
      rw [List.drop_of_length_le (by rw [HL.out]; omega), szs, List.append_nil] at hs
      subst hs
      have h5 := hown.out
      rw [hdl.out] at h5
      have H5 := Lib.hid h5
      obtain ⟨A5, c5, rfl⟩ := own_form h5
      clear h5 hown
      go_wp2
      go_ret
      exact ⟨_, rfl, H5.out, hb.out⟩
end Go.Proofs.YtbalafgoengppaaDoor
