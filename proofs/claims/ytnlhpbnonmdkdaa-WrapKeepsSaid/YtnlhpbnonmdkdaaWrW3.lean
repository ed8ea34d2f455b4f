/- The walk of the law WrapKeeps. -/
import Derived.Test.YtnlhpbnonmdkdaaWrI
namespace Go.Proofs.Ytnlhpbnonmdkdaa
open Go.RowKit
set_option linter.unusedVariables false
set_option maxHeartbeats 8000000 in
set_option maxRecDepth 100000 in
theorem wrapKeeps_walk (A : Option Addr) (n c : Nat) (l : List Cl) (w : Int) (W : World) (hA : RowsAt encC 4 W A l) (hl : l.length = n) (hn : n ≤ maxLen) (hc : Caps A n c) (hO : ∀ s ∈ l, ClOk s) (wf : Lit.wf (.int .i64 w)) :
    Calls Try.prog 12 #[.slice A n c, .int .i64 w] W fun e W' => e = .returned (.bool true) ∧ Below W.heap.size W W' := by
  by_cases hr : n ≤ 200 ∧ W02 l
  · have CR := Lib.hid (right20_any A n c l W hA hl true (by simp [hr]))
    by_cases g1 : 0 ≤ w ∧ w ≤ 200
    · have CG := Lib.hid fun (V : World) => rright_any w true (by simp [g1]) V
      have CRW := Lib.hid fun (V : World) (hV : Below W.heap.size W V) => wRowsR A n c w l V (hA.below hV) hl hc (by omega) hr.2 g1.1 g1.2
      have CH1 := Lib.hid fun (V : World) (hV : Below W.heap.size W V) => wHang_any A n c l w V (hA.below hV) hl hc (by omega) hr.2
      have HWL := Lib.hid (wrapN_len hr.2 w)
      have hgb := hangN_bd hr.2 w
      have hn2 := hr.1
      have HL := Lib.hid hl
      have HA := Lib.hid hA
      have hzl := wrapN_length l w
      rw [hl] at hzl
      have HKP := Lib.hid (wrapN_keeps (l := l) (w := w))
      have HKH := Lib.hid (wrapN_hangs (l := l) (w := w))
      obtain ⟨w1', w2'⟩ := g1
      clear hA hl hn hc hO wf hr
      go_enter Try.func12, Try.ntmps12
      go_wp2_with (first | (go_at_call 26; refine (CR.out).mono ?_; rintro e w1 ⟨rfl, hb1⟩; have HB1 := Lib.hid hb1; clear hb1) | (go_at_call 32; refine (CG.out _).mono ?_; rintro e w0 ⟨rfl, hb0⟩; have HB0 := Lib.hid (HB1.out.trans (hb0.mono HB1.out.size)); clear hb0))
      go_loopg [25] n (fun g i wr => ∃ (j : Nat), i = .int .i64 (j : Int) ∧ j ≤ n ∧ n - j ≤ g ∧ Hid (noK (l.take j)) ∧ Hid (Below W.heap.size W wr))
      case atStart => exact ⟨0, rfl, by omega, by omega, Lib.hid (fun x hx => by simp at hx), HB0⟩
      case round =>
        clear HB0 HB1
        obtain ⟨j, rfl, h1, h3, hs, hb⟩ := hrel
        by_cases hlt : j < n
        · have hjl : j < l.length := by rw [HL.out]; exact hlt
          obtain ⟨bA, off, rfl, hbA, d0, d1, d2, d3⟩ := (HA.out.below hb.out).cell4 hjl
          have i1 : (0 : Int) ≤ j := by omega
          have i2 : (j : Int) < n := by omega
          have HS : Hid (¬ l[j].k = 5 → noK (l.take (j + 1))) := Lib.hid fun g1 x hx => by
            rw [List.take_succ_eq_append_getElem hjl] at hx
            rcases List.mem_append.1 hx with h | h
            · exact hs.out x h
            · simp at h; subst h; exact g1
          generalize l[j] = o at *
          have R3 : RawAt 35 (wr.alloc (.cells #[.int .i32 o.r, .int .i64 o.k, .int .i64 o.wd, .int .i64 o.p] 35)) wr.heap.size #[.int .i32 o.r, .int .i64 o.k, .int .i64 o.wd, .int .i64 o.p] := heap_alloc_new wr _
          have e1 := RawAt.cell R3 1
          simp at e1
          have HB3 := Lib.hid (hb.out.trans (((Below.refl _ _).alloc (Nat.le_refl _) (.cells #[.int .i32 o.r, .int .i64 o.k, .int .i64 o.wd, .int .i64 o.p] 35)).mono hb.out.size))
          clear R3 hb hs
          by_cases g5 : o.k = 5
          · have k5 : (o.k == 5) = true := by simp [g5]
            have k6 : decide (o.k = 5) = true := decide_eq_true g5
            clear g5 HS
            go_wp2_with (go_at_call 27; refine (hangs20_any _).mono ?_; rintro e w9 ⟨rfl, hb9⟩; have HB9 := Lib.hid (HB3.out.trans (hb9.mono HB3.out.size)); clear hb9)
            go_ret
            exact ⟨rfl, HB9.out⟩
          · have k5 : (o.k == 5) = false := by simp [g5]
            have k6 : decide (o.k = 5) = false := decide_eq_false g5
            have HSS := Lib.hid (HS.out g5)
            clear HS g5
            go_wp2_with fail
            go_roundg (gk - 1)
            case measure => omega
            case rel => exact ⟨j + 1, by go_num, by omega, by omega, HSS, HB3⟩
        · obtain rfl : j = n := by omega
          have hnk := hs.out
          rw [List.take_of_length_le (by rw [HL.out]; omega)] at hnk
          have HNK := Lib.hid hnk
          have HB1 := hb
          clear hnk hlt hs hb h1 h3
          have HKK := Lib.hid (HKP.out HNK.out)
          have hz0 : 0 < (wrapN l w).length := by obtain ⟨r, q, e, _⟩ := HKH.out HNK.out; rw [e]; simp
          clear HKP HKH hgb CH1
          generalize wrapN l w = rs at *
          obtain ⟨z, hz⟩ : ∃ z, rs.length = z := ⟨_, rfl⟩
          rw [hz] at CRW hzl hz0
          have HZ := Lib.hid hz
          clear hz
          have q1 : ((z : Int) == 0) = false := by simp; omega
          have q2 : decide ((z : Int) = 0) = false := decide_eq_false (by omega)
          have q3 : (z == 0) = false := by simp; omega
          have q4 : decide (z = 0) = false := decide_eq_false (by omega)
          have HBj := HB1
          go_wp2_with (go_at_call 28; refine (CRW.out _ HB1.out).mono ?_; rintro e w2 ⟨A2, c2, rfl, hR2, hb2⟩; have HB2 := Lib.hid (HB1.out.trans (hb2.mono HB1.out.size)); have HR2 := Lib.hid hR2; clear hb2 hR2)
          go_loopg [9, 49] z (fun g v i wr => ∃ (y m : Nat) (u : Value), i = .int .i64 (y : Int) ∧ u = v ∧ y ≤ z ∧ z - y ≤ g ∧ m ≤ y * 300 ∧ Hid (Below w2.heap.size w2 wr) ∧ Hid (wr.ownsRow w2.heap.size 35 4 u m (kfl encC ((rs.take y).map noI).flatten)))
          case atStart => exact ⟨0, 0, _, rfl, rfl, by omega, by omega, by omega, Lib.hid (Below.refl _ _), Lib.hid (World.ownsRow_nil _ _ _ _)⟩
          case round =>
            obtain ⟨y, m, u, rfl, rfl, y1, y2, y3, hbq, hoq⟩ := hrel
            by_cases hy : y < z
            · have hyr : y < rs.length := by rw [HZ.out]; exact hy
              obtain ⟨bA, off, Aj, cj, rfl, hbA, d0', hRj, hCj⟩ := HR2.out.at1 hyr
              have d0 := ((old_cells hbq.out).1 _ _ hbA).trans d0'
              have hle := HWL.out _ (List.getElem_mem hyr)
              rw [HL.out] at hle
              have HST : Hid (((rs.take (y + 1)).map noI).flatten = ((rs.take y).map noI).flatten ++ noI rs[y]) := Lib.hid (by rw [List.take_succ_eq_append_getElem hyr, List.map_append, List.flatten_append]; simp)
              clear d0'
              generalize ((rs.take y).map noI).flatten = pre at *
              generalize rs[y] = row at *
              obtain ⟨q, hq⟩ : ∃ q, row.length = q := ⟨_, rfl⟩
              rw [hq] at d0 hle
              have HQ := Lib.hid hq
              have HRJ := Lib.hid hRj
              have i1 : (0 : Int) ≤ y := by omega
              have i2 : (y : Int) < z := by omega
              obtain ⟨gO, hgO⟩ : ∃ g, g = gk := ⟨_, rfl⟩
              obtain ⟨wO, hwO⟩ : ∃ x, x = wr := ⟨_, rfl⟩
              subst hgO
              subst hwO
              have HBO := Lib.hid hbq.out
              have HOO := Lib.hid hoq.out
              obtain ⟨Au, cu, rfl⟩ := own_form hoq.out
              clear hRj hCj hq hbq hoq
              go_wp2_with fail
              go_loopg [9, 55] q (fun g v i wq => ∃ (x m' : Nat) (u : Value), i = .int .i64 (x : Int) ∧ u = v ∧ x ≤ q ∧ q - x ≤ g ∧ m' ≤ m + x ∧ Hid (Below w2.heap.size w2 wq) ∧ Hid (wq.ownsRow w2.heap.size 35 4 u m' (kfl encC (pre ++ noI (row.take x)))))
              case atStart => exact ⟨0, m, _, rfl, rfl, by omega, by omega, by omega, HBO, Lib.hid (by simpa [noI] using HOO.out)⟩
              case round =>
                obtain ⟨x, m', u, rfl, rfl, x1, x2, x3, hbx, hox⟩ := hrel
                clear HOO HBO
                by_cases hx : x < q
                · have hxr : x < row.length := by rw [HQ.out]; exact hx
                  obtain ⟨bC, offC, rfl, hbC, d0, d1, d2, d3⟩ := (HRJ.out.below hbx.out).cell4 hxr
                  have HNS : Hid (noI (row.take (x + 1)) = noI (row.take x) ++ noI [row[x]]) := Lib.hid (by rw [List.take_succ_eq_append_getElem hxr, noI_append])
                  generalize row[x] = o at *
                  have j1 : (0 : Int) ≤ x := by omega
                  have j2 : (x : Int) < q := by omega
                  have R3 : RawAt 35 (wr.alloc (.cells #[.int .i32 o.r, .int .i64 o.k, .int .i64 o.wd, .int .i64 o.p] 35)) wr.heap.size #[.int .i32 o.r, .int .i64 o.k, .int .i64 o.wd, .int .i64 o.p] := heap_alloc_new wr _
                  have z3 : Below wr.heap.size wr (wr.alloc (.cells #[.int .i32 o.r, .int .i64 o.k, .int .i64 o.wd, .int .i64 o.p] 35)) := (Below.refl _ _).alloc (Nat.le_refl _) _
                  have HO3 := Lib.hid (own_below hox.out z3)
                  have HB3 := Lib.hid (hbx.out.trans (z3.mono hbx.out.size))
                  by_cases g5 : o.k = 5
                  · have k5 : (o.k == 5) = true := by simp [g5]
                    have k5n : (o.k != 5) = false := by simp [g5]
                    have k6 : decide (o.k = 5) = true := decide_eq_true g5
                    have e1 := RawAt.cell R3 1
                    simp at e1
                    have HNS2 : Hid (noI (row.take (x + 1)) = noI (row.take x)) := Lib.hid (by rw [HNS.out]; simp [noI, g5])
                    obtain ⟨Av, cv', rfl⟩ := own_form hox.out
                    clear g5 HNS R3 z3 hbx hox
                    go_wp2_with fail
                    go_roundg (gk - 1)
                    case measure => omega
                    case rel => exact ⟨x + 1, m', _, by go_num, rfl, by omega, by omega, by omega, HB3, Lib.hid (by rw [HNS2.out]; exact HO3.out)⟩
                  · have k5 : (o.k == 5) = false := by simp [g5]
                    have k5n : (o.k != 5) = true := by simp [g5]
                    have k6 : decide (o.k = 5) = false := decide_eq_false g5
                    have HNS2 : Hid (noI (row.take (x + 1)) = noI (row.take x) ++ [o]) := Lib.hid (by rw [HNS.out]; simp [noI, g5])
                    obtain ⟨W3, hW3⟩ : ∃ W3, wr.alloc (.cells #[.int .i32 o.r, .int .i64 o.k, .int .i64 o.wd, .int .i64 o.p] 35) = W3 := ⟨_, rfl⟩
                    have hs3 : W3.heap.size = wr.heap.size + 1 := by rw [← hW3]; simp
                    rw [hW3] at R3 HO3 HB3
                    have e0 := RawAt.cell R3 0
                    have e1 := RawAt.cell R3 1
                    have e2 := RawAt.cell R3 2
                    have e3 := RawAt.cell R3 3
                    simp at e0 e1 e2 e3
                    have z4 : Below W3.heap.size W3 (W3.alloc (.cells #[.int .i32 o.r, .int .i64 o.k, .int .i64 o.wd, .int .i64 o.p] 35)) := (Below.refl _ _).alloc (Nat.le_refl _) _
                    have HO4 := Lib.hid (own_below HO3.out z4)
                    have HB4 := Lib.hid (HB3.out.trans (z4.mono HB3.out.size))
                    have HRW : Hid (RowsAt encC 4 (W3.alloc (.cells #[.int .i32 o.r, .int .i64 o.k, .int .i64 o.wd, .int .i64 o.p] 35)) (some ⟨W3.heap.size, 0, none⟩) [o]) := Lib.hid (row_new encC_len W3 [o] #[.int .i32 o.r, .int .i64 o.k, .int .i64 o.wd, .int .i64 o.p] 35 rfl)
                    obtain ⟨Av, cv', rfl⟩ := own_form hox.out
                    clear g5 HNS R3 z3 hbx hox z4
                    clear hs3
                    go_wp2_with (at_builtin; (refine wpList_appK (enc := encC) cell_slt encC_len (by omega) rfl (.tmp 62) (.tmp 64) rfl rfl HO4.out (some ⟨W3.heap.size, 0, none⟩) 1 1 [o] rfl HRW.out ⟨Nat.le_refl _, fun h => by cases h⟩ rfl (kfl_one' encC_one _) (by simp only [maxLen]; omega) (by omega) HB4.out.size ?_; intro v5 w5 hown5 hg5 hn5))
                    have HO5 := Lib.hid hown5
                    have HB5 := Lib.hid (HB4.out.grown hg5 HB4.out.size (fun k hk => (HO4.out.lt k hk).1))
                    clear hown5 hg5 hn5
                    go_roundg (gk - 1)
                    case measure => omega
                    case rel => exact ⟨x + 1, m' + 1, _, by go_num, rfl, by omega, by omega, by omega, HB5, Lib.hid (by rw [HNS2.out, ← List.append_assoc, kfl_append]; exact HO5.out)⟩
                · obtain rfl : x = q := by omega
                  have hx2 := hox.out
                  rw [List.take_of_length_le (by rw [HQ.out]; omega), ← HST.out] at hx2
                  have HX2 := Lib.hid hx2
                  obtain ⟨Av, cv', rfl⟩ := own_form hox.out
                  have HBX := Lib.hid hbx.out
                  clear hx2 hox hbx
                  go_wp2_with fail
                  go_roundg (gO - 1)
                  case measure => omega
                  case rel => exact ⟨y + 1, m', _, by go_num, rfl, by omega, by omega, by omega, HBX, HX2⟩
            · obtain rfl : y = z := by omega
              have hx2 := hoq.out
              rw [List.take_of_length_le (by rw [HZ.out]; omega), HKK.out] at hx2
              have hmn := own_len encC_len (by omega) hx2
              rw [HL.out] at hmn
              obtain rfl : j = m := hmn
              obtain ⟨Av, cv', rfl, hRv, _, _⟩ := rows_of_own encC_len (by omega) hx2
              have HRV := Lib.hid hRv
              have HBX := Lib.hid (HB2.out.trans (hbq.out.mono HB2.out.size))
              have CPL := Lib.hid (plcells_any Av A _ cv' c l wr HRV.out (HA.out.below HBX.out) HL.out (by omega))
              clear hx2 hRv hoq hbq
              go_wp2_with (first | (go_at_call 34; refine (CPL.out).mono ?_; rintro e w8 ⟨rfl, hb8⟩; have HB8 := Lib.hid (HBX.out.trans (hb8.mono HBX.out.size)); clear hb8) | (go_at_call 27; refine (hangs20_any _).mono ?_; rintro e w9 ⟨rfl, hb9⟩; have HB9 := Lib.hid (HB8.out.trans (hb9.mono HB8.out.size)); clear hb9))
              go_ret
              exact ⟨rfl, HB9.out⟩

    · have CG := Lib.hid fun (V : World) => rright_any w false (by simp; omega) V
      clear hA hl hn hc hO wf hr g1
      go_enter Try.func12, Try.ntmps12
      go_wp2_with (first | (go_at_call 26; refine (CR.out).mono ?_; rintro e w1 ⟨rfl, hb1⟩; have HB1 := Lib.hid hb1; clear hb1) | (go_at_call 32; refine (CG.out _).mono ?_; rintro e w0 ⟨rfl, hb0⟩; have HB0 := Lib.hid (HB1.out.trans (hb0.mono HB1.out.size)); clear hb0) | (go_at_call 27; refine (hangs20_any _).mono ?_; rintro e w9 ⟨rfl, hb9⟩; have HB9 := Lib.hid (HB0.out.trans (hb9.mono HB0.out.size)); clear hb9))
      go_ret
      exact ⟨rfl, HB9.out⟩
  · have CR := Lib.hid (right20_any A n c l W hA hl false (by simp; intro h; exact fun g => hr ⟨h, g⟩))
    clear hA hl hn hc hO wf hr
    go_enter Try.func12, Try.ntmps12
    go_wp2_with (first | (go_at_call 26; refine (CR.out).mono ?_; rintro e w1 ⟨rfl, hb1⟩; have HB1 := Lib.hid hb1; clear hb1) | (go_at_call 27; refine (hangs20_any _).mono ?_; rintro e w9 ⟨rfl, hb9⟩; have HB9 := Lib.hid (HB1.out.trans (hb9.mono HB1.out.size)); clear hb9))
    go_ret
    exact ⟨rfl, HB9.out⟩
end Go.Proofs.Ytnlhpbnonmdkdaa
