/- The walk of the law WrapHangs. -/
import Derived.Test.YtnlhpbnonmdkdaaWrI
namespace Go.Proofs.Ytnlhpbnonmdkdaa
open Go.RowKit
set_option linter.unusedVariables false
set_option maxHeartbeats 8000000 in
set_option maxRecDepth 100000 in
theorem wrapHangs_walk (A : Option Addr) (n c : Nat) (l : List Cl) (w : Int) (W : World) (hA : RowsAt encC 4 W A l) (hl : l.length = n) (hn : n ≤ maxLen) (hc : Caps A n c) (hO : ∀ s ∈ l, ClOk s) (wf : Lit.wf (.int .i64 w)) :
    Calls Try.prog 13 #[.slice A n c, .int .i64 w] W fun e W' => e = .returned (.bool true) ∧ Below W.heap.size W W' := by
  by_cases hr : n ≤ 200 ∧ W02 l
  · have CR := Lib.hid (right20_any A n c l W hA hl true (by simp [hr]))
    by_cases g1 : 0 ≤ w ∧ w ≤ 200
    · have CG := Lib.hid fun (V : World) => rright_any w true (by simp [g1]) V
      have CRW := Lib.hid fun (V : World) (hV : Below W.heap.size W V) => wRowsR A n c w l V (hA.below hV) hl hc (by omega) hr.2 g1.1 g1.2
      have CH1 := Lib.hid fun (V : World) (hV : Below W.heap.size W V) => wHang_any A n c l w V (hA.below hV) hl hc (by omega) hr.2
      have HWL := Lib.hid (wrapN_len hr.2 w)
      have hgb := hangN_bd hr.2 w
      have hn2 := hr.1
      have HL := Lib.hid hl
      have HA := Lib.hid hA
      have hzl := wrapN_length l w
      rw [hl] at hzl
      have HKP := Lib.hid (wrapN_keeps (l := l) (w := w))
      have HKH := Lib.hid (wrapN_hangs (l := l) (w := w))
      obtain ⟨w1', w2'⟩ := g1
      clear hA hl hn hc hO wf hr
      go_enter Try.func13, Try.ntmps13
      go_wp2_with (first | (go_at_call 26; refine (CR.out).mono ?_; rintro e w1 ⟨rfl, hb1⟩; have HB1 := Lib.hid hb1; clear hb1) | (go_at_call 32; refine (CG.out _).mono ?_; rintro e w0 ⟨rfl, hb0⟩; have HB0 := Lib.hid (HB1.out.trans (hb0.mono HB1.out.size)); clear hb0))
      go_loopg [26] n (fun g i wr => ∃ (j : Nat), i = .int .i64 (j : Int) ∧ j ≤ n ∧ n - j ≤ g ∧ Hid (noK (l.take j)) ∧ Hid (Below W.heap.size W wr))
      case atStart => exact ⟨0, rfl, by omega, by omega, Lib.hid (fun x hx => by simp at hx), HB0⟩
      case round =>
        clear HB0 HB1
        obtain ⟨j, rfl, h1, h3, hs, hb⟩ := hrel
        by_cases hlt : j < n
        · have hjl : j < l.length := by rw [HL.out]; exact hlt
          obtain ⟨bA, off, rfl, hbA, d0, d1, d2, d3⟩ := (HA.out.below hb.out).cell4 hjl
          have i1 : (0 : Int) ≤ j := by omega
          have i2 : (j : Int) < n := by omega
          have HS : Hid (¬ l[j].k = 5 → noK (l.take (j + 1))) := Lib.hid fun g1 x hx => by
            rw [List.take_succ_eq_append_getElem hjl] at hx
            rcases List.mem_append.1 hx with h | h
            · exact hs.out x h
            · simp at h; subst h; exact g1
          generalize l[j] = o at *
          have R3 : RawAt 35 (wr.alloc (.cells #[.int .i32 o.r, .int .i64 o.k, .int .i64 o.wd, .int .i64 o.p] 35)) wr.heap.size #[.int .i32 o.r, .int .i64 o.k, .int .i64 o.wd, .int .i64 o.p] := heap_alloc_new wr _
          have e1 := RawAt.cell R3 1
          simp at e1
          have HB3 := Lib.hid (hb.out.trans (((Below.refl _ _).alloc (Nat.le_refl _) (.cells #[.int .i32 o.r, .int .i64 o.k, .int .i64 o.wd, .int .i64 o.p] 35)).mono hb.out.size))
          clear R3 hb hs
          by_cases g5 : o.k = 5
          · have k5 : (o.k == 5) = true := by simp [g5]
            have k6 : decide (o.k = 5) = true := decide_eq_true g5
            clear g5 HS
            go_wp2_with (go_at_call 27; refine (hangs20_any _).mono ?_; rintro e w9 ⟨rfl, hb9⟩; have HB9 := Lib.hid (HB3.out.trans (hb9.mono HB3.out.size)); clear hb9)
            go_ret
            exact ⟨rfl, HB9.out⟩
          · have k5 : (o.k == 5) = false := by simp [g5]
            have k6 : decide (o.k = 5) = false := decide_eq_false g5
            have HSS := Lib.hid (HS.out g5)
            clear HS g5
            go_wp2_with fail
            go_roundg (gk - 1)
            case measure => omega
            case rel => exact ⟨j + 1, by go_num, by omega, by omega, HSS, HB3⟩
        · obtain rfl : j = n := by omega
          have hnk := hs.out
          rw [List.take_of_length_le (by rw [HL.out]; omega)] at hnk
          have HNK := Lib.hid hnk
          have HB1 := hb
          clear hnk hlt hs hb h1 h3
          obtain ⟨b1, b2, b3⟩ := hgb
          obtain ⟨h, hh⟩ : ∃ h : Nat, hangN l w = (h : Int) := ⟨(hangN l w).toNat, by omega⟩
          have HKK : Hid (∃ r rs', wrapN l w = r :: rs' ∧ nI r = 0 ∧ ∀ x ∈ rs', nI x = h ∧ h < x.length) := Lib.hid (by
            obtain ⟨r, q, e1, e2, e3⟩ := HKH.out HNK.out
            refine ⟨r, q, e1, e2, fun x hx => ?_⟩
            have := e3 x hx
            rw [hh] at this
            simpa using this)
          rw [hh] at CH1 b2 b3
          clear HKP HKH b1 hh
          generalize wrapN l w = rs at *
          obtain ⟨z, hz⟩ : ∃ z, rs.length = z := ⟨_, rfl⟩
          rw [hz] at CRW hzl
          have HZ := Lib.hid hz
          clear hz
          have n1 : decide ((8 : Int) < h) = false := decide_eq_false (by omega)
          have n4 : decide (8 < h) = false := decide_eq_false (by omega)
          by_cases hh0 : h = 0
          · have n2 : decide ((0 : Int) < h) = false := decide_eq_false (by omega)
            have n3 : decide (0 < h) = false := decide_eq_false (by omega)
            clear hh0 b3
            go_wp2_with (first | (go_at_call 28; refine (CRW.out _ HB1.out).mono ?_; rintro e w2 ⟨A2, c2, rfl, hR2, hb2⟩; have HB2 := Lib.hid (HB1.out.trans (hb2.mono HB1.out.size)); have HR2 := Lib.hid hR2; clear hb2 hR2) | (go_at_call 30; refine (CH1.out _ HB2.out).mono ?_; rintro e w3 ⟨rfl, hb3⟩; have HB3 := Lib.hid (HB2.out.trans (hb3.mono HB2.out.size)); have HR3 := Lib.hid (HR2.out.below hb3); clear hb3))
            go_loopg [62] z (fun g i wr => ∃ (y : Nat), i = .int .i64 (y : Int) ∧ y ≤ z ∧ z - y ≤ g ∧ Hid (Below w3.heap.size w3 wr))
            case atStart => exact ⟨0, rfl, by omega, by omega, Lib.hid (Below.refl _ _)⟩
            case round =>
              obtain ⟨y, rfl, y1, y2, hbq⟩ := hrel
              have HBX := Lib.hid (HB3.out.trans (hbq.out.mono HB3.out.size))
              by_cases hy : y < z
              · have hyr : y < rs.length := by rw [HZ.out]; exact hy
                obtain ⟨bA, off, Aj, cj, rfl, hbA, d0, hRj, hCj⟩ := (HR3.out.below hbq.out).at1 hyr
                have hle := HWL.out _ (List.getElem_mem hyr)
                rw [HL.out] at hle
                have HF0 : Hid (y = 0 → nI rs[y] = 0) := Lib.hid (fun e => by
                  obtain ⟨r, q, e1, e2, _⟩ := HKK.out
                  subst e
                  simp only [e1, List.getElem_cons_zero]
                  exact e2)
                have HF1 : Hid (0 < y → nI rs[y] = h ∧ h < rs[y].length) := Lib.hid (fun e => by
                  obtain ⟨r, q, e1, _, e3⟩ := HKK.out
                  obtain ⟨y', rfl⟩ : ∃ k, y = k + 1 := ⟨y - 1, by omega⟩
                  have h9 : y' < q.length := by rw [e1] at hyr; simpa using hyr
                  have := e3 q[y'] (List.getElem_mem h9)
                  simp only [e1, List.getElem_cons_succ]
                  exact this)
                generalize rs[y] = row at *
                obtain ⟨q, hq⟩ : ∃ q, row.length = q := ⟨_, rfl⟩
                rw [hq] at d0 hle HF1
                have HQ := Lib.hid hq
                have HRJ := Lib.hid hRj
                have i1 : (0 : Int) ≤ y := by omega
                have i2 : (y : Int) < z := by omega
                obtain ⟨gO, hgO⟩ : ∃ g, g = gk := ⟨_, rfl⟩
                obtain ⟨wO, hwO⟩ : ∃ x, x = wr := ⟨_, rfl⟩
                subst hgO
                subst hwO
                have HBO := Lib.hid hbq.out
                clear hRj hCj hq hbq HBX
                go_wp2_with fail
                go_loopg [12, 69] q (fun g v i wq => ∃ (x t : Nat), i = .int .i64 (x : Int) ∧ v = .int .i64 (t : Int) ∧ x ≤ q ∧ q - x ≤ g ∧ t ≤ x ∧ Hid (t = nI (row.take x)) ∧ Hid (Below wO.heap.size wO wq))
                case atStart => exact ⟨0, 0, rfl, rfl, by omega, by omega, by omega, Lib.hid rfl, Lib.hid (Below.refl _ _)⟩
                case round =>
                  obtain ⟨x, t, rfl, rfl, x1, x2, x3, ht, hbx⟩ := hrel
                  by_cases hx : x < q
                  · have hxr : x < row.length := by rw [HQ.out]; exact hx
                    obtain ⟨bC, offC, rfl, hbC, d0, d1, d2, d3⟩ := (HRJ.out.below hbx.out).cell4 hxr
                    have HNS : Hid (nI (row.take (x + 1)) = t + nI [row[x]]) := Lib.hid (by rw [List.take_succ_eq_append_getElem hxr, nI_append, ht.out])
                    generalize row[x] = o at *
                    have j1 : (0 : Int) ≤ x := by omega
                    have j2 : (x : Int) < q := by omega
                    have R3 : RawAt 35 (wr.alloc (.cells #[.int .i32 o.r, .int .i64 o.k, .int .i64 o.wd, .int .i64 o.p] 35)) wr.heap.size #[.int .i32 o.r, .int .i64 o.k, .int .i64 o.wd, .int .i64 o.p] := heap_alloc_new wr _
                    have e1 := RawAt.cell R3 1
                    simp at e1
                    have z3 : Below wr.heap.size wr (wr.alloc (.cells #[.int .i32 o.r, .int .i64 o.k, .int .i64 o.wd, .int .i64 o.p] 35)) := (Below.refl _ _).alloc (Nat.le_refl _) _
                    have HB9 := Lib.hid (hbx.out.trans (z3.mono hbx.out.size))
                    by_cases g5 : o.k = 5
                    · have k5 : (o.k == 5) = true := by simp [g5]
                      have k6 : decide (o.k = 5) = true := decide_eq_true g5
                      have HNS2 : Hid (nI (row.take (x + 1)) = t + 1) := Lib.hid (by rw [HNS.out]; simp [nI, g5])
                      clear g5 HNS R3 z3 hbx ht
                      go_wp2_with fail
                      go_roundg (gk - 1)
                      case measure => omega
                      case rel => exact ⟨x + 1, t + 1, by go_num, by go_num, by omega, by omega, by omega, Lib.hid HNS2.out.symm, HB9⟩
                    · have k5 : (o.k == 5) = false := by simp [g5]
                      have k6 : decide (o.k = 5) = false := decide_eq_false g5
                      have HNS2 : Hid (nI (row.take (x + 1)) = t) := Lib.hid (by rw [HNS.out]; simp [nI, g5])
                      clear g5 HNS R3 z3 hbx ht
                      go_wp2_with fail
                      go_roundg (gk - 1)
                      case measure => omega
                      case rel => exact ⟨x + 1, t, by go_num, rfl, by omega, by omega, by omega, Lib.hid HNS2.out.symm, HB9⟩
                  · obtain rfl : x = q := by omega
                    have ht2 := ht.out
                    rw [List.take_of_length_le (by rw [HQ.out]; omega)] at ht2
                    have HT2 := Lib.hid ht2
                    have HBX := Lib.hid (HBO.out.trans (hbx.out.mono HBO.out.size))
                    clear ht2 ht hbx
                    by_cases hy0 : y = 0
                    · have t0 : t = 0 := by rw [HT2.out]; exact HF0.out hy0
                      have m1 : ((y : Int) == 0) = true := by simp [hy0]
                      have m2 : decide ((y : Int) = 0) = true := decide_eq_true (by omega)
                      have m3 : decide ((0 : Int) < t) = false := decide_eq_false (by omega)
                      have m4 : decide ((0 : Int) < y) = false := decide_eq_false (by omega)
                      have m5 : decide (0 < t) = false := decide_eq_false (by omega)
                      have m6 : decide (0 < y) = false := decide_eq_false (by omega)
                      have m7 : ((y : Nat) == 0) = true := by simp [hy0]
                      clear hy0 t0
                      go_wp2_with fail
                      go_roundg (gO - 1)
                      case measure => omega
                      case rel => exact ⟨y + 1, by go_num, by omega, by omega, HBX⟩
                    · obtain ⟨f1, f2⟩ := HF1.out (by omega)
                      rw [← HT2.out] at f1
                      have m1 : ((y : Int) == 0) = false := by simp; omega
                      have m2 : decide ((y : Int) = 0) = false := decide_eq_false (by omega)
                      have m3 : ((t : Int) != (h : Int)) = false := by simp [f1]
                      have m4 : decide ((0 : Int) < y) = true := decide_eq_true (by omega)
                      have m5 : decide ((x : Int) ≤ t) = false := decide_eq_false (by omega)
                      have m6 : ((t : Int) == (h : Int)) = true := by simp [f1]
                      have m8 : 0 < y := by omega
                      have m9 : decide (x ≤ t) = false := decide_eq_false (by omega)
                      clear hy0 f1
                      go_wp2_with fail
                      go_roundg (gO - 1)
                      case measure => omega
                      case rel => exact ⟨y + 1, by go_num, by omega, by omega, HBX⟩
              · obtain rfl : y = z := by omega
                go_wp2_with (go_at_call 27; refine (hangs20_any _).mono ?_; rintro e w9 ⟨rfl, hb9⟩; have HB9 := Lib.hid (HBX.out.trans (hb9.mono HBX.out.size)); clear hb9)
                go_ret
                exact ⟨rfl, HB9.out⟩
          · have n2 : decide ((0 : Int) < h) = true := decide_eq_true (by omega)
            have n3 : decide (w - 2 < (h : Int)) = false := decide_eq_false (by omega)
            have n5 : 0 < h := by omega
            have n6 : (h : Int) ≤ w - 2 := by omega
            clear hh0 b3
            go_wp2_with (first | (go_at_call 28; refine (CRW.out _ HB1.out).mono ?_; rintro e w2 ⟨A2, c2, rfl, hR2, hb2⟩; have HB2 := Lib.hid (HB1.out.trans (hb2.mono HB1.out.size)); have HR2 := Lib.hid hR2; clear hb2 hR2) | (go_at_call 30; refine (CH1.out _ HB2.out).mono ?_; rintro e w3 ⟨rfl, hb3⟩; have HB3 := Lib.hid (HB2.out.trans (hb3.mono HB2.out.size)); have HR3 := Lib.hid (HR2.out.below hb3); clear hb3))
            go_loopg [62] z (fun g i wr => ∃ (y : Nat), i = .int .i64 (y : Int) ∧ y ≤ z ∧ z - y ≤ g ∧ Hid (Below w3.heap.size w3 wr))
            case atStart => exact ⟨0, rfl, by omega, by omega, Lib.hid (Below.refl _ _)⟩
            case round =>
              obtain ⟨y, rfl, y1, y2, hbq⟩ := hrel
              have HBX := Lib.hid (HB3.out.trans (hbq.out.mono HB3.out.size))
              by_cases hy : y < z
              · have hyr : y < rs.length := by rw [HZ.out]; exact hy
                obtain ⟨bA, off, Aj, cj, rfl, hbA, d0, hRj, hCj⟩ := (HR3.out.below hbq.out).at1 hyr
                have hle := HWL.out _ (List.getElem_mem hyr)
                rw [HL.out] at hle
                have HF0 : Hid (y = 0 → nI rs[y] = 0) := Lib.hid (fun e => by
                  obtain ⟨r, q, e1, e2, _⟩ := HKK.out
                  subst e
                  simp only [e1, List.getElem_cons_zero]
                  exact e2)
                have HF1 : Hid (0 < y → nI rs[y] = h ∧ h < rs[y].length) := Lib.hid (fun e => by
                  obtain ⟨r, q, e1, _, e3⟩ := HKK.out
                  obtain ⟨y', rfl⟩ : ∃ k, y = k + 1 := ⟨y - 1, by omega⟩
                  have h9 : y' < q.length := by rw [e1] at hyr; simpa using hyr
                  have := e3 q[y'] (List.getElem_mem h9)
                  simp only [e1, List.getElem_cons_succ]
                  exact this)
                generalize rs[y] = row at *
                obtain ⟨q, hq⟩ : ∃ q, row.length = q := ⟨_, rfl⟩
                rw [hq] at d0 hle HF1
                have HQ := Lib.hid hq
                have HRJ := Lib.hid hRj
                have i1 : (0 : Int) ≤ y := by omega
                have i2 : (y : Int) < z := by omega
                obtain ⟨gO, hgO⟩ : ∃ g, g = gk := ⟨_, rfl⟩
                obtain ⟨wO, hwO⟩ : ∃ x, x = wr := ⟨_, rfl⟩
                subst hgO
                subst hwO
                have HBO := Lib.hid hbq.out
                clear hRj hCj hq hbq HBX
                go_wp2_with fail
                go_loopg [12, 69] q (fun g v i wq => ∃ (x t : Nat), i = .int .i64 (x : Int) ∧ v = .int .i64 (t : Int) ∧ x ≤ q ∧ q - x ≤ g ∧ t ≤ x ∧ Hid (t = nI (row.take x)) ∧ Hid (Below wO.heap.size wO wq))
                case atStart => exact ⟨0, 0, rfl, rfl, by omega, by omega, by omega, Lib.hid rfl, Lib.hid (Below.refl _ _)⟩
                case round =>
                  obtain ⟨x, t, rfl, rfl, x1, x2, x3, ht, hbx⟩ := hrel
                  by_cases hx : x < q
                  · have hxr : x < row.length := by rw [HQ.out]; exact hx
                    obtain ⟨bC, offC, rfl, hbC, d0, d1, d2, d3⟩ := (HRJ.out.below hbx.out).cell4 hxr
                    have HNS : Hid (nI (row.take (x + 1)) = t + nI [row[x]]) := Lib.hid (by rw [List.take_succ_eq_append_getElem hxr, nI_append, ht.out])
                    generalize row[x] = o at *
                    have j1 : (0 : Int) ≤ x := by omega
                    have j2 : (x : Int) < q := by omega
                    have R3 : RawAt 35 (wr.alloc (.cells #[.int .i32 o.r, .int .i64 o.k, .int .i64 o.wd, .int .i64 o.p] 35)) wr.heap.size #[.int .i32 o.r, .int .i64 o.k, .int .i64 o.wd, .int .i64 o.p] := heap_alloc_new wr _
                    have e1 := RawAt.cell R3 1
                    simp at e1
                    have z3 : Below wr.heap.size wr (wr.alloc (.cells #[.int .i32 o.r, .int .i64 o.k, .int .i64 o.wd, .int .i64 o.p] 35)) := (Below.refl _ _).alloc (Nat.le_refl _) _
                    have HB9 := Lib.hid (hbx.out.trans (z3.mono hbx.out.size))
                    by_cases g5 : o.k = 5
                    · have k5 : (o.k == 5) = true := by simp [g5]
                      have k6 : decide (o.k = 5) = true := decide_eq_true g5
                      have HNS2 : Hid (nI (row.take (x + 1)) = t + 1) := Lib.hid (by rw [HNS.out]; simp [nI, g5])
                      clear g5 HNS R3 z3 hbx ht
                      go_wp2_with fail
                      go_roundg (gk - 1)
                      case measure => omega
                      case rel => exact ⟨x + 1, t + 1, by go_num, by go_num, by omega, by omega, by omega, Lib.hid HNS2.out.symm, HB9⟩
                    · have k5 : (o.k == 5) = false := by simp [g5]
                      have k6 : decide (o.k = 5) = false := decide_eq_false g5
                      have HNS2 : Hid (nI (row.take (x + 1)) = t) := Lib.hid (by rw [HNS.out]; simp [nI, g5])
                      clear g5 HNS R3 z3 hbx ht
                      go_wp2_with fail
                      go_roundg (gk - 1)
                      case measure => omega
                      case rel => exact ⟨x + 1, t, by go_num, rfl, by omega, by omega, by omega, Lib.hid HNS2.out.symm, HB9⟩
                  · obtain rfl : x = q := by omega
                    have ht2 := ht.out
                    rw [List.take_of_length_le (by rw [HQ.out]; omega)] at ht2
                    have HT2 := Lib.hid ht2
                    have HBX := Lib.hid (HBO.out.trans (hbx.out.mono HBO.out.size))
                    clear ht2 ht hbx
                    by_cases hy0 : y = 0
                    · have t0 : t = 0 := by rw [HT2.out]; exact HF0.out hy0
                      have m1 : ((y : Int) == 0) = true := by simp [hy0]
                      have m2 : decide ((y : Int) = 0) = true := decide_eq_true (by omega)
                      have m3 : decide ((0 : Int) < t) = false := decide_eq_false (by omega)
                      have m4 : decide ((0 : Int) < y) = false := decide_eq_false (by omega)
                      have m5 : decide (0 < t) = false := decide_eq_false (by omega)
                      have m6 : decide (0 < y) = false := decide_eq_false (by omega)
                      have m7 : ((y : Nat) == 0) = true := by simp [hy0]
                      clear hy0 t0
                      go_wp2_with fail
                      go_roundg (gO - 1)
                      case measure => omega
                      case rel => exact ⟨y + 1, by go_num, by omega, by omega, HBX⟩
                    · obtain ⟨f1, f2⟩ := HF1.out (by omega)
                      rw [← HT2.out] at f1
                      have m1 : ((y : Int) == 0) = false := by simp; omega
                      have m2 : decide ((y : Int) = 0) = false := decide_eq_false (by omega)
                      have m3 : ((t : Int) != (h : Int)) = false := by simp [f1]
                      have m4 : decide ((0 : Int) < y) = true := decide_eq_true (by omega)
                      have m5 : decide ((x : Int) ≤ t) = false := decide_eq_false (by omega)
                      have m6 : ((t : Int) == (h : Int)) = true := by simp [f1]
                      have m8 : 0 < y := by omega
                      have m9 : decide (x ≤ t) = false := decide_eq_false (by omega)
                      clear hy0 f1
                      go_wp2_with fail
                      go_roundg (gO - 1)
                      case measure => omega
                      case rel => exact ⟨y + 1, by go_num, by omega, by omega, HBX⟩
              · obtain rfl : y = z := by omega
                go_wp2_with (go_at_call 27; refine (hangs20_any _).mono ?_; rintro e w9 ⟨rfl, hb9⟩; have HB9 := Lib.hid (HBX.out.trans (hb9.mono HBX.out.size)); clear hb9)
                go_ret
                exact ⟨rfl, HB9.out⟩

    · have CG := Lib.hid fun (V : World) => rright_any w false (by simp; omega) V
      clear hA hl hn hc hO wf hr g1
      go_enter Try.func13, Try.ntmps13
      go_wp2_with (first | (go_at_call 26; refine (CR.out).mono ?_; rintro e w1 ⟨rfl, hb1⟩; have HB1 := Lib.hid hb1; clear hb1) | (go_at_call 32; refine (CG.out _).mono ?_; rintro e w0 ⟨rfl, hb0⟩; have HB0 := Lib.hid (HB1.out.trans (hb0.mono HB1.out.size)); clear hb0) | (go_at_call 27; refine (hangs20_any _).mono ?_; rintro e w9 ⟨rfl, hb9⟩; have HB9 := Lib.hid (HB0.out.trans (hb9.mono HB0.out.size)); clear hb9))
      go_ret
      exact ⟨rfl, HB9.out⟩
  · have CR := Lib.hid (right20_any A n c l W hA hl false (by simp; intro h; exact fun g => hr ⟨h, g⟩))
    clear hA hl hn hc hO wf hr
    go_enter Try.func13, Try.ntmps13
    go_wp2_with (first | (go_at_call 26; refine (CR.out).mono ?_; rintro e w1 ⟨rfl, hb1⟩; have HB1 := Lib.hid hb1; clear hb1) | (go_at_call 27; refine (hangs20_any _).mono ?_; rintro e w9 ⟨rfl, hb9⟩; have HB9 := Lib.hid (HB1.out.trans (hb9.mono HB1.out.size)); clear hb9))
    go_ret
    exact ⟨rfl, HB9.out⟩
end Go.Proofs.Ytnlhpbnonmdkdaa
