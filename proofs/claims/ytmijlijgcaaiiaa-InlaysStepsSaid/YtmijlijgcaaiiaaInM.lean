/- Inlays: the document's ahead and wrong. -/
import Derived.Test.YtmijlijgcaaiiaaInH
namespace Go.Proofs.Ytmijlijgcaaiiaa
open Go.RowKit Go.Sort
set_option linter.unusedVariables false
theorem inm_nth {l : List Int} {j : Nat} (h : j < l.length) : nth l j = l[j] := by simp [nth, List.getD, h]
theorem inm_in {l : List Int} {j : Nat} (h : j < l.length) : nth l j ∈ l := by rw [inm_nth h]; exact List.getElem_mem h
theorem inm_take {l : List Int} {j : Nat} (h : j < l.length) : l.take (j + 1) = l.take j ++ [nth l j] := by rw [inm_nth h]; exact List.take_succ_eq_append_getElem h
set_option maxHeartbeats 4000000 in
set_option maxRecDepth 100000 in
theorem iahead_any (x y : In) (w : World) (b : Bool) (hb : b = ilt x y) :
    Calls Try.prog 49 #[.agg #[.int .i64 x.id, .int .i64 x.pl, .int .i64 x.bi, .int .i64 x.ky, .string x.tx], .agg #[.int .i64 y.id, .int .i64 y.pl, .int .i64 y.bi, .int .i64 y.ky, .string y.tx]] w fun e w' => e = .returned (.bool b) ∧ Below w.heap.size w w' := by
  have x1 : Below w.heap.size w (w.alloc (.cells #[.int .i64 x.id, .int .i64 x.pl, .int .i64 x.bi, .int .i64 x.ky, .string x.tx] 46)) := (Below.refl _ _).alloc (Nat.le_refl _) _
  have x2 : Below w.heap.size w ((w.alloc (.cells #[.int .i64 x.id, .int .i64 x.pl, .int .i64 x.bi, .int .i64 x.ky, .string x.tx] 46)).alloc (.cells #[.int .i64 y.id, .int .i64 y.pl, .int .i64 y.bi, .int .i64 y.ky, .string y.tx] 46)) := x1.alloc x1.size _
  have HX := Lib.hid x2
  have HB := Lib.hid hb
  clear x1 x2 hb
  by_cases p : x.pl = y.pl
  · have e1a : decide (x.pl = y.pl) = true := decide_eq_true p
    have e2a : (x.pl == y.pl) = true := by simp [p]
    have e3a : (x.pl != y.pl) = false := by simp [p]
    by_cases s : x.ky = y.ky
    · have e1b : decide (x.ky = y.ky) = true := decide_eq_true s
      have e2b : (x.ky == y.ky) = true := by simp [s]
      have e3b : (x.ky != y.ky) = false := by simp [s]
      by_cases q : x.id < y.id
      · have hbb : b = true := by rw [HB.out]; unfold ilt; exact decide_eq_true (by omega)
        subst hbb
        have k : decide (x.id < y.id) = true := decide_eq_true q
        clear q HB p s
        go_enter Try.func49, Try.ntmps49
        go_wp2
        go_ret
        exact ⟨rfl, HX.out⟩
      · have hbb : b = false := by rw [HB.out]; unfold ilt; exact decide_eq_false (by omega)
        subst hbb
        have k : decide (x.id < y.id) = false := decide_eq_false q
        clear q HB p s
        go_enter Try.func49, Try.ntmps49
        go_wp2
        go_ret
        exact ⟨rfl, HX.out⟩
    · have e1b : decide (x.ky = y.ky) = false := decide_eq_false s
      have e2b : (x.ky == y.ky) = false := by simp [s]
      have e3b : (x.ky != y.ky) = true := by simp [s]
      by_cases q : x.ky < y.ky
      · have hbb : b = true := by rw [HB.out]; unfold ilt; exact decide_eq_true (by omega)
        subst hbb
        have k : decide (x.ky < y.ky) = true := decide_eq_true q
        clear q HB p s
        go_enter Try.func49, Try.ntmps49
        go_wp2
        go_ret
        exact ⟨rfl, HX.out⟩
      · have hbb : b = false := by rw [HB.out]; unfold ilt; exact decide_eq_false (by omega)
        subst hbb
        have k : decide (x.ky < y.ky) = false := decide_eq_false q
        clear q HB p s
        go_enter Try.func49, Try.ntmps49
        go_wp2
        go_ret
        exact ⟨rfl, HX.out⟩
  · have e1a : decide (x.pl = y.pl) = false := decide_eq_false p
    have e2a : (x.pl == y.pl) = false := by simp [p]
    have e3a : (x.pl != y.pl) = true := by simp [p]
    by_cases q : x.pl < y.pl
    · have hbb : b = true := by rw [HB.out]; unfold ilt; exact decide_eq_true (by omega)
      subst hbb
      have k : decide (x.pl < y.pl) = true := decide_eq_true q
      clear q HB p
      go_enter Try.func49, Try.ntmps49
      go_wp2
      go_ret
      exact ⟨rfl, HX.out⟩
    · have hbb : b = false := by rw [HB.out]; unfold ilt; exact decide_eq_false (by omega)
      subst hbb
      have k : decide (x.pl < y.pl) = false := decide_eq_false q
      clear q HB p
      go_enter Try.func49, Try.ntmps49
      go_wp2
      go_ret
      exact ⟨rfl, HX.out⟩
set_option maxHeartbeats 16000000 in
set_option maxRecDepth 100000 in
theorem rwrong13_any (n : Int) (A : Option Addr) (m c : Nat) (seen : List In) (a : In) (w : World) (hA : RowsAt encI 5 w A seen) (hl : seen.length = m) (hm : m ≤ 1000000) (hs : a.tx.size ≤ 100000000) (r : Int) (hr : r = wr13 n seen a) :
    Calls Try.prog 46 #[.int .i64 n, .slice A m c, .agg #[.int .i64 a.id, .int .i64 a.pl, .int .i64 a.bi, .int .i64 a.ky, .string a.tx]] w fun e w' => e = .returned (.int .i64 r) ∧ Below w.heap.size w w' := by
  have HA := Lib.hid hA
  have HL := Lib.hid hl
  have CC := Lib.hid fun (W : World) => rdecode_any a.tx W (by omega)
  have HTEN := Lib.hid (has10_dec a.tx)
  have HR := Lib.hid hr
  clear hr hA hl
  have x1 : Below w.heap.size w (w.alloc (.cells #[.int .i64 a.id, .int .i64 a.pl, .int .i64 a.bi, .int .i64 a.ky, .string a.tx] 46)) := (Below.refl _ _).alloc (Nat.le_refl _) _
  have R1 : RawAt 46 (w.alloc (.cells #[.int .i64 a.id, .int .i64 a.pl, .int .i64 a.bi, .int .i64 a.ky, .string a.tx] 46)) w.heap.size #[.int .i64 a.id, .int .i64 a.pl, .int .i64 a.bi, .int .i64 a.ky, .string a.tx] := heap_alloc_new w _
  obtain ⟨D, hD⟩ : ∃ D, D = dec a.tx := ⟨_, rfl⟩
  have HD := Lib.hid hD
  rw [← hD] at CC HTEN
  obtain ⟨len, hlen⟩ : ∃ k, k = D.length := ⟨_, rfl⟩
  have HLN := Lib.hid hlen
  have hle : len ≤ 100000000 := by rw [hlen, hD]; exact Nat.le_trans (dec_len a.tx) hs
  rw [← hlen] at CC
  clear hlen hs hD
  obtain ⟨W1, hW1⟩ : ∃ W1, W1 = w.alloc (.cells #[.int .i64 a.id, .int .i64 a.pl, .int .i64 a.bi, .int .i64 a.ky, .string a.tx] 46) := ⟨_, rfl⟩
  rw [← hW1] at x1 R1
  have HW1 := Lib.hid hW1
  have X1 := Lib.hid x1
  have RR := Lib.hid R1
  clear hW1 x1 R1
  by_cases c1 : a.id < 1
  · have kc1 : decide (a.id < 1) = true := decide_eq_true c1
    have hr : r = 1 := by rw [HR.out, wr13, iwr, if_pos (show a.id < 1 ∨ a.pl < 0 ∨ n < a.pl ∨ (a.bi ≠ 0 ∧ a.bi ≠ 1) by omega)]; rfl
    subst hr
    clear HR CC
    have e0 := RawAt.cell RR.out 0
    have e1 := RawAt.cell RR.out 1
    have e2 := RawAt.cell RR.out 2
    have e4 := RawAt.cell RR.out 4
    simp at e0 e1 e2 e4
    go_enter Try.func46, Try.ntmps46
    go_wp2_with fail
    rw [← HW1.out]
    go_wp2
    go_ret
    exact ⟨rfl, X1.out⟩
  · have kc1 : decide (a.id < 1) = false := decide_eq_false c1
    by_cases c2 : a.pl < 0
    · have kc2 : decide (a.pl < 0) = true := decide_eq_true c2
      have hr : r = 1 := by rw [HR.out, wr13, iwr, if_pos (show a.id < 1 ∨ a.pl < 0 ∨ n < a.pl ∨ (a.bi ≠ 0 ∧ a.bi ≠ 1) by omega)]; rfl
      subst hr
      clear HR CC
      have e0 := RawAt.cell RR.out 0
      have e1 := RawAt.cell RR.out 1
      have e2 := RawAt.cell RR.out 2
      have e4 := RawAt.cell RR.out 4
      simp at e0 e1 e2 e4
      go_enter Try.func46, Try.ntmps46
      go_wp2_with fail
      rw [← HW1.out]
      go_wp2
      go_ret
      exact ⟨rfl, X1.out⟩
    · have kc2 : decide (a.pl < 0) = false := decide_eq_false c2
      by_cases c3 : n < a.pl
      · have kc3 : decide (n < a.pl) = true := decide_eq_true c3
        have hr : r = 1 := by rw [HR.out, wr13, iwr, if_pos (show a.id < 1 ∨ a.pl < 0 ∨ n < a.pl ∨ (a.bi ≠ 0 ∧ a.bi ≠ 1) by omega)]; rfl
        subst hr
        clear HR CC
        have e0 := RawAt.cell RR.out 0
        have e1 := RawAt.cell RR.out 1
        have e2 := RawAt.cell RR.out 2
        have e4 := RawAt.cell RR.out 4
        simp at e0 e1 e2 e4
        go_enter Try.func46, Try.ntmps46
        go_wp2_with fail
        rw [← HW1.out]
        go_wp2
        go_ret
        exact ⟨rfl, X1.out⟩
      · have kc3 : decide (n < a.pl) = false := decide_eq_false c3
        by_cases c4 : a.bi ≠ 0 ∧ a.bi ≠ 1
        · obtain ⟨c4, c5⟩ := c4
          have k4 : (a.bi != 0) = true := by simp [c4]
          have k5 : (a.bi != 1) = true := by simp [c5]
          have k6 : (a.bi == 0) = false := by simp [c4]
          have k7 : (a.bi == 1) = false := by simp [c5]
          have hr : r = 1 := by rw [HR.out, wr13, iwr, if_pos (show a.id < 1 ∨ a.pl < 0 ∨ n < a.pl ∨ (a.bi ≠ 0 ∧ a.bi ≠ 1) by omega)]; rfl
          subst hr
          clear HR CC
          have e0 := RawAt.cell RR.out 0
          have e1 := RawAt.cell RR.out 1
          have e2 := RawAt.cell RR.out 2
          have e4 := RawAt.cell RR.out 4
          simp at e0 e1 e2 e4
          go_enter Try.func46, Try.ntmps46
          go_wp2_with fail
          rw [← HW1.out]
          go_wp2
          go_ret
          exact ⟨rfl, X1.out⟩
        · have hn : ¬ (a.id < 1 ∨ a.pl < 0 ∨ n < a.pl ∨ (a.bi ≠ 0 ∧ a.bi ≠ 1)) := by omega
          have HN := Lib.hid hn
          clear hn
          have kb : (a.bi = 0 ∨ a.bi = 1) := by omega
          clear c4 c1 c2 c3
          have HF : Hid (∀ v : Int, iwr n a = v → r = if v ≠ 0 then v else if seen.any (fun b => b.id == a.id) then 8 else 0) := Lib.hid fun v h => by rw [HR.out, wr13, h]
          clear HR
          have HI : Hid (iwr n a = if 40 < len then 2 else if len = 0 ∨ has10 a.tx = true then 4 else 0) := Lib.hid (by rw [iwr, if_neg HN.out, ← HD.out, ← HLN.out])
          clear HN
          rcases kb with kb | kb
          · have HK := Lib.hid kb
            have k4 : (a.bi != 0) = false := by simp [kb]
            have k6 : (a.bi == 0) = true := by simp [kb]
            clear kb
            have e0 := RawAt.cell RR.out 0
            have e1 := RawAt.cell RR.out 1
            have e2 := RawAt.cell RR.out 2
            have e4 := RawAt.cell RR.out 4
            simp at e0 e1 e2 e4
            by_cases d1 : 40 < len
            · have m1 : decide (40 < len) = true := decide_eq_true d1
              have m2 : decide ((40 : Int) < (len : Int)) = true := decide_eq_true (by omega)
              have hr : r = 2 := HF.out 2 (by rw [HI.out, if_pos d1])
              subst hr
              clear HF HI d1
              go_enter Try.func46, Try.ntmps46
              go_wp2_with fail
              rw [← HW1.out]
              go_wp2_with fail
              with_reducible refine (CC.out _).mono ?_
              rintro e w2 ⟨A2, c2, rfl, b2, hI2, hC2⟩
              have R2 := RawAt.below RR.out b2 RR.out.lt
              have e0' := RawAt.cell R2 0
              simp at e0'
              have Q2 := Lib.hid (X1.out.trans (b2.mono X1.out.size))
              have HI2 := Lib.hid hI2
              have HR2 := Lib.hid R2
              have HCC := Lib.hid CC.out
              clear R2 b2 hI2 hC2 CC RR
              go_wp2
              go_ret
              exact ⟨rfl, Q2.out⟩
            · have m1 : decide (40 < len) = false := decide_eq_false d1
              have m2 : decide ((40 : Int) < (len : Int)) = false := decide_eq_false (by omega)
              by_cases d2 : len = 0
              · subst d2
                have hr : r = 4 := HF.out 4 (by rw [HI.out, if_neg (by omega), if_pos (Or.inl rfl)])
                subst hr
                clear HF HI d1
                go_enter Try.func46, Try.ntmps46
                go_wp2_with fail
                rw [← HW1.out]
                go_wp2_with fail
                with_reducible refine (CC.out _).mono ?_
                rintro e w2 ⟨A2, c2, rfl, b2, hI2, hC2⟩
                have R2 := RawAt.below RR.out b2 RR.out.lt
                have e0' := RawAt.cell R2 0
                simp at e0'
                have Q2 := Lib.hid (X1.out.trans (b2.mono X1.out.size))
                have HI2 := Lib.hid hI2
                have HR2 := Lib.hid R2
                have HCC := Lib.hid CC.out
                clear R2 b2 hI2 hC2 CC RR
                go_wp2
                go_ret
                exact ⟨rfl, Q2.out⟩
              · have m3 : (len == 0) = false := by simp [d2]
                have m4 : decide (len = 0) = false := decide_eq_false d2
                have m5 : ((len : Int) == 0) = false := by simp [d2]
                have m6 : decide ((len : Int) = 0) = false := decide_eq_false (by omega)
                have HI3 : Hid (iwr n a = if has10 a.tx = true then 4 else 0) := Lib.hid (by rw [HI.out, if_neg d1]; simp only [d2, false_or])
                clear HI d1 d2
                go_enter Try.func46, Try.ntmps46
                go_wp2_with fail
                rw [← HW1.out]
                go_wp2_with fail
                with_reducible refine (CC.out _).mono ?_
                rintro e w2 ⟨A2, c2, rfl, b2, hI2, hC2⟩
                have R2 := RawAt.below RR.out b2 RR.out.lt
                have e0' := RawAt.cell R2 0
                simp at e0'
                have Q2 := Lib.hid (X1.out.trans (b2.mono X1.out.size))
                have HI2 := Lib.hid hI2
                have HR2 := Lib.hid R2
                have HCC := Lib.hid CC.out
                clear R2 b2 hI2 hC2 CC RR
                go_wp2_with fail
                go_loopg [9, 47] len (fun g x i wr => ∃ (j : Nat), i = .int .i64 j ∧ j ≤ len ∧ len - j ≤ g ∧ Hid (Below w2.heap.size w2 wr) ∧ Hid ((10 : Int) ∉ D.take j))
                case atStart => exact ⟨0, rfl, by omega, by omega, Lib.hid (Below.refl _ _), Lib.hid (by simp)⟩
                case round =>
                  obtain ⟨j, rfl, h1, h2, hb, hno⟩ := hrel
                  by_cases hlt : j < len
                  · have hjl : j < D.length := by rw [← HLN.out]; exact hlt
                    obtain ⟨bD, offD, rfl, hbD, hcD⟩ := (HI2.out.below hb.out) (by omega)
                    have q := hcD j hjl
                    have hmem : nth D j ∈ D := inm_in hjl
                    have htk : D.take (j + 1) = D.take j ++ [nth D j] := inm_take hjl
                    have HTK := Lib.hid htk
                    have HME := Lib.hid hmem
                    clear hcD htk hmem hjl
                    generalize nth D j = z at *
                    have i1 : (0 : Int) ≤ j := by omega
                    have i2 : (j : Int) < len := by omega
                    by_cases hz : z = 10
                    · subst hz
                      have hr : r = 4 := HF.out 4 (by rw [HI3.out, if_pos (HTEN.out.2 HME.out)])
                      subst hr
                      have HQ := Lib.hid (Q2.out.trans (hb.out.mono Q2.out.size))
                      clear HF HI3 hno hb HTEN
                      go_wp2
                      go_ret
                      exact ⟨rfl, HQ.out⟩
                    · have z1 : (z == 10) = false := by simp [hz]
                      have z2 : decide (z = 10) = false := decide_eq_false hz
                      have HNO : Hid ((10 : Int) ∉ D.take (j + 1)) := Lib.hid (by
                        rw [HTK.out]
                        intro h
                        rcases List.mem_append.1 h with h | h
                        · exact hno.out h
                        · exact hz (List.mem_singleton.1 h).symm)
                      clear hno hz
                      go_wp2
                      go_roundg (gk - 1)
                      case measure => omega
                      case rel => exact ⟨j + 1, by go_num, by omega, by omega, hb, HNO⟩
                  · obtain rfl : len = j := by omega
                    have hz : iwr n a = 0 := by
                      rw [HI3.out, if_neg]
                      intro h
                      have := HTEN.out.1 h
                      have h3 := hno.out
                      rw [List.take_of_length_le (by rw [← HLN.out]; exact Nat.le_refl _)] at h3
                      exact h3 this
                    have hg : r = if seen.any (fun b => b.id == a.id) then 8 else 0 := by
                      have := HF.out 0 hz
                      rw [this, if_neg (by simp)]
                    have HG := Lib.hid hg
                    have HQ := Lib.hid (Q2.out.trans (hb.out.mono Q2.out.size))
                    have HBX := Lib.hid (HR2.out.below hb.out HR2.out.lt)
                    obtain ⟨V, hV⟩ : ∃ V, V = wr := ⟨_, rfl⟩
                    have HSA := Lib.hid (HA.out.below HQ.out)
                    rw [← hV] at HQ HBX HSA
                    have HVV := Lib.hid hV
                    clear hg hz hno hb HF HI3 HTEN HI2 hV
                    go_wp2_with fail
                    rw [← HVV.out]
                    go_loopg [11, 56] m (fun g x i wr3 => ∃ (j : Nat), i = .int .i64 j ∧ j ≤ m ∧ m - j ≤ g ∧ Hid (Below V.heap.size V wr3) ∧ Hid (∀ x ∈ seen.take j, (x.id == a.id) = false))
                    case atStart => exact ⟨0, rfl, by omega, by omega, Lib.hid (Below.refl _ _), Lib.hid (fun x hx => absurd hx (by simp))⟩
                    case round =>
                      obtain ⟨j, rfl, g1, g2, hb, hno⟩ := hrel
                      by_cases hlt : j < m
                      · have hjl : j < seen.length := by rw [HL.out]; exact hlt
                        obtain ⟨bA, off, rfl, hbA, d0, d1, d2, d3, d4⟩ := (HSA.out.below hb.out).in5 hjl
                        have HTK := Lib.hid (List.take_succ_eq_append_getElem hjl)
                        have HME := Lib.hid (List.getElem_mem hjl)
                        generalize seen[j] = o at *
                        have i1 : (0 : Int) ≤ j := by omega
                        have i2 : (j : Int) < m := by omega
                        have hB2 := HBX.out.below hb.out HBX.out.lt
                        have f0 := RawAt.cell hB2 0
                        have hB3 := hB2.below ((Below.refl wr.heap.size wr).alloc (Nat.le_refl _) (.cells #[.int .i64 o.id, .int .i64 o.pl, .int .i64 o.bi, .int .i64 o.ky, .string o.tx] 46)) hB2.lt
                        have f1 := RawAt.cell hB3 0
                        simp at f0 f1
                        have HB3 := Lib.hid (hb.out.trans (((Below.refl wr.heap.size wr).alloc (Nat.le_refl _) (.cells #[.int .i64 o.id, .int .i64 o.pl, .int .i64 o.bi, .int .i64 o.ky, .string o.tx] 46)).mono hb.out.size))
                        clear hb hB2 hB3
                        by_cases q : o.id = a.id
                        · have q1 : (o.id == a.id) = true := by simp [q]
                          have q2 : decide (o.id = a.id) = true := decide_eq_true q
                          have hr : r = 8 := by
                            rw [HG.out, if_pos]
                            exact List.any_eq_true.2 ⟨o, HME.out, q1⟩
                          subst hr
                          have HQ3 := Lib.hid (HQ.out.trans (HB3.out.mono HQ.out.size))
                          clear HG q HB3 hno
                          go_wp2
                          go_ret
                          exact ⟨rfl, HQ3.out⟩
                        · have q1 : (o.id == a.id) = false := by simp [q]
                          have q2 : decide (o.id = a.id) = false := decide_eq_false q
                          have HNO : Hid (∀ x ∈ seen.take (j + 1), (x.id == a.id) = false) := Lib.hid (by
                            rw [HTK.out]
                            intro x hx
                            rcases List.mem_append.1 hx with hx | hx
                            · exact hno.out x hx
                            · rw [List.mem_singleton.1 hx]; exact q1)
                          clear q hno HG
                          go_wp2
                          go_roundg (gk - 1)
                          case measure => omega
                          case rel => exact ⟨j + 1, by go_num, by omega, by omega, HB3, HNO⟩
                      · obtain rfl : j = m := by omega
                        have hr : r = 0 := by
                          rw [HG.out, if_neg]
                          intro h
                          obtain ⟨x, hx, hx2⟩ := List.any_eq_true.1 h
                          have h3 := hno.out
                          rw [List.take_of_length_le (by rw [HL.out]; exact Nat.le_refl _)] at h3
                          rw [h3 x hx] at hx2
                          exact absurd hx2 (by simp)
                        subst hr
                        have HQ3 := Lib.hid (HQ.out.trans (hb.out.mono HQ.out.size))
                        clear HG hno hb
                        go_wp2
                        go_ret
                        exact ⟨rfl, HQ3.out⟩
          · have HK := Lib.hid kb
            have k4 : (a.bi != 0) = true := by simp [kb]
            have k6 : (a.bi == 0) = false := by simp [kb]
            have k5 : (a.bi != 1) = false := by simp [kb]
            have k7 : (a.bi == 1) = true := by simp [kb]
            clear kb
            have e0 := RawAt.cell RR.out 0
            have e1 := RawAt.cell RR.out 1
            have e2 := RawAt.cell RR.out 2
            have e4 := RawAt.cell RR.out 4
            simp at e0 e1 e2 e4
            by_cases d1 : 40 < len
            · have m1 : decide (40 < len) = true := decide_eq_true d1
              have m2 : decide ((40 : Int) < (len : Int)) = true := decide_eq_true (by omega)
              have hr : r = 2 := HF.out 2 (by rw [HI.out, if_pos d1])
              subst hr
              clear HF HI d1
              go_enter Try.func46, Try.ntmps46
              go_wp2_with fail
              rw [← HW1.out]
              go_wp2_with fail
              with_reducible refine (CC.out _).mono ?_
              rintro e w2 ⟨A2, c2, rfl, b2, hI2, hC2⟩
              have R2 := RawAt.below RR.out b2 RR.out.lt
              have e0' := RawAt.cell R2 0
              simp at e0'
              have Q2 := Lib.hid (X1.out.trans (b2.mono X1.out.size))
              have HI2 := Lib.hid hI2
              have HR2 := Lib.hid R2
              have HCC := Lib.hid CC.out
              clear R2 b2 hI2 hC2 CC RR
              go_wp2
              go_ret
              exact ⟨rfl, Q2.out⟩
            · have m1 : decide (40 < len) = false := decide_eq_false d1
              have m2 : decide ((40 : Int) < (len : Int)) = false := decide_eq_false (by omega)
              by_cases d2 : len = 0
              · subst d2
                have hr : r = 4 := HF.out 4 (by rw [HI.out, if_neg (by omega), if_pos (Or.inl rfl)])
                subst hr
                clear HF HI d1
                go_enter Try.func46, Try.ntmps46
                go_wp2_with fail
                rw [← HW1.out]
                go_wp2_with fail
                with_reducible refine (CC.out _).mono ?_
                rintro e w2 ⟨A2, c2, rfl, b2, hI2, hC2⟩
                have R2 := RawAt.below RR.out b2 RR.out.lt
                have e0' := RawAt.cell R2 0
                simp at e0'
                have Q2 := Lib.hid (X1.out.trans (b2.mono X1.out.size))
                have HI2 := Lib.hid hI2
                have HR2 := Lib.hid R2
                have HCC := Lib.hid CC.out
                clear R2 b2 hI2 hC2 CC RR
                go_wp2
                go_ret
                exact ⟨rfl, Q2.out⟩
              · have m3 : (len == 0) = false := by simp [d2]
                have m4 : decide (len = 0) = false := decide_eq_false d2
                have m5 : ((len : Int) == 0) = false := by simp [d2]
                have m6 : decide ((len : Int) = 0) = false := decide_eq_false (by omega)
                have HI3 : Hid (iwr n a = if has10 a.tx = true then 4 else 0) := Lib.hid (by rw [HI.out, if_neg d1]; simp only [d2, false_or])
                clear HI d1 d2
                go_enter Try.func46, Try.ntmps46
                go_wp2_with fail
                rw [← HW1.out]
                go_wp2_with fail
                with_reducible refine (CC.out _).mono ?_
                rintro e w2 ⟨A2, c2, rfl, b2, hI2, hC2⟩
                have R2 := RawAt.below RR.out b2 RR.out.lt
                have e0' := RawAt.cell R2 0
                simp at e0'
                have Q2 := Lib.hid (X1.out.trans (b2.mono X1.out.size))
                have HI2 := Lib.hid hI2
                have HR2 := Lib.hid R2
                have HCC := Lib.hid CC.out
                clear R2 b2 hI2 hC2 CC RR
                go_wp2_with fail
                go_loopg [9, 47] len (fun g x i wr => ∃ (j : Nat), i = .int .i64 j ∧ j ≤ len ∧ len - j ≤ g ∧ Hid (Below w2.heap.size w2 wr) ∧ Hid ((10 : Int) ∉ D.take j))
                case atStart => exact ⟨0, rfl, by omega, by omega, Lib.hid (Below.refl _ _), Lib.hid (by simp)⟩
                case round =>
                  obtain ⟨j, rfl, h1, h2, hb, hno⟩ := hrel
                  by_cases hlt : j < len
                  · have hjl : j < D.length := by rw [← HLN.out]; exact hlt
                    obtain ⟨bD, offD, rfl, hbD, hcD⟩ := (HI2.out.below hb.out) (by omega)
                    have q := hcD j hjl
                    have hmem : nth D j ∈ D := inm_in hjl
                    have htk : D.take (j + 1) = D.take j ++ [nth D j] := inm_take hjl
                    have HTK := Lib.hid htk
                    have HME := Lib.hid hmem
                    clear hcD htk hmem hjl
                    generalize nth D j = z at *
                    have i1 : (0 : Int) ≤ j := by omega
                    have i2 : (j : Int) < len := by omega
                    by_cases hz : z = 10
                    · subst hz
                      have hr : r = 4 := HF.out 4 (by rw [HI3.out, if_pos (HTEN.out.2 HME.out)])
                      subst hr
                      have HQ := Lib.hid (Q2.out.trans (hb.out.mono Q2.out.size))
                      clear HF HI3 hno hb HTEN
                      go_wp2
                      go_ret
                      exact ⟨rfl, HQ.out⟩
                    · have z1 : (z == 10) = false := by simp [hz]
                      have z2 : decide (z = 10) = false := decide_eq_false hz
                      have HNO : Hid ((10 : Int) ∉ D.take (j + 1)) := Lib.hid (by
                        rw [HTK.out]
                        intro h
                        rcases List.mem_append.1 h with h | h
                        · exact hno.out h
                        · exact hz (List.mem_singleton.1 h).symm)
                      clear hno hz
                      go_wp2
                      go_roundg (gk - 1)
                      case measure => omega
                      case rel => exact ⟨j + 1, by go_num, by omega, by omega, hb, HNO⟩
                  · obtain rfl : len = j := by omega
                    have hz : iwr n a = 0 := by
                      rw [HI3.out, if_neg]
                      intro h
                      have := HTEN.out.1 h
                      have h3 := hno.out
                      rw [List.take_of_length_le (by rw [← HLN.out]; exact Nat.le_refl _)] at h3
                      exact h3 this
                    have hg : r = if seen.any (fun b => b.id == a.id) then 8 else 0 := by
                      have := HF.out 0 hz
                      rw [this, if_neg (by simp)]
                    have HG := Lib.hid hg
                    have HQ := Lib.hid (Q2.out.trans (hb.out.mono Q2.out.size))
                    have HBX := Lib.hid (HR2.out.below hb.out HR2.out.lt)
                    obtain ⟨V, hV⟩ : ∃ V, V = wr := ⟨_, rfl⟩
                    have HSA := Lib.hid (HA.out.below HQ.out)
                    rw [← hV] at HQ HBX HSA
                    have HVV := Lib.hid hV
                    clear hg hz hno hb HF HI3 HTEN HI2 hV
                    go_wp2_with fail
                    rw [← HVV.out]
                    go_loopg [11, 56] m (fun g x i wr3 => ∃ (j : Nat), i = .int .i64 j ∧ j ≤ m ∧ m - j ≤ g ∧ Hid (Below V.heap.size V wr3) ∧ Hid (∀ x ∈ seen.take j, (x.id == a.id) = false))
                    case atStart => exact ⟨0, rfl, by omega, by omega, Lib.hid (Below.refl _ _), Lib.hid (fun x hx => absurd hx (by simp))⟩
                    case round =>
                      obtain ⟨j, rfl, g1, g2, hb, hno⟩ := hrel
                      by_cases hlt : j < m
                      · have hjl : j < seen.length := by rw [HL.out]; exact hlt
                        obtain ⟨bA, off, rfl, hbA, d0, d1, d2, d3, d4⟩ := (HSA.out.below hb.out).in5 hjl
                        have HTK := Lib.hid (List.take_succ_eq_append_getElem hjl)
                        have HME := Lib.hid (List.getElem_mem hjl)
                        generalize seen[j] = o at *
                        have i1 : (0 : Int) ≤ j := by omega
                        have i2 : (j : Int) < m := by omega
                        have hB2 := HBX.out.below hb.out HBX.out.lt
                        have f0 := RawAt.cell hB2 0
                        have hB3 := hB2.below ((Below.refl wr.heap.size wr).alloc (Nat.le_refl _) (.cells #[.int .i64 o.id, .int .i64 o.pl, .int .i64 o.bi, .int .i64 o.ky, .string o.tx] 46)) hB2.lt
                        have f1 := RawAt.cell hB3 0
                        simp at f0 f1
                        have HB3 := Lib.hid (hb.out.trans (((Below.refl wr.heap.size wr).alloc (Nat.le_refl _) (.cells #[.int .i64 o.id, .int .i64 o.pl, .int .i64 o.bi, .int .i64 o.ky, .string o.tx] 46)).mono hb.out.size))
                        clear hb hB2 hB3
                        by_cases q : o.id = a.id
                        · have q1 : (o.id == a.id) = true := by simp [q]
                          have q2 : decide (o.id = a.id) = true := decide_eq_true q
                          have hr : r = 8 := by
                            rw [HG.out, if_pos]
                            exact List.any_eq_true.2 ⟨o, HME.out, q1⟩
                          subst hr
                          have HQ3 := Lib.hid (HQ.out.trans (HB3.out.mono HQ.out.size))
                          clear HG q HB3 hno
                          go_wp2
                          go_ret
                          exact ⟨rfl, HQ3.out⟩
                        · have q1 : (o.id == a.id) = false := by simp [q]
                          have q2 : decide (o.id = a.id) = false := decide_eq_false q
                          have HNO : Hid (∀ x ∈ seen.take (j + 1), (x.id == a.id) = false) := Lib.hid (by
                            rw [HTK.out]
                            intro x hx
                            rcases List.mem_append.1 hx with hx | hx
                            · exact hno.out x hx
                            · rw [List.mem_singleton.1 hx]; exact q1)
                          clear q hno HG
                          go_wp2
                          go_roundg (gk - 1)
                          case measure => omega
                          case rel => exact ⟨j + 1, by go_num, by omega, by omega, HB3, HNO⟩
                      · obtain rfl : j = m := by omega
                        have hr : r = 0 := by
                          rw [HG.out, if_neg]
                          intro h
                          obtain ⟨x, hx, hx2⟩ := List.any_eq_true.1 h
                          have h3 := hno.out
                          rw [List.take_of_length_le (by rw [HL.out]; exact Nat.le_refl _)] at h3
                          rw [h3 x hx] at hx2
                          exact absurd hx2 (by simp)
                        subst hr
                        have HQ3 := Lib.hid (HQ.out.trans (hb.out.mono HQ.out.size))
                        clear HG hno hb
                        go_wp2
                        go_ret
                        exact ⟨rfl, HQ3.out⟩
end Go.Proofs.Ytmijlijgcaaiiaa
