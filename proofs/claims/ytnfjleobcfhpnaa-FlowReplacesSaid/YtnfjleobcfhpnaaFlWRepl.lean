/- Flow: the law FlowReplaces, walked. -/
import Derived.Test.YtnfjleobcfhpnaaFlK
import Derived.Test.YtnfjleobcfhpnaaFlO
namespace Go.Proofs.Ytnfjleobcfhpnaa
open Go.RowKit
set_option linter.unusedVariables false
theorem encS_at {w : World} {A : Option Addr} {l : List FStep} (h : RowsAt encS22 3 w A l) {k : Nat} (hk : k < l.length) : ∃ b off, A = some ⟨b, off, none⟩ ∧ b < w.heap.size ∧ w.cell? ⟨b, off + k * 3, none⟩ = some (.int .i64 l[k].x) ∧ w.cell? ⟨b, off + k * 3 + 1, none⟩ = some (.int .i64 l[k].y) ∧ w.cell? ⟨b, off + k * 3 + 2, none⟩ = some (.slice l[k].A l[k].n l[k].c) := by
  obtain ⟨b, off, e, h1, hc⟩ := h.at1 hk
  exact ⟨b, off, e, h1, hc 0 (by omega), hc 1 (by omega), hc 2 (by omega)⟩
theorem rows_frontL {w : World} {A : Option Addr} {l : List Ln} (h : RowsAt encL 4 w A l) (j : Nat) : RowsAt encL 4 w A (l.take j) := by
  intro hl
  rw [List.length_take] at hl
  obtain ⟨b, off, rfl, h1, h2⟩ := h (by omega)
  exact ⟨b, off, rfl, h1, fun i hi c hc => by
    rw [h2 i (by rw [List.length_take] at hi; omega) c hc, List.getElem_take]⟩
set_option maxHeartbeats 32000000 in
set_option maxRecDepth 100000 in
theorem flowReplaces_walk (A : Option Addr) (n c : Nat) (l : List Ln) (A' : Option Addr) (n' c' : Nat) (st : List FStep) (w : World) (hI : RowsAt encL 4 w A l) (hl : l.length = n) (hn : n ≤ maxLen) (_hc : Caps A n c) (_hO : ∀ s ∈ l, LnWf s) (hI' : RowsAt encS22 3 w A' st) (hl' : st.length = n') (hn' : n' ≤ maxLen) (_hc' : Caps A' n' c') (hO' : ∀ s ∈ st, FSOk w s) :
    Calls Try.prog 8 #[.slice A n c, .slice A' n' c'] w fun e w' => e = .returned (.bool true) ∧ Below w.heap.size w w' := by
  have C6 := Lib.hid fun W => flsix W
  have ST := lr_slt
  have hnm := hn
  unfold maxLen at hn hn'
  by_cases g1 : 100 < n
  · have k1 : decide ((100 : Int) < (n : Int)) = true := decide_eq_true (by omega)
    clear hI hI' hO'
    go_enter Try.func8, Try.ntmps8
    go_wp2_with fail
    with_reducible refine (C6.out _).mono ?_
    rintro e w1 ⟨rfl, bb⟩
    have Q1 := Lib.hid bb
    clear bb
    go_wp2
    go_ret
    exact ⟨rfl, Q1.out⟩
  · have k1 : decide ((100 : Int) < (n : Int)) = false := decide_eq_false (by omega)
    by_cases g2 : 20 < n'
    · have k2 : decide ((20 : Int) < (n' : Int)) = true := decide_eq_true (by omega)
      clear hI hI' hO'
      go_enter Try.func8, Try.ntmps8
      go_wp2_with fail
      with_reducible refine (C6.out _).mono ?_
      rintro e w1 ⟨rfl, bb⟩
      have Q1 := Lib.hid bb
      clear bb
      go_wp2
      go_ret
      exact ⟨rfl, Q1.out⟩
    · have k2 : decide ((20 : Int) < (n' : Int)) = false := decide_eq_false (by omega)
      have CR := Lib.hid fun (W : World) (hW : Below w.heap.size w W) => lrefs A n c l W (hI.below hW) hl (by omega)
      have HL := Lib.hid hl
      have HLS := Lib.hid hl'
      have HIS := Lib.hid hI'
      have HOS := Lib.hid hO'
      clear hI' hO'
      by_cases ho : Loks l
      · have HO := Lib.hid ho
        have CN := Lib.hid fun (W : World) (hW : Below w.heap.size w W) => flnew A n c l W (hI.below hW) hl (by omega)
        clear ho hI
        go_enter Try.func8, Try.ntmps8
        go_wp2_with fail
        with_reducible refine (CR.out _ (Below.refl _ _)).mono ?_
        rintro e w2 ⟨v2, rfl, o2, bb⟩
        have Q1 := Lib.hid bb
        obtain ⟨A2, c2, rfl, hR2, _, hC2⟩ := rows_of_own encL_len (by omega) o2
        have CX := Lib.hid (lright A2 n c2 l w2 hR2 HL.out hnm true ⟨fun _ => HO.out, fun _ => rfl⟩)
        clear o2 hR2 hC2
        clear bb
        go_wp2_with fail
        with_reducible refine (CX.out).mono ?_
        rintro e w3 ⟨rfl, bb⟩
        have Q2 := Lib.hid (Q1.out.trans (bb.mono Q1.out.size))
        clear CX
        clear bb
        go_wp2_with fail
        with_reducible refine (CN.out _ Q2.out).mono ?_
        intro e w4 hr
        obtain ⟨bb, ⟨_, a, h, rfl, hF⟩ | ⟨hno, rfl⟩⟩ := hr
        rotate_left
        · exact absurd HO.out hno
        have Q4 := Lib.hid (Q2.out.trans (bb.mono Q2.out.size))
        have HF := Lib.hid hF
        clear bb hF CN Q2 Q1
        go_wp2_with fail
        with_reducible refine (CR.out _ Q4.out).mono ?_
        rintro e w5 ⟨v5, rfl, o5, bb⟩
        have Q5 := Lib.hid (Q4.out.trans (bb.mono Q4.out.size))
        obtain ⟨A5, c5, rfl, hR5, _, hC5⟩ := rows_of_own encL_len (by omega) o5
        have HF5 := Lib.hid (HF.out.below bb)
        have HR5 := Lib.hid hR5
        have HC5 := Lib.hid hC5
        clear o5 hR5 hC5 HF
        clear bb
        clear CR Q4
        go_wp2_with fail
        go_loopg [5, 7, 43] n' (fun g f nw i wr => ∃ (k m d h : Nat) (a : Addr) (B : Option Addr) (cur : List Ln), i = .int .i64 k ∧ f = .pointer (some a) ∧ nw = .slice B m d ∧ k ≤ n' ∧ n' - k ≤ g ∧ m ≤ 100 + 50 * k ∧ cur.length = m ∧ Hid (Below w.heap.size w wr) ∧ Hid (FlAt wr (some a) cur h) ∧ Hid (RowsAt encL 4 wr B cur) ∧ Hid (Caps B m d) ∧ Hid (Loks cur))
        case atStart => exact ⟨0, n, c5, h, a, A5, l, rfl, rfl, rfl, by omega, by omega, by omega, HL.out, Q5, HF5, HR5, HC5, HO⟩
        case round =>
          clear HF5 HR5 HC5 HO Q5 HL
          obtain ⟨k, m, d, h, a, B, cur, rfl, rfl, rfl, h1, h2, h3, hcl, hb, hF, hR, hC, hLo⟩ := hrel
          have HCL := Lib.hid hcl
          clear hcl
          by_cases hlt : k < n'
          · have hkl : k < st.length := by rw [HLS.out]; exact hlt
            have hso := (HOS.out _ (List.getElem_mem hkl)).below hb.out
            obtain ⟨bA, off, rfl, hbA, d0, d1, d2⟩ := encS_at (HIS.out.below hb.out) hkl
            generalize st[k] = s at *
            obtain ⟨x, y, A3, n3, c3, L⟩ := s
            obtain ⟨sl, sm, sr⟩ := hso
            simp only at sl sm sr d0 d1 d2
            unfold maxLen at sm
            have i1 : (0 : Int) ≤ k := by omega
            have i2 : (k : Int) < n' := by omega
            have x3 : Below wr.heap.size wr (wr.alloc (.cells #[.int .i64 x, .int .i64 y, .slice A3 n3 c3] 68)) := (Below.refl _ _).alloc (Nat.le_refl _) _
            have R3 : RawAt 68 (wr.alloc (.cells #[.int .i64 x, .int .i64 y, .slice A3 n3 c3] 68)) wr.heap.size #[.int .i64 x, .int .i64 y, .slice A3 n3 c3] := heap_alloc_new wr _
            have HB3 := Lib.hid (hb.out.trans (x3.mono hb.out.size))
            have HF3 := Lib.hid (hF.out.below x3)
            have HR3 := Lib.hid (hR.out.below x3)
            have HS3 := Lib.hid R3
            have HLL := Lib.hid sl
            have HRL := Lib.hid (sr.below x3)
            clear R3 x3 hb hF hR sl sr
            by_cases g3 : 50 < n3
            · have k3 : decide ((50 : Int) < (n3 : Int)) = true := decide_eq_true (by omega)
              clear HRL HR3 HF3 HS3 hC hLo
              go_wp2_with fail
              with_reducible refine (C6.out _).mono ?_
              rintro e w6 ⟨rfl, bb⟩
              have Q6 := Lib.hid (HB3.out.trans (bb.mono HB3.out.size))
              clear bb
              go_wp2
              go_ret
              exact ⟨rfl, Q6.out⟩
            · have k3 : decide ((50 : Int) < (n3 : Int)) = false := decide_eq_false (by omega)
              obtain ⟨W3, hW3⟩ : ∃ W3, W3 = wr.alloc (.cells #[.int .i64 x, .int .i64 y, .slice A3 n3 c3] 68) := ⟨_, rfl⟩
              rw [← hW3] at HB3 HF3 HR3 HS3 HRL
              have HW3 := Lib.hid hW3
              clear hW3
              obtain ⟨b3, hb3⟩ : ∃ b3, b3 = wr.heap.size := ⟨_, rfl⟩
              rw [← hb3] at HS3
              have c0 := RawAt.cell HS3.out 0
              have c1 := RawAt.cell HS3.out 1
              have c2 := RawAt.cell HS3.out 2
              simp at c0 c1 c2
              have HB3E := Lib.hid hb3
              clear hb3
              have HNX := Lib.hid trivial
              by_cases g4 : x < 0
              · have CSP := Lib.hid (flrep_span HF3.out hLo.out x y A3 n3 c3 (by rw [HCL.out]; omega))
                have k4 : decide (x < 0) = true := decide_eq_true g4
                clear g4
                clear HRL
                go_wp2_with fail
                rw [← HW3.out, ← HB3E.out]
                clear HW3 HB3E
                go_wp2_with fail
                with_reducible refine (CSP.out).mono ?_
                rintro e w6 ⟨rfl, bb⟩
                have Q6 := Lib.hid (HB3.out.trans (bb.mono HB3.out.size))
                have HS6 := Lib.hid (HS3.out.below bb HS3.out.lt)
                have c0 := RawAt.cell HS6.out 0
                have c1 := RawAt.cell HS6.out 1
                have c2 := RawAt.cell HS6.out 2
                simp at c0 c1 c2
                have HF6 := Lib.hid (HF3.out.below bb)
                have HR6 := Lib.hid (HR3.out.below bb)
                clear CSP HS3 HF3 HR3
                clear bb
                go_wp2
                go_roundg (gk - 1)
                case measure => omega
                case rel => exact ⟨k + 1, m, d, h, a, B, cur, by go_num, rfl, rfl, by omega, by omega, by omega, HCL.out, Q6, HF6, HR6, hC, hLo⟩
              · have k4 : decide (x < 0) = false := decide_eq_false g4
                by_cases g5 : y < x
                · have CSP := Lib.hid (flrep_span HF3.out hLo.out x y A3 n3 c3 (by rw [HCL.out]; omega))
                  have k5 : decide (y < x) = true := decide_eq_true g5
                  clear g5 g4
                  clear HRL
                  go_wp2_with fail
                  rw [← HW3.out, ← HB3E.out]
                  clear HW3 HB3E
                  go_wp2_with fail
                  with_reducible refine (CSP.out).mono ?_
                  rintro e w6 ⟨rfl, bb⟩
                  have Q6 := Lib.hid (HB3.out.trans (bb.mono HB3.out.size))
                  have HS6 := Lib.hid (HS3.out.below bb HS3.out.lt)
                  have c0 := RawAt.cell HS6.out 0
                  have c1 := RawAt.cell HS6.out 1
                  have c2 := RawAt.cell HS6.out 2
                  simp at c0 c1 c2
                  have HF6 := Lib.hid (HF3.out.below bb)
                  have HR6 := Lib.hid (HR3.out.below bb)
                  clear CSP HS3 HF3 HR3
                  clear bb
                  go_wp2
                  go_roundg (gk - 1)
                  case measure => omega
                  case rel => exact ⟨k + 1, m, d, h, a, B, cur, by go_num, rfl, rfl, by omega, by omega, by omega, HCL.out, Q6, HF6, HR6, hC, hLo⟩
                · have k5 : decide (y < x) = false := decide_eq_false g5
                  by_cases g6 : (m : Int) < y
                  · have CSP := Lib.hid (flrep_span HF3.out hLo.out x y A3 n3 c3 (by rw [HCL.out]; omega))
                    have k6 : decide ((m : Int) < y) = true := decide_eq_true g6
                    clear g5 g4
                    clear HRL
                    go_wp2_with fail
                    rw [← HW3.out, ← HB3E.out]
                    clear HW3 HB3E
                    go_wp2_with fail
                    with_reducible refine (CSP.out).mono ?_
                    rintro e w6 ⟨rfl, bb⟩
                    have Q6 := Lib.hid (HB3.out.trans (bb.mono HB3.out.size))
                    have HS6 := Lib.hid (HS3.out.below bb HS3.out.lt)
                    have c0 := RawAt.cell HS6.out 0
                    have c1 := RawAt.cell HS6.out 1
                    have c2 := RawAt.cell HS6.out 2
                    simp at c0 c1 c2
                    have HF6 := Lib.hid (HF3.out.below bb)
                    have HR6 := Lib.hid (HR3.out.below bb)
                    clear CSP HS3 HF3 HR3
                    clear bb
                    go_wp2
                    go_roundg (gk - 1)
                    case measure => omega
                    case rel => exact ⟨k + 1, m, d, h, a, B, cur, by go_num, rfl, rfl, by omega, by omega, by omega, HCL.out, Q6, HF6, HR6, hC, hLo⟩
                  · obtain ⟨xn, rfl⟩ : ∃ xn : Nat, x = xn := ⟨x.toNat, by omega⟩
                    obtain ⟨yn, rfl⟩ : ∃ yn : Nat, y = yn := ⟨y.toNat, by omega⟩
                    have j1 : xn ≤ yn := by omega
                    have j2 : yn ≤ m := by omega
                    have k6 : decide ((m : Int) < (yn : Int)) = false := decide_eq_false g6
                    have k7 : decide (m < yn) = false := decide_eq_false (by omega)
                    have k8 : decide (yn < xn) = false := decide_eq_false (by omega)
                    have k9 : ¬ m < yn := by omega
                    have CRP := Lib.hid (flrep_any (m := L) HF3.out hLo.out xn yn A3 n3 c3 j1 (by rw [HCL.out]; exact j2) HRL.out HLL.out (by rw [HCL.out]; omega))
                    have CRF := Lib.hid fun (W : World) (hW : Below W3.heap.size W3 W) => lrefs A3 n3 c3 L W (HRL.out.below hW) HLL.out (by omega)
                    clear g4 g5 g6 HNX
                    by_cases hol : Loks L
                    · have HOL := Lib.hid hol
                      clear hol
                      go_wp2_with fail
                      rw [← HW3.out, ← HB3E.out]
                      clear HW3 HB3E
                      with_reducible refine CRP.out.mono ?_
                      intro e w6 hr
                      obtain ⟨bb, ⟨_, u, h6, rfl, hF6⟩ | ⟨hno, rfl⟩⟩ := hr
                      rotate_left
                      · exact absurd HOL.out hno
                      have HU6 := Lib.hid hF6
                      clear hF6
                      have Q6 := Lib.hid (HB3.out.trans (bb.mono HB3.out.size))
                      have B6 := Lib.hid bb
                      have HS6 := Lib.hid (HS3.out.below bb HS3.out.lt)
                      have c0 := RawAt.cell HS6.out 0
                      have c1 := RawAt.cell HS6.out 1
                      have c2 := RawAt.cell HS6.out 2
                      simp at c0 c1 c2
                      have HF6 := Lib.hid (HF3.out.below bb)
                      have HR6 := Lib.hid (HR3.out.below bb)
                      clear bb CRP HS3 HF3 HR3 HB3
                      go_wp2_with fail
                      with_reducible refine (CRF.out _ B6.out).mono ?_
                      rintro e w7 ⟨v7, rfl, o7, bb⟩
                      have Q7 := Lib.hid (Q6.out.trans (bb.mono Q6.out.size))
                      obtain ⟨A7, c7, rfl, hR7, _, _⟩ := rows_of_own encL_len (by omega) o7
                      have CX := Lib.hid (lright A7 n3 c7 L w7 hR7 HLL.out (by unfold maxLen; omega) true ⟨fun _ => HOL.out, fun _ => rfl⟩)
                      have B7 := Lib.hid (B6.out.trans (bb.mono B6.out.size))
                      have HS7 := Lib.hid (HS6.out.below bb HS6.out.lt)
                      have c0 := RawAt.cell HS7.out 0
                      have c1 := RawAt.cell HS7.out 1
                      have c2 := RawAt.cell HS7.out 2
                      simp at c0 c1 c2
                      have HF7 := Lib.hid (HF6.out.below bb)
                      have HR7 := Lib.hid (HR6.out.below bb)
                      have HU7 := Lib.hid (HU6.out.below bb)
                      clear HU6
                      clear o7 hR7 HS6 HF6 HR6 B6 Q6
                      clear bb
                      go_wp2_with fail
                      with_reducible refine (CX.out).mono ?_
                      rintro e w8 ⟨rfl, bb⟩
                      have Q8 := Lib.hid (Q7.out.trans (bb.mono Q7.out.size))
                      have B8 := Lib.hid (B7.out.trans (bb.mono B7.out.size))
                      have HS8 := Lib.hid (HS7.out.below bb HS7.out.lt)
                      have c0 := RawAt.cell HS8.out 0
                      have c1 := RawAt.cell HS8.out 1
                      have c2 := RawAt.cell HS8.out 2
                      simp at c0 c1 c2
                      have HF8 := Lib.hid (HF7.out.below bb)
                      have HR8 := Lib.hid (HR7.out.below bb)
                      have HU8 := Lib.hid (HU7.out.below bb)
                      clear HU7
                      clear HS7 HF7 HR7 B7 Q7 CX
                      clear bb
                      have hcap := hC.out
                      have hmd : m ≤ d := hcap.1
                      have run1 : ∀ W : World, (Instr.slice 62 (.slice B m d) none (some (.int .i64 (xn : Int))) none).run Try.prog W = .ok (.slice B xn d) W := fun W => cutK_hd ST B m d xn (by omega) W
                      have run2 : ∀ W : World, (Instr.slice 62 (.slice B m d) (some (.int .i64 (yn : Int))) none none).run Try.prog W = .ok (.slice (cutK B d 4 yn) (m - yn) (d - yn)) W := fun W => cutK_tl ST B m d yn j2 W
                      have HX1 := Lib.hid (show Caps B xn d from ⟨by omega, hcap.2⟩)
                      have HX2 := Lib.hid (cutK_caps (k := 4) hcap (j := yn) (m := m - yn) (by omega))
                      have O0 := Lib.hid (World.ownsRow_nil w8 w8.heap.size 72 4)
                      have HT1 : Hid ((cur.take xn).length = xn) := Lib.hid (by rw [List.length_take, HCL.out]; omega)
                      have HT2 : Hid (((cur.drop yn).take (m - yn)).length = m - yn) := Lib.hid (by rw [List.length_take, List.length_drop, HCL.out]; omega)
                      have HT3 : Hid ((cur.drop yn).take (m - yn) = cur.drop yn) := Lib.hid (List.take_of_length_le (by rw [List.length_drop, HCL.out]; omega))
                      clear hcap hmd
                      go_wp2_with (at_builtin; refine wpList_appK (enc := encL) ST encL_len (by omega) rfl (.tmp 93) (.tmp 97) rfl (base := w8.heap.size) (v := .slice none 0 0) rfl O0.out _ xn d (cur.take xn) rfl (rows_frontL HR8.out xn) HX1.out HT1.out (kfl_one' encL_one _) (by simp only [maxLen]; omega) (by omega) (Nat.le_refl _) ?_; intro v9 w9 hown9 hg9 hor9; have bb : Below w8.heap.size w8 w9 := (Below.refl _ _).grown hg9 (Nat.le_refl _) (fun j hj => by cases hj); have HS9 := Lib.hid (HS8.out.below bb HS8.out.lt); have c0 := RawAt.cell HS9.out 0; have c1 := RawAt.cell HS9.out 1; have c2 := RawAt.cell HS9.out 2; simp at c0 c1 c2; have O9 : Hid (w9.ownsRow w8.heap.size 72 4 v9 xn (kfl encL (cur.take xn))) := Lib.hid (by rw [Nat.zero_add, List.nil_append] at hown9; exact hown9); have BB9 := Lib.hid bb; clear bb hown9 hg9 hor9 O0)
                      with_reducible refine (CRF.out _ (B8.out.trans (BB9.out.mono B8.out.size))).mono ?_
                      rintro e w10 ⟨v10, rfl, o10, bb⟩
                      obtain ⟨A10, c10, rfl, hR10, _, hC10⟩ := rows_of_own encL_len (by omega) o10
                      have hlt9 := O9.out.lt
                      have O10 := Lib.hid (own_below O9.out bb)
                      have BB10 := Lib.hid (BB9.out.trans (bb.mono BB9.out.size))
                      have HS10 := Lib.hid (HS9.out.below bb HS9.out.lt)
                      have c0 := RawAt.cell HS10.out 0
                      have c1 := RawAt.cell HS10.out 1
                      have c2 := RawAt.cell HS10.out 2
                      simp at c0 c1 c2
                      have HR10 := Lib.hid hR10
                      have HC10 := Lib.hid hC10
                      clear bb o10 hR10 hC10 O9 BB9 HS9
                      go_wp2_with (first
                        | (at_builtin; refine wpList_appK (enc := encL) ST encL_len (by omega) rfl (.tmp 99) (.tmp 102) rfl (base := w8.heap.size) (v := v9) rfl O10.out _ n3 c10 L rfl HR10.out HC10.out HLL.out (kfl_one' encL_one _) (by simp only [maxLen]; omega) (by omega) BB10.out.size ?_; intro v11 w11 hown11 hg11 hor11; have hlt11 := hown11.lt; have O11 := Lib.hid hown11; have BB11 := Lib.hid (BB10.out.grown hg11 BB10.out.size (fun j hj => (hlt9 j hj).1)); have HS11 := Lib.hid (HS8.out.below BB11.out HS8.out.lt); have c0 := RawAt.cell HS11.out 0; have c1 := RawAt.cell HS11.out 1; have c2 := RawAt.cell HS11.out 2; simp at c0 c1 c2; have HR11 := Lib.hid ((HR8.out.below BB11.out).cut HCL.out hC.out.1 (j := yn) (m := m - yn) (by omega)); clear hown11 hg11 hor11 O10 BB10 HS10 HR10 HC10)
                        | (at_builtin; refine wpList_appK (enc := encL) ST encL_len (by omega) rfl (.tmp 104) (.tmp 108) rfl (base := w8.heap.size) (v := v11) rfl O11.out _ (m - yn) (d - yn) ((cur.drop yn).take (m - yn)) rfl HR11.out HX2.out HT2.out (kfl_one' encL_one _) (by simp only [maxLen]; omega) (by omega) BB11.out.size ?_; intro v12 w12 hown12 hg12 hor12; have BB12 := Lib.hid (BB11.out.grown hg12 BB11.out.size (fun j hj => (hlt11 j hj).1)); rw [HT3.out, ← kfl_append, ← kfl_append] at hown12; obtain ⟨A12, c12, rfl, hR12, hl12, hC12⟩ := rows_of_own encL_len (by omega) hown12; have HR12 := Lib.hid hR12; have HL12 := Lib.hid hl12; have HC12 := Lib.hid hC12; clear hown12 hg12 hor12 O11 BB11 HS11 HR11 hR12 hl12 hC12))
                      have HLN : Hid (Loks (cur.take xn ++ L ++ cur.drop yn)) := Lib.hid (((hLo.out.take_ xn).append_ HOL.out).append_ (hLo.out.drop_ yn))
                      have CI1 := Lib.hid (flis (HU8.out.below BB12.out) HLN.out A12 _ c12 HR12.out HL12.out)
                      have CI2 := Lib.hid fun (W : World) (hW : Below w12.heap.size w12 W) => flis ((HF8.out.below BB12.out).below hW) hLo.out B m d ((HR8.out.below BB12.out).below hW) HCL.out
                      have Q12 := Lib.hid (Q8.out.trans (BB12.out.mono Q8.out.size))
                      have hmm : xn + n3 + (m - yn) ≤ 100 + 50 * (k + 1) := by omega
                      generalize hM : xn + n3 + (m - yn) = M at *
                      clear hM
                      have HU12 := Lib.hid (HU8.out.below BB12.out)
                      clear HR8 HF8 HU8 Q8 BB12
                      go_wp2_with fail
                      with_reducible refine (CI1.out).mono ?_
                      rintro e w13 ⟨rfl, bb⟩
                      have Q13 := Lib.hid (Q12.out.trans (bb.mono Q12.out.size))
                      have B13 := Lib.hid bb
                      have HU13 := Lib.hid (HU12.out.below bb)
                      have HR13 := Lib.hid (HR12.out.below bb)
                      clear CI1 HU12 HR12
                      clear bb
                      go_wp2_with fail
                      with_reducible refine (CI2.out _ B13.out).mono ?_
                      rintro e w14 ⟨rfl, bb⟩
                      have Q14 := Lib.hid (Q13.out.trans (bb.mono Q13.out.size))
                      have HU14 := Lib.hid (HU13.out.below bb)
                      have HR14 := Lib.hid (HR13.out.below bb)
                      clear CI2 HU13 HR13 B13
                      clear bb
                      go_wp2
                      go_roundg (gk - 1)
                      case measure => omega
                      case rel => exact ⟨k + 1, M, c12, h6, u, A12, _, by go_num, rfl, rfl, by omega, by omega, hmm, HL12.out, Q14, HU14, HR14, HC12, HLN⟩
                    · have HOL := Lib.hid hol
                      clear hol
                      go_wp2_with fail
                      rw [← HW3.out, ← HB3E.out]
                      clear HW3 HB3E
                      with_reducible refine CRP.out.mono ?_
                      intro e w6 hr
                      obtain ⟨bb, ⟨hyes, u, h6, rfl, hF6⟩ | ⟨_, rfl⟩⟩ := hr
                      · exact absurd hyes HOL.out
                      have Q6 := Lib.hid (HB3.out.trans (bb.mono HB3.out.size))
                      have B6 := Lib.hid bb
                      have HS6 := Lib.hid (HS3.out.below bb HS3.out.lt)
                      have c0 := RawAt.cell HS6.out 0
                      have c1 := RawAt.cell HS6.out 1
                      have c2 := RawAt.cell HS6.out 2
                      simp at c0 c1 c2
                      have HF6 := Lib.hid (HF3.out.below bb)
                      have HR6 := Lib.hid (HR3.out.below bb)
                      clear bb CRP HS3 HF3 HR3 HB3
                      go_wp2_with fail
                      with_reducible refine (CRF.out _ B6.out).mono ?_
                      rintro e w7 ⟨v7, rfl, o7, bb⟩
                      have Q7 := Lib.hid (Q6.out.trans (bb.mono Q6.out.size))
                      obtain ⟨A7, c7, rfl, hR7, _, _⟩ := rows_of_own encL_len (by omega) o7
                      have CX := Lib.hid (lright A7 n3 c7 L w7 hR7 HLL.out (by unfold maxLen; omega) false ⟨fun h => absurd h (by simp), fun h => absurd h HOL.out⟩)
                      have B7 := Lib.hid (B6.out.trans (bb.mono B6.out.size))
                      have HS7 := Lib.hid (HS6.out.below bb HS6.out.lt)
                      have c0 := RawAt.cell HS7.out 0
                      have c1 := RawAt.cell HS7.out 1
                      have c2 := RawAt.cell HS7.out 2
                      simp at c0 c1 c2
                      have HF7 := Lib.hid (HF6.out.below bb)
                      have HR7 := Lib.hid (HR6.out.below bb)
                      clear o7 hR7 HS6 HF6 HR6 B6 Q6
                      clear bb
                      go_wp2_with fail
                      with_reducible refine (CX.out).mono ?_
                      rintro e w8 ⟨rfl, bb⟩
                      have Q8 := Lib.hid (Q7.out.trans (bb.mono Q7.out.size))
                      have B8 := Lib.hid (B7.out.trans (bb.mono B7.out.size))
                      have HS8 := Lib.hid (HS7.out.below bb HS7.out.lt)
                      have c0 := RawAt.cell HS8.out 0
                      have c1 := RawAt.cell HS8.out 1
                      have c2 := RawAt.cell HS8.out 2
                      simp at c0 c1 c2
                      have HF8 := Lib.hid (HF7.out.below bb)
                      have HR8 := Lib.hid (HR7.out.below bb)
                      clear HS7 HF7 HR7 B7 Q7 CX
                      clear bb
                      go_wp2
                      go_roundg (gk - 1)
                      case measure => omega
                      case rel => exact ⟨k + 1, m, d, h, a, B, cur, by go_num, rfl, rfl, by omega, by omega, by omega, HCL.out, Q8, HF8, HR8, hC, hLo⟩
          · obtain rfl : n' = k := by omega
            go_wp2_with fail
            with_reducible refine (C6.out _).mono ?_
            rintro e w6 ⟨rfl, bb⟩
            have Q6 := Lib.hid (hb.out.trans (bb.mono hb.out.size))
            clear bb
            go_wp2
            go_ret
            exact ⟨rfl, Q6.out⟩
      · have HO := Lib.hid ho
        clear ho hI
        go_enter Try.func8, Try.ntmps8
        go_wp2_with fail
        with_reducible refine (CR.out _ (Below.refl _ _)).mono ?_
        rintro e w2 ⟨v2, rfl, o2, bb⟩
        have Q1 := Lib.hid bb
        obtain ⟨A2, c2, rfl, hR2, _, hC2⟩ := rows_of_own encL_len (by omega) o2
        have CX := Lib.hid (lright A2 n c2 l w2 hR2 HL.out hnm false ⟨fun h => absurd h (by simp), fun h => absurd h HO.out⟩)
        clear o2 hR2 hC2
        clear bb
        go_wp2_with fail
        with_reducible refine (CX.out).mono ?_
        rintro e w3 ⟨rfl, bb⟩
        have Q2 := Lib.hid (Q1.out.trans (bb.mono Q1.out.size))
        clear CX
        clear bb
        go_wp2_with fail
        with_reducible refine (C6.out _).mono ?_
        rintro e w6 ⟨rfl, bb⟩
        have Q6 := Lib.hid (Q2.out.trans (bb.mono Q2.out.size))
        clear bb
        go_wp2
        go_ret
        exact ⟨rfl, Q6.out⟩
end Go.Proofs.Ytnfjleobcfhpnaa
