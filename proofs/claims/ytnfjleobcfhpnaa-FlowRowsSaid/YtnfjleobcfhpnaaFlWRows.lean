/- Flow: the law FlowRows, walked. -/
import Derived.Test.YtnfjleobcfhpnaaFlK
import Derived.Test.YtnfjleobcfhpnaaFlO
namespace Go.Proofs.Ytnfjleobcfhpnaa
open Go.RowKit
set_option linter.unusedVariables false
theorem lr_fld (x0 x1 x2 x3 : Int) (w : World) : (Instr.field 72 (.agg #[.int .i64 x0, .int .i64 x1, .int .i64 x2, .int .i64 x3]) 2).run Try.prog w = .ok (.int .i64 x2) w := by kernel_rfl
theorem lsum_pos {l : List Ln} (h : Loks l) (hp : 0 < l.length) : (lsum l).r ≠ 0 := by
  intro e
  have g : ∀ n, n ≤ l.length → (n : Int) ≤ (lsum (l.take n)).r := by
    intro n
    induction n with
    | zero => intro _; simp [lsum]
    | succ n ih =>
      intro hn
      have h1 := ih (by omega)
      rw [lsum_take (by omega)]
      have h3 := (h (l[n]'(by omega)) (List.getElem_mem _)).2.2
      unfold Okn at h3
      simp only [ladd]
      omega
  have := g l.length (Nat.le_refl _)
  rw [List.take_of_length_le (Nat.le_refl _), e] at this
  omega
set_option maxHeartbeats 16000000 in
set_option maxRecDepth 100000 in
theorem flowRows_walk (A : Option Addr) (n c : Nat) (l : List Ln) (w : World) (hI : RowsAt encL 4 w A l) (hl : l.length = n) (hn : n ≤ maxLen) (_hc : Caps A n c) (_hO : ∀ s ∈ l, LnWf s) :
    Calls Try.prog 9 #[.slice A n c] w fun e w' => e = .returned (.bool true) ∧ Below w.heap.size w w' := by
  have C6 := Lib.hid fun W => flsix W
  have tf := lr_fld
  have hnm := hn
  unfold maxLen at hn
  by_cases g1 : 60 < n
  · have k1 : decide ((60 : Int) < (n : Int)) = true := decide_eq_true (by omega)
    clear hI
    go_enter Try.func9, Try.ntmps9
    go_wp2_with fail
    with_reducible refine (C6.out _).mono ?_
    rintro e w1 ⟨rfl, bb⟩
    have Q1 := Lib.hid bb
    clear bb
    go_wp2
    go_ret
    exact ⟨rfl, Q1.out⟩
  · have k1 : decide ((60 : Int) < (n : Int)) = false := decide_eq_false (by omega)
    have CR := Lib.hid fun (W : World) (hW : Below w.heap.size w W) => lrefs A n c l W (hI.below hW) hl (by omega)
    have HL := Lib.hid hl
    by_cases ho : Loks l
    · have HO := Lib.hid ho
      have CS := Lib.hid fun (B : Option Addr) (d : Nat) (W : World) (hB : RowsAt encL 4 W B l) => lsum22 B n d l W hB hl (by omega) ho
      have CX := Lib.hid fun (B : Option Addr) (d : Nat) (W : World) (hB : RowsAt encL 4 W B l) => lright B n d l W hB hl hnm true ⟨fun _ => ho, fun _ => rfl⟩
      have CN := Lib.hid fun (W : World) (hW : Below w.heap.size w W) => flnew A n c l W (hI.below hW) hl (by omega)
      have hnn := lsum_nn l ho
      obtain ⟨T, hT⟩ : ∃ T, T = lsum l := ⟨_, rfl⟩
      rw [← hT] at CS hnn
      have HT := Lib.hid hT
      have HI := Lib.hid hI
      clear ho hI hT
      have htop := hnn.2.2.1
      clear hnn
      by_cases g2 : 400 < T.r
      · have k2 : decide ((400 : Int) < T.r) = true := decide_eq_true g2
        go_enter Try.func9, Try.ntmps9
        go_wp2_with fail
        with_reducible refine (CR.out _ (Below.refl _ _)).mono ?_
        rintro e w2 ⟨v2, rfl, o2, bb⟩
        have Q1 := Lib.hid bb
        obtain ⟨A2, c2, rfl, hR2, _, _⟩ := rows_of_own encL_len (by omega) o2
        have CX1 := Lib.hid (CX.out A2 c2 _ hR2)
        clear o2 hR2
        clear bb
        go_wp2_with fail
        with_reducible refine (CX1.out).mono ?_
        rintro e w3 ⟨rfl, bb⟩
        have Q2 := Lib.hid (Q1.out.trans (bb.mono Q1.out.size))
        clear CX1
        clear bb
        go_wp2_with fail
        with_reducible refine (CR.out _ Q2.out).mono ?_
        rintro e w2 ⟨v2, rfl, o2, bb⟩
        have Q3 := Lib.hid (Q2.out.trans (bb.mono Q2.out.size))
        obtain ⟨A2, c2, rfl, hR2, _, _⟩ := rows_of_own encL_len (by omega) o2
        have CS1 := Lib.hid (CS.out A2 c2 _ hR2)
        clear o2 hR2
        clear bb
        go_wp2_with fail
        with_reducible refine (CS1.out).mono ?_
        rintro e w4 ⟨rfl, bb⟩
        have Q4 := Lib.hid (Q3.out.trans (bb.mono Q3.out.size))
        clear CS1
        clear bb
        go_wp2_with fail
        with_reducible refine (C6.out _).mono ?_
        rintro e w6 ⟨rfl, bb⟩
        have Q6 := Lib.hid (Q4.out.trans (bb.mono Q4.out.size))
        clear bb
        go_wp2
        go_ret
        exact ⟨rfl, Q6.out⟩
      · have k2 : decide ((400 : Int) < T.r) = false := decide_eq_false g2
        obtain ⟨N, hN⟩ : ∃ N : Nat, T.r = N := ⟨T.r.toNat, by omega⟩
        have HN := Lib.hid hN
        have hNN : N ≤ 400 := by omega
        go_enter Try.func9, Try.ntmps9
        go_wp2_with fail
        with_reducible refine (CR.out _ (Below.refl _ _)).mono ?_
        rintro e w2 ⟨v2, rfl, o2, bb⟩
        have Q1 := Lib.hid bb
        obtain ⟨A2, c2, rfl, hR2, _, _⟩ := rows_of_own encL_len (by omega) o2
        have CX1 := Lib.hid (CX.out A2 c2 _ hR2)
        clear o2 hR2
        clear bb
        go_wp2_with fail
        with_reducible refine (CX1.out).mono ?_
        rintro e w3 ⟨rfl, bb⟩
        have Q2 := Lib.hid (Q1.out.trans (bb.mono Q1.out.size))
        clear CX1
        clear bb
        go_wp2_with fail
        with_reducible refine (CR.out _ Q2.out).mono ?_
        rintro e w2 ⟨v2, rfl, o2, bb⟩
        have Q3 := Lib.hid (Q2.out.trans (bb.mono Q2.out.size))
        obtain ⟨A2, c2, rfl, hR2, _, _⟩ := rows_of_own encL_len (by omega) o2
        have CS1 := Lib.hid (CS.out A2 c2 _ hR2)
        clear o2 hR2
        clear bb
        go_wp2_with fail
        with_reducible refine (CS1.out).mono ?_
        rintro e w4 ⟨rfl, bb⟩
        have Q4 := Lib.hid (Q3.out.trans (bb.mono Q3.out.size))
        clear CS1
        clear bb
        go_wp2_with fail
        with_reducible refine (CN.out _ Q4.out).mono ?_
        intro e w5 hr
        obtain ⟨bb, ⟨_, a, h, rfl, hF⟩ | ⟨hno, rfl⟩⟩ := hr
        rotate_left
        · exact absurd HO.out hno
        have Q5 := Lib.hid (Q4.out.trans (bb.mono Q4.out.size))
        have CB := Lib.hid fun (row : Int) (W : World) (hW : Below w5.heap.size w5 W) (h0 : 0 ≤ row) (h1 : row < (lsum l).r) => flbyrow (hF.below hW) HO.out (by rw [HL.out]; omega) row h0 h1
        rw [← HT.out] at CB
        have x6 : RawAt 75 (w5.alloc (.cells #[.int .i64 (-1), .int .i64 0, .int .i64 0, .int .i64 0, .int .i64 0] 75)) w5.heap.size #[.int .i64 (-1), .int .i64 0, .int .i64 0, .int .i64 0, .int .i64 0] := heap_alloc_new w5 _
        have HX6 := Lib.hid x6
        have hb6 : Below w5.heap.size w5 (w5.alloc (.cells #[.int .i64 (-1), .int .i64 0, .int .i64 0, .int .i64 0, .int .i64 0] 75)) := (Below.refl _ _).alloc (Nat.le_refl _) _
        have HB6 := Lib.hid hb6
        clear bb hF CN x6 hb6 Q4
        go_wp2_with fail
        go_loopg [6] N (fun g i wr => ∃ (k : Nat) (la li lr ls lb : Int), i = .int .i64 k ∧ k ≤ N ∧ N - k ≤ g ∧ Hid (Below w5.heap.size w5 wr) ∧ Hid (RawAt 75 wr w5.heap.size #[.int .i64 la, .int .i64 li, .int .i64 lr, .int .i64 ls, .int .i64 lb]) ∧ Hid ((k = 0 ∧ la = -1) ∨ (0 < k ∧ ∃ j : Nat, RowIs l ((k : Int) - 1) j ∧ la = j ∧ li = (k : Int) - 1 - (lsum (l.take j)).r)))
        case atStart => exact ⟨0, -1, 0, 0, 0, 0, rfl, by omega, by omega, HB6, HX6, Lib.hid (.inl ⟨rfl, rfl⟩)⟩
        case round =>
          clear HB6 HX6
          obtain ⟨k, la, li, lr, ls, lb, rfl, h1, h2, hb, hr6, hla⟩ := hrel
          have HBW := Lib.hid (Q5.out.trans (hb.out.mono Q5.out.size))
          by_cases hlt : k < N
          · have k3 : decide ((k : Int) < (N : Int)) = true := decide_eq_true (by omega)
            have k4 : (k : Int) < (N : Int) := by omega
            have htn := HN.out
            rw [htn] at CS CB
            clear htn
            go_wp2_with fail
            with_reducible refine (CR.out _ HBW.out).mono ?_
            rintro e w6 ⟨v2, rfl, o2, bb⟩
            have HB7 := Lib.hid (hb.out.trans (bb.mono hb.out.size))
            have BW7 := Lib.hid bb
            obtain ⟨A2, c2, rfl, hR2, _, _⟩ := rows_of_own encL_len (by omega) o2
            have CS1 := Lib.hid (CS.out A2 c2 _ hR2)
            clear o2 hR2
            clear bb
            go_wp2_with fail
            with_reducible refine (CS1.out).mono ?_
            rintro e w7 ⟨rfl, bb⟩
            have HB8 := Lib.hid (HB7.out.trans (bb.mono HB7.out.size))
            have BW8 := Lib.hid (BW7.out.trans (bb.mono BW7.out.size))
            clear CS1
            clear bb
            go_wp2_with fail
            with_reducible refine (CB.out k _ HB8.out (by omega) k4).mono ?_
            rintro e w8 ⟨m, hm, rfl, bb⟩
            have HB9 := Lib.hid (HB8.out.trans (bb.mono HB8.out.size))
            have BWX := Lib.hid (BW8.out.trans (bb.mono BW8.out.size))
            have hm1 := hm.lt
            have hm2 := hm.lo
            have hm3 := hm.hi
            have hstep : (la = (m : Int) ∧ li + 1 = (k : Int) - (lsum (l.take m)).r) ∨ (((m : Int) ≠ la) ∧ la + 1 = (m : Int) ∧ (k : Int) - (lsum (l.take m)).r = 0) := by
              rcases hla.out with ⟨rfl, rfl⟩ | ⟨hk0, j, hj, rfl, rfl⟩
              · right
                have hz : m = 0 := RowIs.first HO.out hm
                subst hz
                exact ⟨by omega, by omega, by simp [lsum]⟩
              · rcases RowIs.next HO.out hj (by rwa [show (k : Int) - 1 + 1 = k from by omega]) with rfl | ⟨e1, e2⟩
                · left; exact ⟨rfl, by omega⟩
                · right; exact ⟨by omega, by omega, by omega⟩
            have HM := Lib.hid hm
            obtain ⟨bA, off, rfl, hbA, d0, d1, d2, d3⟩ := rowsL (HI.out.below (Q5.out.trans (HB9.out.mono Q5.out.size))) hm1
            have hbd := lsum_nn _ (HO.out.take_ m)
            have hbs := lsum_bd (l.take m) (HO.out.take_ m) (by rw [List.length_take]; omega)
            unfold Small at hbs
            obtain ⟨S, hS⟩ : ∃ S, S = lsum (l.take m) := ⟨_, rfl⟩
            rw [← hS] at hstep hm2 hm3 hbd hbs ⊢
            have HS := Lib.hid hS
            obtain ⟨ins, hins⟩ : ∃ ins, ins = (k : Int) - S.r := ⟨_, rfl⟩
            rw [← hins] at hstep ⊢
            have hr3 : ins < l[m].r := by omega
            have HINS := Lib.hid hins
            have hw1 : IntKind.i64.wrap (S.r + ins) = (k : Int) := by rw [show S.r + ins = k from by omega]; exact IntWalk.i64_in _ (by omega)
            generalize l[m] = a at *
            have hib : 0 ≤ ins ∧ ins ≤ 400 := by omega
            have hml : m < n := by rw [← HL.out]; exact hm1
            have e1 : decide ((m : Int) < 0) = false := decide_eq_false (by omega)
            have e2 : decide ((n : Int) ≤ m) = false := decide_eq_false (by omega)
            have e3 : decide (n ≤ m) = false := decide_eq_false (by omega)
            have e4 : decide (a.r ≤ ins) = false := decide_eq_false (by omega)
            have e5 : (0 : Int) ≤ m := by omega
            have e6 : (m : Int) < n := by omega
            have hw0 : IntKind.i64.wrap ((k : Int) + 1) = (k : Int) + 1 := IntWalk.i64_in _ (by omega)
            have hk2 : IntKind.i64.wrap (m : Int) = m := IntWalk.i64_in _ (by omega)
            have R7 : RawAt 75 (w8.alloc (.cells #[.int .i64 m, .int .i64 ins, .int .i64 S.r, .int .i64 S.s, .int .i64 S.b] 75)) w8.heap.size #[.int .i64 m, .int .i64 ins, .int .i64 S.r, .int .i64 S.s, .int .i64 S.b] := heap_alloc_new w8 _
            have x7 : Below w8.heap.size w8 (w8.alloc (.cells #[.int .i64 m, .int .i64 ins, .int .i64 S.r, .int .i64 S.s, .int .i64 S.b] 75)) := (Below.refl _ _).alloc (Nat.le_refl _) _
            have HB10 := Lib.hid (HB9.out.trans (x7.mono HB9.out.size))
            have r5 : RawAt 75 (w8.alloc (.cells #[.int .i64 m, .int .i64 ins, .int .i64 S.r, .int .i64 S.s, .int .i64 S.b] 75)) w5.heap.size #[.int .i64 la, .int .i64 li, .int .i64 lr, .int .i64 ls, .int .i64 lb] := RawAt.below hr6.out (BWX.out.trans (x7.mono BWX.out.size)) hr6.out.lt
            have HR7 := Lib.hid R7
            have HR5 := Lib.hid r5
            have HWL := Lib.hid (show (fun (la li : Int) => True) la li from trivial)
            clear hr6 hm bb hS hins R7 x7 r5 hbd hbs hm2 hm3 hr3 hb HB7 HB8 HB9 BW7 BW8 BWX HBW hm1 hla HWL
            rcases hstep with ⟨rfl, hs2⟩ | ⟨hne, hs1, hs2⟩
            · have hw2 : IntKind.i64.wrap (li + 1) = ins := by rw [hs2]; exact IntWalk.i64_in _ (by omega)
              clear hs2
              have c0 := RawAt.cell HR7.out 0
              have c1 := RawAt.cell HR7.out 1
              have c2 := RawAt.cell HR7.out 2
              have c3 := RawAt.cell HR7.out 3
              have c4 := RawAt.cell HR7.out 4
              have y0 := RawAt.cell HR5.out 0
              have y1 := RawAt.cell HR5.out 1
              have y2 := RawAt.cell HR5.out 2
              have y3 := RawAt.cell HR5.out 3
              have y4 := RawAt.cell HR5.out 4
              simp at c0 c1 c2 c3 c4 y0 y1 y2 y3 y4
              go_wp2_with fail
              go_quiet (fail)
              have hdq := drewN_below (Below.refl (w8.alloc (.cells #[.int .i64 m, .int .i64 ins, .int .i64 S.r, .int .i64 S.s, .int .i64 S.b] 75)).heap.size (w8.alloc (.cells #[.int .i64 m, .int .i64 ins, .int .i64 S.r, .int .i64 S.s, .int .i64 S.b] 75))) nq
              have q5 := RawAt.below HR5.out hdq HR5.out.lt
              have q7 := RawAt.below HR7.out hdq HR7.out.lt
              have HBQ := Lib.hid (HB10.out.trans (hdq.mono HB10.out.size))
              obtain ⟨V, hV⟩ : ∃ V, V = (w8.alloc (.cells #[.int .i64 m, .int .i64 ins, .int .i64 S.r, .int .i64 S.s, .int .i64 S.b] 75)).drewN nq := ⟨_, rfl⟩
              rw [← hV] at q5 q7 HBQ ⊢
              have c0 := RawAt.cell q7 0
              have c1 := RawAt.cell q7 1
              have c2 := RawAt.cell q7 2
              have c3 := RawAt.cell q7 3
              have c4 := RawAt.cell q7 4
              have y0 := RawAt.cell q5 0
              have y1 := RawAt.cell q5 1
              have y2 := RawAt.cell q5 2
              have y3 := RawAt.cell q5 3
              have y4 := RawAt.cell q5 4
              simp at c0 c1 c2 c3 c4 y0 y1 y2 y3 y4
              have f0 := q5.free 0
              have f1 := q5.free 1
              have f2 := q5.free 2
              have f3 := q5.free 3
              have f4 := q5.free 4
              have T5 := Lib.hid (((((q5.set_ 0 (.int .i64 m)).set_ 1 (.int .i64 ins)).set_ 2 (.int .i64 S.r)).set_ 3 (.int .i64 S.s)).set_ 4 (.int .i64 S.b))
              have HBF := Lib.hid (((((HBQ.out.setCell (p := ⟨w5.heap.size, 0, none⟩) (Nat.le_refl _) (.int .i64 m)).setCell (p := ⟨w5.heap.size, 1, none⟩) (Nat.le_refl _) (.int .i64 ins)).setCell (p := ⟨w5.heap.size, 2, none⟩) (Nat.le_refl _) (.int .i64 S.r)).setCell (p := ⟨w5.heap.size, 3, none⟩) (Nat.le_refl _) (.int .i64 S.s)).setCell (p := ⟨w5.heap.size, 4, none⟩) (Nat.le_refl _) (.int .i64 S.b))
              clear q5 q7 hdq hV HR5 HR7
              go_wp2
              go_roundg (gk - 1)
              case measure => omega
              case rel => exact ⟨k + 1, m, ins, S.r, S.s, S.b, by go_num, by omega, by omega, HBF, T5, Lib.hid (.inr ⟨by omega, m, by rw [show ((k + 1 : Nat) : Int) - 1 = k from by omega]; exact HM.out, rfl, by rw [HINS.out, HS.out]; omega⟩)⟩
            · subst hs2
              clear hib
              have hw3 : IntKind.i64.wrap S.r = (k : Int) := by rw [← hw1, Int.add_zero]
              have hw4 : S.r = (k : Int) := by have := HINS.out; omega
              have HW4 := Lib.hid hw4
              clear hw4 hw1
              have hw2 : IntKind.i64.wrap (la + 1) = (m : Int) := by rw [hs1]; exact hk2
              have hd1 : decide ((m : Int) = la) = false := decide_eq_false hne
              have hd2 : ((m : Int) == la) = false := by simp [hne]
              clear hs1 hne
              have c0 := RawAt.cell HR7.out 0
              have c1 := RawAt.cell HR7.out 1
              have c2 := RawAt.cell HR7.out 2
              have c3 := RawAt.cell HR7.out 3
              have c4 := RawAt.cell HR7.out 4
              have y0 := RawAt.cell HR5.out 0
              have y1 := RawAt.cell HR5.out 1
              have y2 := RawAt.cell HR5.out 2
              have y3 := RawAt.cell HR5.out 3
              have y4 := RawAt.cell HR5.out 4
              simp at c0 c1 c2 c3 c4 y0 y1 y2 y3 y4
              go_wp2_with fail
              go_quiet (fail)
              have hdq := drewN_below (Below.refl (w8.alloc (.cells #[.int .i64 m, .int .i64 0, .int .i64 S.r, .int .i64 S.s, .int .i64 S.b] 75)).heap.size (w8.alloc (.cells #[.int .i64 m, .int .i64 0, .int .i64 S.r, .int .i64 S.s, .int .i64 S.b] 75))) nq
              have q5 := RawAt.below HR5.out hdq HR5.out.lt
              have q7 := RawAt.below HR7.out hdq HR7.out.lt
              have HBQ := Lib.hid (HB10.out.trans (hdq.mono HB10.out.size))
              obtain ⟨V, hV⟩ : ∃ V, V = (w8.alloc (.cells #[.int .i64 m, .int .i64 0, .int .i64 S.r, .int .i64 S.s, .int .i64 S.b] 75)).drewN nq := ⟨_, rfl⟩
              rw [← hV] at q5 q7 HBQ ⊢
              have c0 := RawAt.cell q7 0
              have c1 := RawAt.cell q7 1
              have c2 := RawAt.cell q7 2
              have c3 := RawAt.cell q7 3
              have c4 := RawAt.cell q7 4
              have y0 := RawAt.cell q5 0
              have y1 := RawAt.cell q5 1
              have y2 := RawAt.cell q5 2
              have y3 := RawAt.cell q5 3
              have y4 := RawAt.cell q5 4
              simp at c0 c1 c2 c3 c4 y0 y1 y2 y3 y4
              have f0 := q5.free 0
              have f1 := q5.free 1
              have f2 := q5.free 2
              have f3 := q5.free 3
              have f4 := q5.free 4
              have T5 := Lib.hid (((((q5.set_ 0 (.int .i64 m)).set_ 1 (.int .i64 0)).set_ 2 (.int .i64 S.r)).set_ 3 (.int .i64 S.s)).set_ 4 (.int .i64 S.b))
              have HBF := Lib.hid (((((HBQ.out.setCell (p := ⟨w5.heap.size, 0, none⟩) (Nat.le_refl _) (.int .i64 m)).setCell (p := ⟨w5.heap.size, 1, none⟩) (Nat.le_refl _) (.int .i64 0)).setCell (p := ⟨w5.heap.size, 2, none⟩) (Nat.le_refl _) (.int .i64 S.r)).setCell (p := ⟨w5.heap.size, 3, none⟩) (Nat.le_refl _) (.int .i64 S.s)).setCell (p := ⟨w5.heap.size, 4, none⟩) (Nat.le_refl _) (.int .i64 S.b))
              clear q5 q7 hdq hV HR5 HR7
              go_wp2
              go_roundg (gk - 1)
              case measure => omega
              case rel => exact ⟨k + 1, m, 0, S.r, S.s, S.b, by go_num, by omega, by omega, HBF, T5, Lib.hid (.inr ⟨by omega, m, by rw [show ((k + 1 : Nat) : Int) - 1 = k from by omega]; exact HM.out, rfl, by have := HINS.out; rw [HS.out] at this; omega⟩)⟩
          · obtain rfl : k = N := by omega
            have k3 : decide ((k : Int) < (k : Int)) = false := decide_eq_false (by omega)
            have htn := HN.out
            rw [htn] at CS
            clear htn CB
            go_wp2_with fail
            with_reducible refine (CR.out _ HBW.out).mono ?_
            rintro e w6 ⟨v2, rfl, o2, bb⟩
            have HB7 := Lib.hid (hb.out.trans (bb.mono hb.out.size))
            have BW7 := Lib.hid bb
            obtain ⟨A2, c2, rfl, hR2, _, _⟩ := rows_of_own encL_len (by omega) o2
            have CS1 := Lib.hid (CS.out A2 c2 _ hR2)
            clear o2 hR2
            clear bb
            go_wp2_with fail
            with_reducible refine CS1.out.mono ?_
            rintro e w7 ⟨rfl, bb⟩
            have HB8 := Lib.hid (HB7.out.trans (bb.mono HB7.out.size))
            have BW8 := BW7.out.trans (bb.mono BW7.out.size)
            have q5 := RawAt.below hr6.out BW8 hr6.out.lt
            have y0 := RawAt.cell q5 0
            simp at y0
            have Q8 := Lib.hid (Q5.out.trans (HB8.out.mono Q5.out.size))
            have hlast : la = (n : Int) - 1 := by
              rcases hla.out with ⟨e1, e2⟩ | ⟨hk0, j, hj, e1, e2⟩
              · have hl0 : l = [] := by
                  rcases Nat.eq_zero_or_pos l.length with e | e
                  · exact List.eq_nil_of_length_eq_zero e
                  · exfalso
                    have g1 := lsum_take e
                    have g2 := (HO.out l[0] (List.getElem_mem _)).2.2
                    have g3 := lsum_nn _ (HO.out.drop_ 1)
                    have g4 := HT.out
                    have g5 := HN.out
                    exact lsum_pos HO.out e (by rw [← g4, g5, e1]; rfl)
                have := HL.out
                rw [hl0] at this
                simp at this
                omega
              · have := RowIs.last HO.out hj (by rw [← HT.out, HN.out]; omega)
                have := HL.out
                omega
            have hw9 : IntKind.i64.wrap ((n : Int) - 1) = (n : Int) - 1 := IntWalk.i64_in _ (by omega)
            subst hlast
            have c9 := Lib.hid trivial
            clear bb BW8 q5 BW7 hla hr6 CS1 c9
            go_wp2_with fail
            with_reducible refine (C6.out _).mono ?_
            rintro e w9 ⟨rfl, bb⟩
            have Q9 := Lib.hid (Q8.out.trans (bb.mono Q8.out.size))
            clear bb
            go_wp2
            go_ret
            exact ⟨rfl, Q9.out⟩
    · have HO := Lib.hid ho
      have CX := Lib.hid fun (B : Option Addr) (d : Nat) (W : World) (hB : RowsAt encL 4 W B l) => lright B n d l W hB hl hnm false ⟨fun h => absurd h (by simp), fun h => absurd h ho⟩
      clear ho hI
      go_enter Try.func9, Try.ntmps9
      go_wp2_with fail
      with_reducible refine (CR.out _ (Below.refl _ _)).mono ?_
      rintro e w2 ⟨v2, rfl, o2, bb⟩
      have Q1 := Lib.hid bb
      obtain ⟨A2, c2, rfl, hR2, _, _⟩ := rows_of_own encL_len (by omega) o2
      have CX1 := Lib.hid (CX.out A2 c2 _ hR2)
      clear o2 hR2
      clear bb
      go_wp2_with fail
      with_reducible refine (CX1.out).mono ?_
      rintro e w3 ⟨rfl, bb⟩
      have Q2 := Lib.hid (Q1.out.trans (bb.mono Q1.out.size))
      clear CX1
      clear bb
      go_wp2_with fail
      with_reducible refine (C6.out _).mono ?_
      rintro e w6 ⟨rfl, bb⟩
      have Q6 := Lib.hid (Q2.out.trans (bb.mono Q2.out.size))
      clear bb
      go_wp2
      go_ret
      exact ⟨rfl, Q6.out⟩
end Go.Proofs.Ytnfjleobcfhpnaa
