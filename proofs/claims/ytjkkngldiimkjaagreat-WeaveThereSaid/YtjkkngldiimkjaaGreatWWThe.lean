/- Weaves: the law WeaveThere, walked. -/
import Derived.Test.YtjkkngldiimkjaaGreatWvL
import Derived.Test.YtjkkngldiimkjaaGreatInO
namespace Go.Proofs.YtjkkngldiimkjaaGreat
open Go.RowKit Go.Sort
set_option linter.unusedVariables false
theorem wosum_step (p : Int) : ∀ l : List In, wosum (p + 1) 0 l = wosum p 1 l
  | [] => rfl
  | a :: l => by
    show (if a.pl < p + 1 ∨ (a.pl = p + 1 ∧ (0 : Int) = 1) then (wcnt a : Int) else 0) + wosum (p + 1) 0 l = (if a.pl < p ∨ (a.pl = p ∧ (1 : Int) = 1) then (wcnt a : Int) else 0) + wosum p 1 l
    rw [wosum_step p l]
    by_cases h : a.pl ≤ p
    · rw [if_pos (by omega), if_pos (by omega)]
    · rw [if_neg (by omega), if_neg (by omega)]
theorem wosum_mono (p q b : Int) (h : p ≤ q) : ∀ l : List In, wosum p b l ≤ wosum q 1 l
  | [] => Int.le_refl _
  | a :: l => by
    have ih := wosum_mono p q b h l
    show (if a.pl < p ∨ (a.pl = p ∧ b = 1) then (wcnt a : Int) else 0) + wosum p b l ≤ (if a.pl < q ∨ (a.pl = q ∧ (1 : Int) = 1) then (wcnt a : Int) else 0) + wosum q 1 l
    by_cases h1 : a.pl < p ∨ (a.pl = p ∧ b = 1)
    · rw [if_pos h1, if_pos (by omega)]; omega
    · rw [if_neg h1]
      split <;> omega
/-- What the last place was, ahead of a place and a bias. -/
def wlb (o : List In) (j b : Nat) : Int := if b = 0 then (if j = 0 then -1 else (j : Int) - 1 + wosum ((j : Int) - 1) 1 o) else if b = 1 then (j : Int) + wosum j 0 o else (j : Int) + wosum j 1 o
theorem wlb_next (o : List In) (j : Nat) : wlb o j 2 = wlb o (j + 1) 0 := by
  unfold wlb
  rw [if_neg (by omega), if_neg (by omega), if_pos rfl, if_neg (by omega), show (((j + 1 : Nat)) : Int) - 1 = j from by omega]
theorem wlb_lt (o : List In) (j : Nat) (hn : ∀ p b : Int, 0 ≤ wosum p b o) : wlb o j 0 < wlb o j 1 := by
  have h1 : wlb o j 1 = (j : Int) + wosum j 0 o := by unfold wlb; rw [if_neg (by omega), if_pos rfl]
  rw [h1]
  cases j with
  | zero =>
    show (-1 : Int) < _
    have := hn ((0 : Nat) : Int) 0
    omega
  | succ j =>
    have h2 : wlb o (j + 1) 0 = ((j + 1 : Nat) : Int) - 1 + wosum (((j + 1 : Nat) : Int) - 1) 1 o := by unfold wlb; rw [if_pos rfl, if_neg (by omega)]
    have := wosum_step ((j : Nat) : Int) o
    rw [h2, show (((j + 1 : Nat)) : Int) - 1 = j from by omega, show (((j + 1 : Nat)) : Int) = (j : Int) + 1 from by omega, this]
    omega
theorem wlb_le (o : List In) (j : Nat) : wlb o j 1 ≤ wlb o j 2 := by
  unfold wlb
  rw [if_neg (by omega), if_pos rfl, if_neg (by omega), if_neg (by omega)]
  have := wosum_mono (j : Int) j 0 (Int.le_refl _) o
  omega
theorem ws13f (x : Int) (A : Option Addr) (m c : Nat) (r : Int) (w : World) : (Instr.field 30 (.agg #[.int .i64 x, .slice A m c, .int .i64 r]) 2).run Tryz.prog w = .ok (.int .i64 r) w := by kernel_rfl
set_option maxHeartbeats 32000000 in
set_option maxRecDepth 100000 in
theorem weaveThere_walk (n : Int) (A : Option Addr) (m c : Nat) (l : List In) (w : World) (_wf : (Lit.int .i64 n).wf = true) (hI : RowsAt encI 5 w A l) (hl : l.length = m) (hn : m ≤ maxLen) (hc : Caps A m c) (hO : ∀ s ∈ l, InOk s) :
    Calls Tryz.prog 5 #[.int .i64 n, .slice A m c] w fun e w' => e = .returned (.bool true) ∧ Below w.heap.size w w' := by
  have C4 := Lib.hid fun W => four_any W
  have tf0 := ws13f
  have CLO := Lib.hid fun (b : Bool) (hb : b = true ↔ ¬ Short14 n l) => long14_any n A m c l b w hI hl hn (fun x hx => (hO x hx).2.2.2.2) hb
  by_cases g : Short14 n l
  · have CLF := Lib.hid (CLO.out false ⟨fun h => absurd h (by simp), fun h => absurd g h⟩)
    obtain ⟨g0, g1, g2, g3⟩ := g
    have hm : m ≤ 60 := by rw [← hl]; exact g2
    have ht : ∀ x ∈ l, x.tx.size ≤ 100000000 := fun x hx => Nat.le_trans (g3 x hx) (by omega)
    obtain ⟨r, hr⟩ : ∃ r, r = iwrong n l := ⟨_, rfl⟩
    have CN := Lib.hid fun (W : World) (hW : Below w.heap.size w W) => iNew_any n A m c l W (hI.below hW) hc hl (fun a ha => (hO a ha).1) ht r hr.symm
    have CR := Lib.hid fun (W : World) (hW : Below w.heap.size w W) => rNew13_any n A m c l W (hI.below hW) hc hl ht r hr.symm
    have HOS : Hid (r = 0 → wOSet n (ord ilt (l.map icl))) := Lib.hid fun h => woset_new (hr.symm.trans h) g3
    clear CLO hr hI hl ht hO hc g3 g2
    obtain ⟨N, rfl⟩ : ∃ N : Nat, n = N := ⟨n.toNat, by omega⟩
    generalize ho : ord ilt (l.map icl) = o at *
    have HO := Lib.hid ho
    clear ho
    by_cases hz : r = 0
    · subst hz
      have HS := Lib.hid (HOS.out (by first | exact trivial | rfl))
      clear HOS
      have hN : N ≤ 300 := by omega
      clear g0 g1
      go_enter Tryz.func5, Tryz.ntmps5
      go_wp2_with fail
      with_reducible refine (CLF.out).mono ?_
      rintro e w2 ⟨rfl, b2⟩
      have HQ2 := Lib.hid b2
      clear b2
      go_wp2_with fail
      with_reducible refine (CN.out _ HQ2.out).mono ?_
      rintro e w3 ⟨p, rfl, hp1, hp2, b3⟩
      obtain ⟨sb, rfl, hs⟩ := hp2 (by first | exact trivial | rfl)
      have HI3 := Lib.hid hs
      have HQ3 := Lib.hid (HQ2.out.trans (b3.mono HQ2.out.size))
      have CW := Lib.hid (wvNew_set hs HS.out)
      clear b3 hp1 hp2 hs HI3
      go_wp2_with fail
      with_reducible refine (CW.out).mono ?_
      rintro e w6 ⟨a6, h6, rfl, hT6, b6⟩
      have HQ6 := Lib.hid (HQ3.out.trans (b6.mono HQ3.out.size))
      have HT := Lib.hid hT6
      clear CW hT6 b6
      have hwv := HS.out.wv
      obtain ⟨d1, d2, d3, d4, d5⟩ := wv_doc hwv
      have hob : ∀ p b : Int, 0 ≤ wosum p b o := fun p b => (wosum_bd p b 1000 o (fun a ha => Nat.le_trans (dec_len a.tx) (HS.out.each a ha).2)).1
      have hoB : wosum N 1 o ≤ 60000 := by
        have := (wosum_bd N 1 1000 o (fun a ha => Nat.le_trans (dec_len a.tx) (HS.out.each a ha).2)).2
        have := HS.out.len
        omega
      have CZ := Lib.hid fun (W : World) (hW : Below w6.heap.size w6 W) => wvSizes (HT.out.below hW)
      rw [d4, d5] at CZ
      have HEQ : ∀ (j : Nat) (b : Int), j ≤ N → (b = 0 ∨ b = 1) → woutP (wvP 0 o N) j b = j + wosum j b o ∧ winP (wvP 0 o N) (j + wosum j b o) = ((j : Int), 0) := fun j b hj hb => by
        have q1 := woutP_is o 0 N j b hwv (by omega) (by omega) hb
        have q2 := winP_outP o 0 N j b hwv (by omega) (by omega) hb
        rw [show (j : Int) - 0 = j from by omega] at q1 q2
        rw [q1] at q2
        exact ⟨q1, q2⟩
      have COY := Lib.hid fun (j : Nat) (b : Int) (hj : j ≤ N) (hb : b = 0 ∨ b = 1) (W : World) (hW : Below w6.heap.size w6 W) => (by
        have := wvOut_yes (HT.out.below hW) (j : Int) b ⟨by omega, by rw [d4]; omega⟩ hb
        rwa [(HEQ j b hj hb).1] at this : Calls Tryz.prog 21 #[.pointer (some a6), .int .i64 j, .int .i64 b] W fun e w' => e = .returned (.tuple #[.int .i64 (j + wosum j b o), .int .i64 0]) ∧ Below W.heap.size W w')
      have CIY := Lib.hid fun (j : Nat) (b : Int) (hj : j ≤ N) (hb : b = 0 ∨ b = 1) (W : World) (hW : Below w6.heap.size w6 W) => (by
        have := wvIn_yes (HT.out.below hW) (j + wosum j b o) ⟨by have := hob j b; omega, by rw [d5]; have := wosum_mono j N b (by omega) o; omega⟩
        rwa [(HEQ j b hj hb).2] at this : Calls Tryz.prog 23 #[.pointer (some a6), .int .i64 (j + wosum j b o)] W fun e w' => e = .returned (.tuple #[.int .i64 j, .int .i64 0, .int .i64 0]) ∧ Below W.heap.size W w')
      have h00 : wosum 0 0 o = 0 := wosum_zero 0 0 o (fun a ha => hwv.lo a ha) (fun a ha h => by cases h)
      have HLT := Lib.hid fun (j : Nat) => wlb_lt o j hob
      have HLE := Lib.hid fun (j : Nat) => wlb_le o j
      have H00 := Lib.hid h00
      have HFIN : Hid (wlb o (N + 1) 0 = N + wosum N 1 o) := Lib.hid (by unfold wlb; rw [if_pos rfl, if_neg (by omega), show (((N + 1 : Nat)) : Int) - 1 = N from by omega])
      have HM1 := Lib.hid fun (j : Nat) => (show wlb o j 1 = j + wosum j 0 o from by unfold wlb; rw [if_neg (by omega), if_pos rfl])
      have HM2 := Lib.hid fun (j : Nat) => (show wlb o j 2 = j + wosum j 1 o from by unfold wlb; rw [if_neg (by omega), if_neg (by omega)])
      clear hwv d1 d2 d3 d4 d5 HEQ hob h00 hoB
      go_wp2_with fail
      with_reducible refine (CZ.out _ (Below.refl _ _)).mono ?_
      rintro e w7 ⟨rfl, b7⟩
      have HB7 := Lib.hid b7
      clear b7 CZ
      go_wp2_with fail
      go_loopg [10, 11] (N + 2) (fun g v i wr => ∃ j : Nat, i = .int .i64 j ∧ j ≤ N + 1 ∧ N + 2 - j ≤ g ∧ v = .int .i64 (wlb o j 0) ∧ Hid (Below w6.heap.size w6 wr))
      case atStart => exact ⟨0, rfl, by omega, by omega, rfl, HB7⟩
      case round =>
        clear HB7
        obtain ⟨j, rfl, j1, j2, rfl, hb⟩ := hrel
        obtain ⟨gO, hgO⟩ : ∃ g, g = gk := ⟨_, rfl⟩
        subst hgO
        by_cases hlt : j ≤ N
        · have k0 : decide ((j : Int) ≤ N) = true := decide_eq_true (by omega)
          have HB0 := hb
          clear hb
          go_wp2_with fail
          go_loopg [10, 12] 3 (fun g v i wr => ∃ b : Nat, i = .int .i64 b ∧ b ≤ 2 ∧ 3 - b ≤ g ∧ v = .int .i64 (wlb o j b) ∧ Hid (Below w6.heap.size w6 wr))
          case atStart => exact ⟨0, rfl, by omega, by omega, rfl, HB0⟩
          case round =>
            clear HB0
            obtain ⟨b, rfl, c1, c2, rfl, hb⟩ := hrel
            have q1 := HLT.out j
            have q2 := HLE.out j
            have hnx := Lib.hid (wlb_next o j)
            rcases (by omega : b = 0 ∨ b = 1 ∨ b = 2) with rfl | rfl | rfl
            · have CO := Lib.hid (COY.out j 0 hlt (by omega) wr hb.out)
              have CI := Lib.hid fun (W : World) (hW : Below w6.heap.size w6 W) => CIY.out j 0 hlt (by omega) W hW
              rw [← (HM1.out j)] at CO CI
              have HBX := hb
              clear hb hnx
              generalize wlb o j 0 = z at *
              generalize hkk : wlb o j 1 = k at *
              have HKK := Lib.hid hkk
              clear hkk
              have f1 : decide (k < z) = false := decide_eq_false (by omega)
              have f2 : (k == z) = false := by simp; omega
              clear q1 q2
              go_wp2_with fail
              with_reducible refine (CO.out).mono ?_
              rintro e wA ⟨rfl, bA⟩
              have HBA := Lib.hid (HBX.out.trans (bA.mono HBX.out.size))
              clear bA CO
              go_wp2_with fail
              with_reducible refine (CI.out _ HBA.out).mono ?_
              rintro e wB ⟨rfl, bB⟩
              have HBB := Lib.hid (HBA.out.trans (bB.mono HBA.out.size))
              clear bB CI
              go_wp2
              go_roundg (gk - 1)
              case measure => omega
              case rel => exact ⟨1, by go_num, by omega, by omega, by rw [HKK.out], HBB⟩
            · have CO := Lib.hid (COY.out j 1 hlt (by omega) wr hb.out)
              have CI := Lib.hid fun (W : World) (hW : Below w6.heap.size w6 W) => CIY.out j 1 hlt (by omega) W hW
              rw [← (HM2.out j)] at CO CI
              have HBX := hb
              clear hb hnx
              generalize wlb o j 1 = z at *
              generalize hkk : wlb o j 2 = k at *
              have HKK := Lib.hid hkk
              clear hkk
              have f1 : decide (k < z) = false := decide_eq_false (by omega)
              skip
              clear q1 q2
              go_wp2_with fail
              with_reducible refine (CO.out).mono ?_
              rintro e wA ⟨rfl, bA⟩
              have HBA := Lib.hid (HBX.out.trans (bA.mono HBX.out.size))
              clear bA CO
              go_wp2_with fail
              with_reducible refine (CI.out _ HBA.out).mono ?_
              rintro e wB ⟨rfl, bB⟩
              have HBB := Lib.hid (HBA.out.trans (bB.mono HBA.out.size))
              clear bB CI
              go_wp2
              go_roundg (gk - 1)
              case measure => omega
              case rel => exact ⟨2, by go_num, by omega, by omega, by rw [HKK.out], HBB⟩
            · have w1' : IntKind.i64.wrap ((j : Int) + 1) = (j : Int) + 1 := IntWalk.i64_in _ (by omega)
              have HBX := hb
              clear hb q1 q2
              rw [hnx.out]
              clear hnx
              go_wp2
              go_roundg (gO - 1)
              case measure => omega
              case rel => exact ⟨j + 1, by go_num, by omega, by omega, rfl, HBX⟩
        · obtain rfl : j = N + 1 := by omega
          have k0 : decide ((((N + 1 : Nat)) : Int) ≤ N) = false := decide_eq_false (by omega)
          have k0' : decide ((N : Int) + 1 ≤ N) = false := decide_eq_false (by omega)
          have k0'' : decide (N + 1 ≤ N) = false := decide_eq_false (by omega)
          have CF := Lib.hid (COY.out 0 0 (by omega) (.inl rfl) wr hb.out)
          rw [show ((0 : Nat) : Int) = 0 from rfl] at CF
          have e9 : (0 : Int) + wosum 0 0 o = 0 := by have := H00.out; omega
          rw [e9] at CF
          rw [HFIN.out]
          have HBX := hb
          clear hb e9
          generalize (N : Int) + wosum N 1 o = T at *
          go_wp2_with fail
          with_reducible refine (CF.out).mono ?_
          rintro e w8 ⟨rfl, b8⟩
          have HB8 := Lib.hid (HQ6.out.trans ((HBX.out.trans (b8.mono HBX.out.size)).mono HQ6.out.size))
          clear b8 CF
          go_wp2_with fail
          with_reducible refine (C4.out _).mono ?_
          rintro e w9 ⟨rfl, b9⟩
          have HB9 := Lib.hid (HB8.out.trans (b9.mono HB8.out.size))
          clear b9
          go_wp2
          go_ret
          exact ⟨rfl, HB9.out⟩
    · have k1 : (r == 0) = false := by simpa using hz
      have k2 : (r != 0) = true := by simpa using hz
      go_enter Tryz.func5, Tryz.ntmps5
      go_wp2_with fail
      with_reducible refine (CLF.out).mono ?_
      rintro e w2 ⟨rfl, b2⟩
      have HQ2 := Lib.hid b2
      clear b2
      go_wp2_with fail
      with_reducible refine (CN.out _ HQ2.out).mono ?_
      rintro e w3 ⟨p, rfl, hp1, hp2, b3⟩
      obtain rfl := hp1 hz
      have HQ3 := Lib.hid (HQ2.out.trans (b3.mono HQ2.out.size))
      clear b3 hp1 hp2
      go_wp2_with fail
      with_reducible refine (CR.out _ HQ3.out).mono ?_
      rintro e w4 ⟨nn, A2, m2, c2, rfl, hres, b4⟩
      have HQ5 := Lib.hid (HQ3.out.trans (b4.mono HQ3.out.size))
      clear b4 hres hz
      go_wp2_with fail
      with_reducible refine (C4.out _).mono ?_
      rintro e w6 ⟨rfl, b6⟩
      have HQ6 := Lib.hid (HQ5.out.trans (b6.mono HQ5.out.size))
      clear b6
      go_wp2
      go_ret
      exact ⟨rfl, HQ6.out⟩
  · have CLT := Lib.hid (CLO.out true ⟨fun _ => g, fun _ => rfl⟩)
    clear CLO hI hO hc g
    go_enter Tryz.func5, Tryz.ntmps5
    go_wp2_with fail
    with_reducible refine (CLT.out).mono ?_
    rintro e w2 ⟨rfl, b2⟩
    have HQ2 := Lib.hid b2
    clear b2
    go_wp2_with fail
    with_reducible refine (C4.out _).mono ?_
    rintro e w3 ⟨rfl, b3⟩
    have HQ3 := Lib.hid (HQ2.out.trans (b3.mono HQ2.out.size))
    clear b3
    go_wp2
    go_ret
    exact ⟨rfl, HQ3.out⟩
end Go.Proofs.YtjkkngldiimkjaaGreat
