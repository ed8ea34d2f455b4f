/- Windows: the document's Fits and Widen; the law's five and right. -/
import Derived.Test.YtjkmkobnfhepaaaWiD
import Derived.Test.YtjkmkobnfhepaaaWiC
namespace Go.Proofs.Ytjkmkobnfhepaaa
open Go.RowKit
set_option linter.unusedVariables false
set_option maxHeartbeats 16000000 in
set_option maxRecDepth 100000 in
theorem rWFits_any (a b c d n m : Int) (w : World) : Calls Try.prog 8 #[.agg #[.int .i64 a, .int .i64 b, .int .i64 c, .int .i64 d], .int .i64 n, .int .i64 m] w fun e w' => e = .returned (.bool (wiFit a b c d n m)) ∧ Below w.heap.size w w' := by
  have HE : Hid (wiFit a b c d n m = true ↔ (0 ≤ a ∧ a ≤ b ∧ b ≤ n) ∧ (0 ≤ c ∧ c ≤ d ∧ d ≤ m) ∧ a = c ∧ wrap64 (n - b) = wrap64 (m - d)) := Lib.hid wiFit_yes
  generalize wiFit a b c d n m = r at *
  have HN : Hid (¬ ((0 ≤ a ∧ a ≤ b ∧ b ≤ n) ∧ (0 ≤ c ∧ c ≤ d ∧ d ≤ m) ∧ a = c ∧ wrap64 (n - b) = wrap64 (m - d)) → r = false) := Lib.hid fun h => by cases r; rfl; exact absurd (HE.out.mp rfl) h
  have hx : Below w.heap.size w (w.alloc (.cells #[.int .i64 a, .int .i64 b, .int .i64 c, .int .i64 d] 27)) := (Below.refl _ _).alloc (Nat.le_refl _) _
  have HX := Lib.hid hx
  clear hx
  by_cases g0 : a < 0
  · have k0 : decide (a < 0) = true := decide_eq_true g0
    obtain rfl : r = false := HN.out (fun h => by omega)
    clear HE HN
    go_enter Try.func8, Try.ntmps8
    go_wp2
    go_ret
    exact ⟨by simp, HX.out⟩
  · have k0 : decide (a < 0) = false := decide_eq_false g0
    by_cases g1 : b < a
    · have k1 : decide (b < a) = true := decide_eq_true g1
      obtain rfl : r = false := HN.out (fun h => by omega)
      clear HE HN
      go_enter Try.func8, Try.ntmps8
      go_wp2
      go_ret
      exact ⟨by simp, HX.out⟩
    · have k1 : decide (b < a) = false := decide_eq_false g1
      by_cases g2 : n < b
      · have k2 : decide (n < b) = true := decide_eq_true g2
        obtain rfl : r = false := HN.out (fun h => by omega)
        clear HE HN
        go_enter Try.func8, Try.ntmps8
        go_wp2
        go_ret
        exact ⟨by simp, HX.out⟩
      · have k2 : decide (n < b) = false := decide_eq_false g2
        by_cases g3 : d < c
        · have k3 : decide (d < c) = true := decide_eq_true g3
          obtain rfl : r = false := HN.out (fun h => by omega)
          clear HE HN
          go_enter Try.func8, Try.ntmps8
          go_wp2
          go_ret
          exact ⟨by simp, HX.out⟩
        · have k3 : decide (d < c) = false := decide_eq_false g3
          by_cases g4 : m < d
          · have k4 : decide (m < d) = true := decide_eq_true g4
            obtain rfl : r = false := HN.out (fun h => by omega)
            clear HE HN
            go_enter Try.func8, Try.ntmps8
            go_wp2
            go_ret
            exact ⟨by simp, HX.out⟩
          · have k4 : decide (m < d) = false := decide_eq_false g4
            by_cases g5 : a = c
            · subst g5
              by_cases g6 : wrap64 (n - b) = wrap64 (m - d)
              · have k6 : decide (wrap64 (n - b) = wrap64 (m - d)) = true := decide_eq_true g6
                obtain rfl : r = true := HE.out.mpr ⟨by omega, by omega, rfl, g6⟩
                clear HE HN
                go_enter Try.func8, Try.ntmps8
                go_wp2
                go_ret
                exact ⟨by simp, HX.out⟩
              · have k6 : decide (wrap64 (n - b) = wrap64 (m - d)) = false := decide_eq_false g6
                obtain rfl : r = false := HN.out (fun h => g6 h.2.2.2)
                clear HE HN
                go_enter Try.func8, Try.ntmps8
                go_wp2
                go_ret
                exact ⟨by simp [g6], HX.out⟩
            · have k5 : decide (a = c) = false := decide_eq_false g5
              obtain rfl : r = false := HN.out (fun h => g5 h.2.2.1)
              clear HE HN
              go_enter Try.func8, Try.ntmps8
              go_wp2
              go_ret
              exact ⟨by simp, HX.out⟩
set_option maxHeartbeats 16000000 in
set_option maxRecDepth 100000 in
theorem rWWiden_any (p0 b c p d : Int) (A : Option Addr) (m ca : Nat) (l : List (Int × Int)) (B : Option Addr) (k cb : Nat) (o : List (Int × Int)) (w : World) (hA : RowsAt wiS 2 w A l) (hB : RowsAt wiS 2 w B o) (hl : l.length = m) (ho : o.length = k) (hm : m ≤ 1000) (hk : k ≤ 1000)
    (hsl : WSm l) (hso : WSm o) (h0 : 0 ≤ p0) (h1 : p0 ≤ 4000000000) (h2 : 0 ≤ b) (h3 : b ≤ 4000000000) (h4 : 0 ≤ c) (h5 : c ≤ 4000000000) (hd : Wdn l o p0 b c p d) (hL : WdL l o p) (hR : WdR l o b c d) :
    Calls Try.prog 11 #[.agg #[.int .i64 p0, .int .i64 b, .int .i64 p0, .int .i64 c], .slice A m ca, .slice B k cb] w fun e w' => e = .returned (.agg #[.int .i64 p, .int .i64 (b + d), .int .i64 p, .int .i64 (c + d)]) ∧ Below w.heap.size w w' := by
  have ws := wdc_start l o p0 b c 0
  rw [hl, ho] at ws
  have HS : Hid ((WdL l o p0 ∧ WdR l o b c 0) ∨ wdcL l o p0 + wdcR l o b c 0 ≤ 2 * m + 2 * k - 0) := Lib.hid (.inr (by omega))
  have HU : Hid (∀ p' d', Wdn l o p0 b c p' d' → WdL l o p' → WdR l o b c d' → p' = p ∧ d' = d) := Lib.hid fun p' d' h a e => h.unique hd a e hL hR
  have CO := Lib.hid fun (q z : Int) (W : World) (h : Below w.heap.size w W) (e0 : 0 ≤ q ∧ q ≤ p0 ∧ 0 ≤ z ∧ z ≤ 4000000000) => rWonce_any q b c z A m ca l B k cb o W (hA.below h) (hB.below h) hl ho hm hk hsl hso e0.1 (by omega) h2 h3 h4 h5 e0.2.2.1 e0.2.2.2
  clear hA hB hl ho ws hsl hso hd hL hR
  have N := new2 w 27 27 #[.int .i64 p0, .int .i64 b, .int .i64 p0, .int .i64 c] #[.int .i64 0, .int .i64 0, .int .i64 0, .int .i64 0]
  obtain ⟨n1, n2, b0, _⟩ := N
  have w1 : IntKind.i64.wrap (2 * (m : Int)) = 2 * (m : Int) := IntWalk.i64_in _ (by omega)
  have w2 : IntKind.i64.wrap (2 * (k : Int)) = 2 * (k : Int) := IntWalk.i64_in _ (by omega)
  have w3 : IntKind.i64.wrap (2 * (m : Int) + 2 * (k : Int)) = 2 * (m : Int) + 2 * (k : Int) := IntWalk.i64_in _ (by omega)
  have w4 : IntKind.i64.wrap (2 * (m : Int) + 2 * (k : Int) + 1) = 2 * (m : Int) + 2 * (k : Int) + 1 := IntWalk.i64_in _ (by omega)
  go_enter Try.func11, Try.ntmps11
  go_wp2_with fail
  obtain ⟨W0, hW0⟩ : ∃ W0, W0 = ((w.alloc (.cells #[.int .i64 p0, .int .i64 b, .int .i64 p0, .int .i64 c] 27)).alloc (.cells #[.int .i64 0, .int .i64 0, .int .i64 0, .int .i64 0] 27)) := ⟨_, rfl⟩
  rw [← hW0] at n1 n2 b0 ⊢
  clear hW0 w1 w2 w3 w4
  have n1' : RawAt 27 W0 w.heap.size #[.int .i64 p0, .int .i64 (b + 0), .int .i64 p0, .int .i64 (c + 0)] := by simpa using n1
  go_loopg [15] (2 * m + 2 * k + 1) (fun g i wr => ∃ (j : Nat) (q z : Int), i = .int .i64 j ∧ j ≤ 2 * m + 2 * k + 1 ∧ 2 * m + 2 * k + 1 - j ≤ g ∧ Hid (Wdn l o p0 b c q z) ∧ (0 ≤ q ∧ q ≤ p0 ∧ 0 ≤ z ∧ z ≤ 4000000000) ∧ Hid ((WdL l o q ∧ WdR l o b c z) ∨ wdcL l o q + wdcR l o b c z ≤ 2 * m + 2 * k - j) ∧ RawAt 27 wr w.heap.size #[.int .i64 q, .int .i64 (b + z), .int .i64 q, .int .i64 (c + z)] ∧ RawAt 27 wr (w.heap.size + 1) #[.int .i64 0, .int .i64 0, .int .i64 0, .int .i64 0] ∧ Hid (Below w.heap.size w wr))
  case atStart => exact ⟨0, p0, 0, rfl, by omega, by omega, Lib.hid (Wdn.start _ _ _ _ _), ⟨h0, by omega, by omega, by omega⟩, HS, n1', n2, Lib.hid b0⟩
  case round =>
    clear n1 n1' n2 b0 HS
    obtain ⟨j, q, z, rfl, j1, j2, hwd, hz, hpo, n1, n2, hb⟩ := hrel
    have i1 : (0 : Int) ≤ j := by omega
    by_cases hlt : j < 2 * m + 2 * k + 1
    · have i2 : (j : Int) < 2 * (m : Int) + 2 * (k : Int) + 1 := by omega
      have CO1 := Lib.hid fun W hW => CO.out q z W hW hz
      have n1q0 := RawAt.cell n1 0
      have n1q1 := RawAt.cell n1 1
      have n1q2 := RawAt.cell n1 2
      have n1q3 := RawAt.cell n1 3
      simp at n1q0 n1q1 n1q2 n1q3
      go_wp2_with fail
      with_reducible refine (CO1.out _ hb.out).mono ?_
      rintro e w5 ⟨p', d', rfl, ho, hz', b5⟩
      have n1 := n1.below b5 n1.lt
      have n2 := n2.below b5 n2.lt
      have HB5 := Lib.hid (hb.out.trans (b5.mono hb.out.size))
      have HW := Lib.hid (hwd.out.once ho)
      have HPO : Hid ((WdL l o p' ∧ WdR l o b c d') ∨ wdcL l o p' + wdcR l o b c d' ≤ 2 * m + 2 * k - (j + 1)) := Lib.hid (by
        by_cases e : j < 2 * m + 2 * k
        · exact Wdn.lessO (by rw [show 2 * m + 2 * k - (j + 1) + 1 = 2 * m + 2 * k - j by omega]; exact hpo.out) ho
        · have e1 : 2 * m + 2 * k - j = 0 := by omega
          have e2 := hpo.out
          rw [e1] at e2
          exact Wdn.lessO (.inl (WdLR_zero e2)) ho)
      clear n1q0 n1q1 n1q2 n1q3 CO1 hwd hpo ho b5
      have hz2 : 0 ≤ p' ∧ p' ≤ p0 ∧ 0 ≤ d' ∧ d' ≤ 4000000000 := by omega
      have y0 := RawAt.cell n1 0
      have y1 := RawAt.cell n1 1
      have y2 := RawAt.cell n1 2
      have y3 := RawAt.cell n1 3
      simp at y0 y1 y2 y3
      have f0 := RawAt.free n1 0
      have f1 := RawAt.free n1 1
      have f2 := RawAt.free n1 2
      have f3 := RawAt.free n1 3
      have R1 : RawAt 27 ((((w5.setCell ⟨w.heap.size, 0, none⟩ (.int .i64 p')).setCell ⟨w.heap.size, 1, none⟩ (.int .i64 (b + d'))).setCell ⟨w.heap.size, 2, none⟩ (.int .i64 p')).setCell ⟨w.heap.size, 3, none⟩ (.int .i64 (c + d'))) w.heap.size #[.int .i64 p', .int .i64 (b + d'), .int .i64 p', .int .i64 (c + d')] := ((((n1.set_ 0 _).set_ 1 _).set_ 2 _).set_ 3 _).of_eq (by simp)
      have R2 : RawAt 27 ((((w5.setCell ⟨w.heap.size, 0, none⟩ (.int .i64 p')).setCell ⟨w.heap.size, 1, none⟩ (.int .i64 (b + d'))).setCell ⟨w.heap.size, 2, none⟩ (.int .i64 p')).setCell ⟨w.heap.size, 3, none⟩ (.int .i64 (c + d'))) (w.heap.size + 1) #[.int .i64 0, .int .i64 0, .int .i64 0, .int .i64 0] := ((((n2.set_other (by omega) 0 _).set_other (by omega) 1 _).set_other (by omega) 2 _).set_other (by omega) 3 _)
      have HBE : Hid (Below w.heap.size w ((((w5.setCell ⟨w.heap.size, 0, none⟩ (.int .i64 p')).setCell ⟨w.heap.size, 1, none⟩ (.int .i64 (b + d'))).setCell ⟨w.heap.size, 2, none⟩ (.int .i64 p')).setCell ⟨w.heap.size, 3, none⟩ (.int .i64 (c + d')))) := Lib.hid ((((HB5.out.setCell (p := ⟨w.heap.size, 0, none⟩) (by simp) _).setCell (p := ⟨w.heap.size, 1, none⟩) (by simp) _).setCell (p := ⟨w.heap.size, 2, none⟩) (by simp) _).setCell (p := ⟨w.heap.size, 3, none⟩) (by simp) _)
      go_wp2
      go_roundg (gk - 1)
      case measure => omega
      case rel => exact ⟨j + 1, p', d', by go_num, by omega, by omega, HW, hz2, HPO, R1, R2, HBE⟩
    · obtain rfl : j = 2 * m + 2 * k + 1 := by omega
      have e2 := hpo.out
      rw [show 2 * m + 2 * k - (2 * m + 2 * k + 1) = 0 by omega] at e2
      have e3 := WdLR_zero e2
      obtain ⟨rfl, rfl⟩ := HU.out q z hwd.out e3.1 e3.2
      clear e2 e3 hpo hwd HU CO
      have i2 : ¬ ((2 * m + 2 * k + 1 : Nat) : Int) < 2 * (m : Int) + 2 * (k : Int) + 1 := by omega
      have y0 := RawAt.cell n1 0
      have y1 := RawAt.cell n1 1
      have y2 := RawAt.cell n1 2
      have y3 := RawAt.cell n1 3
      have z0 := RawAt.cell n2 0
      have z1 := RawAt.cell n2 1
      have z2 := RawAt.cell n2 2
      have z3 := RawAt.cell n2 3
      simp at y0 y1 y2 y3 z0 z1 z2 z3
      have f0 := RawAt.free n2 0
      have f1 := RawAt.free n2 1
      have f2 := RawAt.free n2 2
      have f3 := RawAt.free n2 3
      have RF : RawAt 27 ((((wr.setCell ⟨w.heap.size + 1, 0, none⟩ (.int .i64 q)).setCell ⟨w.heap.size + 1, 1, none⟩ (.int .i64 (b + z))).setCell ⟨w.heap.size + 1, 2, none⟩ (.int .i64 q)).setCell ⟨w.heap.size + 1, 3, none⟩ (.int .i64 (c + z))) (w.heap.size + 1) #[.int .i64 q, .int .i64 (b + z), .int .i64 q, .int .i64 (c + z)] := ((((n2.set_ 0 _).set_ 1 _).set_ 2 _).set_ 3 _).of_eq (by simp)
      have rf0 := RawAt.cell RF 0
      have rf1 := RawAt.cell RF 1
      have rf2 := RawAt.cell RF 2
      have rf3 := RawAt.cell RF 3
      have HBE : Hid (Below w.heap.size w ((((wr.setCell ⟨w.heap.size + 1, 0, none⟩ (.int .i64 q)).setCell ⟨w.heap.size + 1, 1, none⟩ (.int .i64 (b + z))).setCell ⟨w.heap.size + 1, 2, none⟩ (.int .i64 q)).setCell ⟨w.heap.size + 1, 3, none⟩ (.int .i64 (c + z)))) := Lib.hid ((((hb.out.setCell (p := ⟨w.heap.size + 1, 0, none⟩) (by simp) _).setCell (p := ⟨w.heap.size + 1, 1, none⟩) (by simp) _).setCell (p := ⟨w.heap.size + 1, 2, none⟩) (by simp) _).setCell (p := ⟨w.heap.size + 1, 3, none⟩) (by simp) _)
      go_wp2
      refine bodyPost_ret (v := .agg #[.int .i64 q, .int .i64 (b + z), .int .i64 q, .int .i64 (c + z)]) (by simp [results, Try.results11, go_sem, rf0, rf1, rf2, rf3]) rfl ⟨rfl, HBE.out⟩
theorem wi5_wdn : Wdn [((1, 5) : Int × Int)] [] 3 4 4 1 1 := by
  refine ⟨by omega, fun r hr h1 _ => ?_, by omega, fun r hr h1 _ => ?_⟩
  · have := wacr_no.mp h1 (1, 5) (by simp)
    simp only at this
    omega
  · have := wacr_no.mp h1 (1, 5) (by simp)
    simp only at this
    omega
theorem wi5_sm : WSm [((1, 5) : Int × Int)] := by intro x hx; simp at hx; subst hx; simp
theorem wi0_sm : WSm [] := fun x hx => by cases hx
set_option maxHeartbeats 8000000 in
set_option maxRecDepth 100000 in
theorem wiFive_any (w : World) : Calls Try.prog 6 #[] w fun e w' => e = .returned (.bool true) ∧ Below w.heap.size w w' := by
  have N := new2 w 23 23 #[.int .i64 3, .int .i64 4] #[.int .i64 1, .int .i64 5]
  obtain ⟨n1, n2, b0, e2⟩ := N
  have CW := Lib.hid (wiWiden_any 3 4 4 (some ⟨w.heap.size + 1, 0, none⟩) 1 1 [(1, 5)] none 0 0 [] _ (rows_of_block (enc := wiS) (k := 2) (fun _ => rfl) n2 rfl) (RowsAt.nil _ _) rfl rfl (by omega) (by omega) wi5_sm wi0_sm (by omega) (by omega) (by omega) (by omega) (by omega) (by omega))
  have C6 : Hid (∀ W, Calls Try.prog 7 #[.agg #[.int .i64 3, .int .i64 4], .agg #[.int .i64 3, .int .i64 4], .int .i64 6, .int .i64 6] W fun e w' => e = .returned (.bool true) ∧ Below W.heap.size W w') := Lib.hid fun W => by
    have := wiFits_any 3 4 3 4 6 6 W
    rwa [show wiFit 3 4 3 4 6 6 = true from by decide +kernel] at this
  have C7 : Hid (∀ W, Calls Try.prog 7 #[.agg #[.int .i64 3, .int .i64 4], .agg #[.int .i64 3, .int .i64 4], .int .i64 6, .int .i64 7] W fun e w' => e = .returned (.bool false) ∧ Below W.heap.size W w') := Lib.hid fun W => by
    have := wiFits_any 3 4 3 4 6 7 W
    rwa [show wiFit 3 4 3 4 6 7 = false from by decide +kernel] at this
  go_enter Try.func6, Try.ntmps6
  go_wp2_with fail
  with_reducible refine (CW.out).mono ?_
  rintro e w1 ⟨p, d, rfl, hw, hl, hr, _, b1⟩
  obtain ⟨rfl, rfl⟩ := hw.unique wi5_wdn hl hr ⟨by decide, by decide⟩ ⟨by decide, by decide⟩
  clear hw hl hr CW
  have n1 := n1.below b1 n1.lt
  have b0 := b0.trans (b1.mono b0.size)
  clear n2 e2 b1
  have q0 := RawAt.cell n1 0
  have q1 := RawAt.cell n1 1
  simp at q0 q1
  have N := new2 w1 23 23 #[.int .i64 1, .int .i64 5] #[.int .i64 1, .int .i64 5]
  obtain ⟨m1, m2, bm, _⟩ := N
  have n1 := n1.below bm n1.lt
  have b0 := b0.trans (bm.mono b0.size)
  go_upto_region 3 with fail
  obtain ⟨g5, hg5⟩ : ∃ g, g = w1.heap.size := ⟨_, rfl⟩
  rw [← hg5] at m1 m2 ⊢
  clear hg5 q0 q1 bm
  generalize (w1.alloc (.cells #[.int .i64 1, .int .i64 5] 23)).alloc (.cells #[.int .i64 1, .int .i64 5] 23) = W4 at *
  have q0 := RawAt.cell n1 0
  have q1 := RawAt.cell n1 1
  have q2 := RawAt.cell m1 0
  have q3 := RawAt.cell m1 1
  have q4 := RawAt.cell m2 0
  have q5 := RawAt.cell m2 1
  simp at q0 q1 q2 q3 q4 q5
  go_wp2_with fail
  with_reducible refine (C6.out _).mono ?_
  rintro e w6 ⟨rfl, b6⟩
  have n1 := n1.below b6 n1.lt
  have b0 := b0.trans (b6.mono b0.size)
  clear q0 q1 q2 q3 q4 q5 b6
  have q0 := RawAt.cell n1 0
  have q1 := RawAt.cell n1 1
  simp at q0 q1
  go_wp2_with fail
  with_reducible refine (C7.out _).mono ?_
  rintro e w7 ⟨rfl, b6⟩
  have HB := Lib.hid (b0.trans (b6.mono b0.size))
  clear b6 b0
  go_wp2
  go_ret
  exact ⟨rfl, HB.out⟩
end Go.Proofs.Ytjkmkobnfhepaaa
