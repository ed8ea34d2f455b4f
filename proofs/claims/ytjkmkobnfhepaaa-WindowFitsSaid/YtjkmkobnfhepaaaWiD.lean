/- Windows: the document's across, grown, once. -/
import Derived.Test.YtjkmkobnfhepaaaWiB
namespace Go.Proofs.Ytjkmkobnfhepaaa
open Go.RowKit
set_option linter.unusedVariables false
set_option maxHeartbeats 4000000 in
theorem rWacr_any (x1 x2 p : Int) (w : World) (r : Bool) (hr : r = decide (x1 < p ∧ p < x2)) : Calls Try.prog 18 #[.agg #[.int .i64 x1, .int .i64 x2], .int .i64 p] w fun e w' => e = .returned (.bool r) ∧ Below w.heap.size w w' := by
  have HR := Lib.hid hr
  clear hr
  by_cases g1 : x1 < p
  · have k1 : decide (x1 < p) = true := decide_eq_true g1
    by_cases g2 : p < x2
    · have k2 : decide (p < x2) = true := decide_eq_true g2
      obtain rfl : r = true := by rw [HR.out]; exact decide_eq_true ⟨g1, g2⟩
      clear HR
      go_enter Try.func18, Try.ntmps18
      go_wp2
      go_ret
      exact ⟨by simp, (Below.refl _ _).alloc (Nat.le_refl _) _⟩
    · have k2 : decide (p < x2) = false := decide_eq_false g2
      obtain rfl : r = false := by rw [HR.out]; exact decide_eq_false (fun h => g2 h.2)
      clear HR
      go_enter Try.func18, Try.ntmps18
      go_wp2
      go_ret
      exact ⟨by simp, (Below.refl _ _).alloc (Nat.le_refl _) _⟩
  · have k1 : decide (x1 < p) = false := decide_eq_false g1
    obtain rfl : r = false := by rw [HR.out]; exact decide_eq_false (fun h => g1 h.1)
    clear HR
    go_enter Try.func18, Try.ntmps18
    go_wp2
    go_ret
    exact ⟨by simp, (Below.refl _ _).alloc (Nat.le_refl _) _⟩
set_option maxHeartbeats 4000000 in
theorem rWgrown_any (a b c d x y : Int) (w : World) (ha : -1000000000000 ≤ a ∧ a ≤ 1000000000000) (hb : -1000000000000 ≤ b ∧ b ≤ 1000000000000) (hc : -1000000000000 ≤ c ∧ c ≤ 1000000000000) (hd : -1000000000000 ≤ d ∧ d ≤ 1000000000000) (hx : -1000000000000 ≤ x ∧ x ≤ 1000000000000) (hy : -1000000000000 ≤ y ∧ y ≤ 1000000000000)
    (a' b' c' d' : Int) (ea : a' = a - x) (eb : b' = b + y) (ec : c' = c - x) (ed : d' = d + y) :
    Calls Try.prog 19 #[.agg #[.int .i64 a, .int .i64 b, .int .i64 c, .int .i64 d], .int .i64 x, .int .i64 y] w fun e w' => e = .returned (.agg #[.int .i64 a', .int .i64 b', .int .i64 c', .int .i64 d']) ∧ Below w.heap.size w w' := by
  have w1 : IntKind.i64.wrap (a - x) = a' := by rw [ea]; exact IntWalk.i64_in _ (by omega)
  have w2 : IntKind.i64.wrap (b + y) = b' := by rw [eb]; exact IntWalk.i64_in _ (by omega)
  have w3 : IntKind.i64.wrap (c - x) = c' := by rw [ec]; exact IntWalk.i64_in _ (by omega)
  have w4 : IntKind.i64.wrap (d + y) = d' := by rw [ed]; exact IntWalk.i64_in _ (by omega)
  clear ea eb ec ed ha hb hc hd hx hy
  go_enter Try.func19, Try.ntmps19
  go_wp2
  refine bodyPost_ret (v := .agg #[.int .i64 a', .int .i64 b', .int .i64 c', .int .i64 d']) (by simp [results, Try.results19, go_sem]) rfl ⟨rfl, ?_⟩
  exact ((Below.refl _ _).alloc (Nat.le_refl _) _).alloc (by simp) _
/-- None of the first spans is on both sides of either place. -/
def NoAc (l : List (Int × Int)) (p q : Int) : Prop := wacr l p = false ∧ wacr l q = false
theorem NoAc.snoc {l : List (Int × Int)} {p q : Int} {j : Nat} (h : j < l.length) (hn : NoAc (l.take j) p q) (h1 : ¬ (l[j].1 < p ∧ p < l[j].2)) (h2 : ¬ (l[j].1 < q ∧ q < l[j].2)) : NoAc (l.take (j + 1)) p q := by
  unfold NoAc wacr at *
  rw [List.take_succ_eq_append_getElem h, List.any_append, List.any_append, hn.1, hn.2]
  simp only [List.any_cons, List.any_nil, Bool.or_false, Bool.false_or, decide_eq_false_iff_not]
  exact ⟨h1, h2⟩
set_option maxHeartbeats 16000000 in
set_option maxRecDepth 100000 in
theorem rWonce_any (p b c d : Int) (A : Option Addr) (m ca : Nat) (l : List (Int × Int)) (B : Option Addr) (k cb : Nat) (o : List (Int × Int)) (w : World) (hA : RowsAt wiS 2 w A l) (hB : RowsAt wiS 2 w B o) (hl : l.length = m) (ho : o.length = k) (hm : m ≤ 1000) (hk : k ≤ 1000)
    (hsl : WSm l) (hso : WSm o) (h0 : 0 ≤ p) (h1 : p ≤ 4000000000) (h2 : 0 ≤ b) (h3 : b ≤ 4000000000) (h4 : 0 ≤ c) (h5 : c ≤ 4000000000) (h6 : 0 ≤ d) (h7 : d ≤ 4000000000) :
    Calls Try.prog 17 #[.agg #[.int .i64 p, .int .i64 (b + d), .int .i64 p, .int .i64 (c + d)], .slice A m ca, .slice B k cb] w fun e w' => ∃ p' d', e = .returned (.agg #[.int .i64 p', .int .i64 (b + d'), .int .i64 p', .int .i64 (c + d')]) ∧ OnceIs l o p b c d p' d' ∧ (0 ≤ p' ∧ p' ≤ p ∧ 0 ≤ d' ∧ d' ≤ 4000000000) ∧ Below w.heap.size w w' := by
  have HA := Lib.hid hA
  have HB := Lib.hid hB
  have HL := Lib.hid hl
  have HO := Lib.hid ho
  have HSL := Lib.hid hsl
  have HSO := Lib.hid hso
  clear hA hB hl ho hsl hso
  have N := new2 w 27 27 #[.int .i64 p, .int .i64 (b + d), .int .i64 p, .int .i64 (c + d)] #[.int .i64 0, .int .i64 0, .int .i64 0, .int .i64 0]
  obtain ⟨n1, n2, b0, _⟩ := N
  go_enter Try.func17, Try.ntmps17
  go_wp2_with fail
  obtain ⟨W0, hW0⟩ : ∃ W0, W0 = ((w.alloc (.cells #[.int .i64 p, .int .i64 (b + d), .int .i64 p, .int .i64 (c + d)] 27)).alloc (.cells #[.int .i64 0, .int .i64 0, .int .i64 0, .int .i64 0] 27)) := ⟨_, rfl⟩
  rw [← hW0] at n1 n2 b0 ⊢
  clear hW0
  go_loopg [13] m (fun g i wr => ∃ (j : Nat), i = .int .i64 j ∧ j ≤ m ∧ m - j ≤ g ∧ Hid (NoAc (l.take j) p (b + d)) ∧ RawAt 27 wr w.heap.size #[.int .i64 p, .int .i64 (b + d), .int .i64 p, .int .i64 (c + d)] ∧ RawAt 27 wr (w.heap.size + 1) #[.int .i64 0, .int .i64 0, .int .i64 0, .int .i64 0] ∧ Hid (Below w.heap.size w wr))
  case atStart => exact ⟨0, rfl, by omega, by omega, Lib.hid ⟨rfl, rfl⟩, n1, n2, Lib.hid b0⟩
  case round =>
    clear n1 n2 b0
    obtain ⟨j, rfl, j1, j2, hn, n1, n2, hb⟩ := hrel
    by_cases hlt : j < m
    · have hjl : j < l.length := by rw [HL.out]; exact hlt
      obtain ⟨bA, off, rfl, hbA, d0, d1⟩ := wrowsI (HA.out.below hb.out) hjl
      have HN := Lib.hid fun g1 g2 => NoAc.snoc hjl hn.out g1 g2
      have HM : Hid (l[j] ∈ l) := Lib.hid (List.getElem_mem hjl)
      have hs := HSL.out _ HM.out
      clear hn
      generalize l[j] = x at *
      obtain ⟨x1, x2⟩ := x
      simp only at *
      have i1 : (0 : Int) ≤ j := by omega
      have i2 : (j : Int) < m := by omega
      have b3 : Below w.heap.size w (wr.alloc (.cells #[.int .i64 x1, .int .i64 x2] 23)) := hb.out.trans (((Below.refl _ _).alloc (Nat.le_refl _) _).mono hb.out.size)
      have n5 : RawAt 23 (wr.alloc (.cells #[.int .i64 x1, .int .i64 x2] 23)) wr.heap.size #[.int .i64 x1, .int .i64 x2] := heap_alloc_new wr _
      have hlt0 := n1.lt
      have hlt1 := n2.lt
      have n1 := n1.below ((Below.refl _ _).alloc (Nat.le_refl _) (.cells #[.int .i64 x1, .int .i64 x2] 23)) n1.lt
      have n2 := n2.below ((Below.refl _ _).alloc (Nat.le_refl _) (.cells #[.int .i64 x1, .int .i64 x2] 23)) n2.lt
      go_upto_region 4 with fail
      generalize wr.alloc (.cells #[.int .i64 x1, .int .i64 x2] 23) = W1 at *
      obtain ⟨g5, hg5⟩ : ∃ g, g = wr.heap.size := ⟨_, rfl⟩
      rw [← hg5] at n5 ⊢
      clear hg5
      have q5 := RawAt.cell n5 0
      have q6 := RawAt.cell n5 1
      simp at q5 q6
      have n1q0 := RawAt.cell n1 0
      have n1q1 := RawAt.cell n1 1
      have n1q2 := RawAt.cell n1 2
      have n1q3 := RawAt.cell n1 3
      simp at n1q0 n1q1 n1q2 n1q3
      have C1 := Lib.hid fun W => rWacr_any x1 x2 p W (decide (x1 < p ∧ p < x2)) rfl
      go_wp2_with fail
      with_reducible refine (C1.out _).mono ?_
      rintro e w5 ⟨rfl, b5⟩
      clear C1 n1q0 n1q1 n1q2 n1q3 q5 q6
      have n1 := n1.below b5 n1.lt
      have n2 := n2.below b5 n2.lt
      have n5 := n5.below b5 n5.lt
      have b3 := b3.trans (b5.mono b3.size)
      clear b5
      have q5 := RawAt.cell n5 0
      have q6 := RawAt.cell n5 1
      simp at q5 q6
      have n1q0 := RawAt.cell n1 0
      have n1q1 := RawAt.cell n1 1
      have n1q2 := RawAt.cell n1 2
      have n1q3 := RawAt.cell n1 3
      simp at n1q0 n1q1 n1q2 n1q3
      by_cases g1 : x1 < p ∧ p < x2
      · have k1 : decide (x1 < p ∧ p < x2) = true := decide_eq_true g1
        have x0 : IntKind.i64.wrap (p - x1) = p - x1 := IntWalk.i64_in _ (by omega)
        have CG := Lib.hid fun W => rWgrown_any p (b + d) p (c + d) (p - x1) 0 W (by omega) (by omega) (by omega) (by omega) (by omega) (by omega) x1 (b + d) x1 (c + d) (by omega) (by omega) (by omega) (by omega)
        have HX : Hid (OnceIs l o p b c d x1 d) := Lib.hid (.inr (.inl ⟨rfl, (x1, x2), .inl HM.out, g1.1, g1.2, rfl⟩))
        have hx1 : 0 ≤ x1 ∧ x1 ≤ p := by omega
        rw [k1]
        clear k1 g1
        go_wp2_with fail
        with_reducible refine (CG.out _).mono ?_
        rintro e w6 ⟨rfl, b6⟩
        have n2 := n2.below b6 n2.lt
        have HBN := Lib.hid (b3.trans (b6.mono b3.size))
        clear CG n1q0 n1q1 n1q2 n1q3 q5 q6 n1 n5 b3 b6
        have RF : RawAt 27 ((((w6.setCell ⟨w.heap.size + 1, 0, none⟩ (.int .i64 (x1))).setCell ⟨w.heap.size + 1, 1, none⟩ (.int .i64 (b + d))).setCell ⟨w.heap.size + 1, 2, none⟩ (.int .i64 (x1))).setCell ⟨w.heap.size + 1, 3, none⟩ (.int .i64 (c + d))) (w.heap.size + 1) #[.int .i64 (x1), .int .i64 (b + d), .int .i64 (x1), .int .i64 (c + d)] := ((((n2.set_ 0 _).set_ 1 _).set_ 2 _).set_ 3 _).of_eq (by simp)
        have rf0 : ((((w6.setCell ⟨w.heap.size + 1, 0, none⟩ (.int .i64 (x1))).setCell ⟨w.heap.size + 1, 1, none⟩ (.int .i64 (b + d))).setCell ⟨w.heap.size + 1, 2, none⟩ (.int .i64 (x1))).setCell ⟨w.heap.size + 1, 3, none⟩ (.int .i64 (c + d))).cell? ⟨w.heap.size + 1, 0, none⟩ = some (.int .i64 (x1)) := RawAt.cell RF 0
        have rf1 : ((((w6.setCell ⟨w.heap.size + 1, 0, none⟩ (.int .i64 (x1))).setCell ⟨w.heap.size + 1, 1, none⟩ (.int .i64 (b + d))).setCell ⟨w.heap.size + 1, 2, none⟩ (.int .i64 (x1))).setCell ⟨w.heap.size + 1, 3, none⟩ (.int .i64 (c + d))).cell? ⟨w.heap.size + 1, 1, none⟩ = some (.int .i64 (b + d)) := RawAt.cell RF 1
        have rf2 : ((((w6.setCell ⟨w.heap.size + 1, 0, none⟩ (.int .i64 (x1))).setCell ⟨w.heap.size + 1, 1, none⟩ (.int .i64 (b + d))).setCell ⟨w.heap.size + 1, 2, none⟩ (.int .i64 (x1))).setCell ⟨w.heap.size + 1, 3, none⟩ (.int .i64 (c + d))).cell? ⟨w.heap.size + 1, 2, none⟩ = some (.int .i64 (x1)) := RawAt.cell RF 2
        have rf3 : ((((w6.setCell ⟨w.heap.size + 1, 0, none⟩ (.int .i64 (x1))).setCell ⟨w.heap.size + 1, 1, none⟩ (.int .i64 (b + d))).setCell ⟨w.heap.size + 1, 2, none⟩ (.int .i64 (x1))).setCell ⟨w.heap.size + 1, 3, none⟩ (.int .i64 (c + d))).cell? ⟨w.heap.size + 1, 3, none⟩ = some (.int .i64 (c + d)) := RawAt.cell RF 3
        have HBE : Hid (Below w.heap.size w ((((w6.setCell ⟨w.heap.size + 1, 0, none⟩ (.int .i64 (x1))).setCell ⟨w.heap.size + 1, 1, none⟩ (.int .i64 (b + d))).setCell ⟨w.heap.size + 1, 2, none⟩ (.int .i64 (x1))).setCell ⟨w.heap.size + 1, 3, none⟩ (.int .i64 (c + d)))) := Lib.hid ((((HBN.out.setCell (p := ⟨w.heap.size + 1, 0, none⟩) (by simp) _).setCell (p := ⟨w.heap.size + 1, 1, none⟩) (by simp) _).setCell (p := ⟨w.heap.size + 1, 2, none⟩) (by simp) _).setCell (p := ⟨w.heap.size + 1, 3, none⟩) (by simp) _)
        have z0 := RawAt.cell n2 0
        have z1 := RawAt.cell n2 1
        have z2 := RawAt.cell n2 2
        have z3 := RawAt.cell n2 3
        simp at z0 z1 z2 z3
        have f0 := RawAt.free n2 0
        have f1 := RawAt.free n2 1
        have f2 := RawAt.free n2 2
        have f3 := RawAt.free n2 3
        go_wp2
        refine bodyPost_ret (v := .agg #[.int .i64 (x1), .int .i64 (b + d), .int .i64 (x1), .int .i64 (c + d)]) (by simp [results, Try.results17, go_sem, rf0, rf1, rf2, rf3]) rfl ⟨x1, d, rfl, HX.out, ⟨hx1.1, hx1.2, h6, h7⟩, HBE.out⟩
      · have k1 : decide (x1 < p ∧ p < x2) = false := decide_eq_false g1
        rw [k1]
        clear k1
        have C2 := Lib.hid fun W => rWacr_any x1 x2 (b + d) W (decide (x1 < (b + d) ∧ (b + d) < x2)) rfl
        go_wp2_with fail
        with_reducible refine (C2.out _).mono ?_
        rintro e w6 ⟨rfl, b5⟩
        clear C2 n1q0 n1q1 n1q2 n1q3 q5 q6
        have n1 := n1.below b5 n1.lt
        have n2 := n2.below b5 n2.lt
        have n5 := n5.below b5 n5.lt
        have b3 := b3.trans (b5.mono b3.size)
        clear b5
        have q5 := RawAt.cell n5 0
        have q6 := RawAt.cell n5 1
        simp at q5 q6
        have n1q0 := RawAt.cell n1 0
        have n1q1 := RawAt.cell n1 1
        have n1q2 := RawAt.cell n1 2
        have n1q3 := RawAt.cell n1 3
        simp at n1q0 n1q1 n1q2 n1q3
        by_cases g2 : x1 < (b + d) ∧ (b + d) < x2
        · have k2 : decide (x1 < (b + d) ∧ (b + d) < x2) = true := decide_eq_true g2
          have x0 : IntKind.i64.wrap (x2 - (b + d)) = x2 - (b + d) := IntWalk.i64_in _ (by omega)
          have CG := Lib.hid fun W => rWgrown_any p (b + d) p (c + d) 0 (x2 - (b + d)) W (by omega) (by omega) (by omega) (by omega) (by omega) (by omega) p (b + (x2 - b)) p (c + (x2 - b)) (by omega) (by omega) (by omega) (by omega)
          have HX : Hid (OnceIs l o p b c d p (x2 - b)) := Lib.hid (.inr (.inr (.inl ⟨rfl, (x1, x2), HM.out, g2.1, g2.2, rfl⟩)))
          have hx1 : 0 ≤ x2 - b ∧ x2 - b ≤ 4000000000 := by omega
          obtain ⟨y1, hy1⟩ : ∃ y, y = x2 - b := ⟨_, rfl⟩
          rw [← hy1] at CG HX hx1
          clear hy1
          rw [k2]
          clear k2 g2
          go_wp2_with fail
          with_reducible refine (CG.out _).mono ?_
          rintro e w7 ⟨rfl, b6⟩
          have n2 := n2.below b6 n2.lt
          have HBN := Lib.hid (b3.trans (b6.mono b3.size))
          clear CG n1q0 n1q1 n1q2 n1q3 q5 q6 n1 n5 b3 b6
          have RF : RawAt 27 ((((w7.setCell ⟨w.heap.size + 1, 0, none⟩ (.int .i64 (p))).setCell ⟨w.heap.size + 1, 1, none⟩ (.int .i64 (b + y1))).setCell ⟨w.heap.size + 1, 2, none⟩ (.int .i64 (p))).setCell ⟨w.heap.size + 1, 3, none⟩ (.int .i64 (c + y1))) (w.heap.size + 1) #[.int .i64 (p), .int .i64 (b + y1), .int .i64 (p), .int .i64 (c + y1)] := ((((n2.set_ 0 _).set_ 1 _).set_ 2 _).set_ 3 _).of_eq (by simp)
          have rf0 : ((((w7.setCell ⟨w.heap.size + 1, 0, none⟩ (.int .i64 (p))).setCell ⟨w.heap.size + 1, 1, none⟩ (.int .i64 (b + y1))).setCell ⟨w.heap.size + 1, 2, none⟩ (.int .i64 (p))).setCell ⟨w.heap.size + 1, 3, none⟩ (.int .i64 (c + y1))).cell? ⟨w.heap.size + 1, 0, none⟩ = some (.int .i64 (p)) := RawAt.cell RF 0
          have rf1 : ((((w7.setCell ⟨w.heap.size + 1, 0, none⟩ (.int .i64 (p))).setCell ⟨w.heap.size + 1, 1, none⟩ (.int .i64 (b + y1))).setCell ⟨w.heap.size + 1, 2, none⟩ (.int .i64 (p))).setCell ⟨w.heap.size + 1, 3, none⟩ (.int .i64 (c + y1))).cell? ⟨w.heap.size + 1, 1, none⟩ = some (.int .i64 (b + y1)) := RawAt.cell RF 1
          have rf2 : ((((w7.setCell ⟨w.heap.size + 1, 0, none⟩ (.int .i64 (p))).setCell ⟨w.heap.size + 1, 1, none⟩ (.int .i64 (b + y1))).setCell ⟨w.heap.size + 1, 2, none⟩ (.int .i64 (p))).setCell ⟨w.heap.size + 1, 3, none⟩ (.int .i64 (c + y1))).cell? ⟨w.heap.size + 1, 2, none⟩ = some (.int .i64 (p)) := RawAt.cell RF 2
          have rf3 : ((((w7.setCell ⟨w.heap.size + 1, 0, none⟩ (.int .i64 (p))).setCell ⟨w.heap.size + 1, 1, none⟩ (.int .i64 (b + y1))).setCell ⟨w.heap.size + 1, 2, none⟩ (.int .i64 (p))).setCell ⟨w.heap.size + 1, 3, none⟩ (.int .i64 (c + y1))).cell? ⟨w.heap.size + 1, 3, none⟩ = some (.int .i64 (c + y1)) := RawAt.cell RF 3
          have HBE : Hid (Below w.heap.size w ((((w7.setCell ⟨w.heap.size + 1, 0, none⟩ (.int .i64 (p))).setCell ⟨w.heap.size + 1, 1, none⟩ (.int .i64 (b + y1))).setCell ⟨w.heap.size + 1, 2, none⟩ (.int .i64 (p))).setCell ⟨w.heap.size + 1, 3, none⟩ (.int .i64 (c + y1)))) := Lib.hid ((((HBN.out.setCell (p := ⟨w.heap.size + 1, 0, none⟩) (by simp) _).setCell (p := ⟨w.heap.size + 1, 1, none⟩) (by simp) _).setCell (p := ⟨w.heap.size + 1, 2, none⟩) (by simp) _).setCell (p := ⟨w.heap.size + 1, 3, none⟩) (by simp) _)
          have z0 := RawAt.cell n2 0
          have z1 := RawAt.cell n2 1
          have z2 := RawAt.cell n2 2
          have z3 := RawAt.cell n2 3
          simp at z0 z1 z2 z3
          have f0 := RawAt.free n2 0
          have f1 := RawAt.free n2 1
          have f2 := RawAt.free n2 2
          have f3 := RawAt.free n2 3
          go_wp2
          refine bodyPost_ret (v := .agg #[.int .i64 (p), .int .i64 (b + y1), .int .i64 (p), .int .i64 (c + y1)]) (by simp [results, Try.results17, go_sem, rf0, rf1, rf2, rf3]) rfl ⟨p, y1, rfl, HX.out, ⟨h0, Int.le_refl _, hx1.1, hx1.2⟩, HBE.out⟩
        · have k2 : decide (x1 < (b + d) ∧ (b + d) < x2) = false := decide_eq_false g2
          have HN2 := Lib.hid (HN.out g1 g2)
          have HB3 := Lib.hid b3
          rw [k2]
          clear k2 HN n1q0 n1q1 n1q2 n1q3 q5 q6 b3
          go_wp2
          go_roundg (gk - 1)
          case measure => omega
          case rel => exact ⟨j + 1, by go_num, by omega, by omega, HN2, n1, n2, HB3⟩
    · obtain rfl : j = m := by omega
      have hn2 := hn.out
      rw [List.take_of_length_le (by rw [HL.out]; exact Nat.le_refl _)] at hn2
      have HNL := Lib.hid hn2
      clear hn hn2
      go_wp2_with fail
      have b0 := hb.out
      clear hb
      go_loopg [46] k (fun g i wr => ∃ (j : Nat), i = .int .i64 j ∧ j ≤ k ∧ k - j ≤ g ∧ Hid (NoAc (o.take j) p (c + d)) ∧ RawAt 27 wr w.heap.size #[.int .i64 p, .int .i64 (b + d), .int .i64 p, .int .i64 (c + d)] ∧ RawAt 27 wr (w.heap.size + 1) #[.int .i64 0, .int .i64 0, .int .i64 0, .int .i64 0] ∧ Hid (Below w.heap.size w wr))
      case atStart => exact ⟨0, rfl, by omega, by omega, Lib.hid ⟨rfl, rfl⟩, n1, n2, Lib.hid b0⟩
      case round =>
        clear n1 n2 b0
        obtain ⟨j, rfl, j1, j2, hn, n1, n2, hb⟩ := hrel
        by_cases hlt : j < k
        · have hjl : j < o.length := by rw [HO.out]; exact hlt
          obtain ⟨bA, off, rfl, hbA, d0, d1⟩ := wrowsI (HB.out.below hb.out) hjl
          have HN := Lib.hid fun g1 g2 => NoAc.snoc hjl hn.out g1 g2
          have HM : Hid (o[j] ∈ o) := Lib.hid (List.getElem_mem hjl)
          have hs := HSO.out _ HM.out
          clear hn
          generalize o[j] = x at *
          obtain ⟨x1, x2⟩ := x
          simp only at *
          have i1 : (0 : Int) ≤ j := by omega
          have i2 : (j : Int) < k := by omega
          have b3 : Below w.heap.size w (wr.alloc (.cells #[.int .i64 x1, .int .i64 x2] 23)) := hb.out.trans (((Below.refl _ _).alloc (Nat.le_refl _) _).mono hb.out.size)
          have n5 : RawAt 23 (wr.alloc (.cells #[.int .i64 x1, .int .i64 x2] 23)) wr.heap.size #[.int .i64 x1, .int .i64 x2] := heap_alloc_new wr _
          have hlt0 := n1.lt
          have hlt1 := n2.lt
          have n1 := n1.below ((Below.refl _ _).alloc (Nat.le_refl _) (.cells #[.int .i64 x1, .int .i64 x2] 23)) n1.lt
          have n2 := n2.below ((Below.refl _ _).alloc (Nat.le_refl _) (.cells #[.int .i64 x1, .int .i64 x2] 23)) n2.lt
          go_upto_region 12 with fail
          generalize wr.alloc (.cells #[.int .i64 x1, .int .i64 x2] 23) = W1 at *
          obtain ⟨g5, hg5⟩ : ∃ g, g = wr.heap.size := ⟨_, rfl⟩
          rw [← hg5] at n5 ⊢
          clear hg5
          have q5 := RawAt.cell n5 0
          have q6 := RawAt.cell n5 1
          simp at q5 q6
          have n1q0 := RawAt.cell n1 0
          have n1q1 := RawAt.cell n1 1
          have n1q2 := RawAt.cell n1 2
          have n1q3 := RawAt.cell n1 3
          simp at n1q0 n1q1 n1q2 n1q3
          have C1 := Lib.hid fun W => rWacr_any x1 x2 p W (decide (x1 < p ∧ p < x2)) rfl
          go_wp2_with fail
          with_reducible refine (C1.out _).mono ?_
          rintro e w5 ⟨rfl, b5⟩
          clear C1 n1q0 n1q1 n1q2 n1q3 q5 q6
          have n1 := n1.below b5 n1.lt
          have n2 := n2.below b5 n2.lt
          have n5 := n5.below b5 n5.lt
          have b3 := b3.trans (b5.mono b3.size)
          clear b5
          have q5 := RawAt.cell n5 0
          have q6 := RawAt.cell n5 1
          simp at q5 q6
          have n1q0 := RawAt.cell n1 0
          have n1q1 := RawAt.cell n1 1
          have n1q2 := RawAt.cell n1 2
          have n1q3 := RawAt.cell n1 3
          simp at n1q0 n1q1 n1q2 n1q3
          by_cases g1 : x1 < p ∧ p < x2
          · have k1 : decide (x1 < p ∧ p < x2) = true := decide_eq_true g1
            have x0 : IntKind.i64.wrap (p - x1) = p - x1 := IntWalk.i64_in _ (by omega)
            have CG := Lib.hid fun W => rWgrown_any p (b + d) p (c + d) (p - x1) 0 W (by omega) (by omega) (by omega) (by omega) (by omega) (by omega) x1 (b + d) x1 (c + d) (by omega) (by omega) (by omega) (by omega)
            have HX : Hid (OnceIs l o p b c d x1 d) := Lib.hid (.inr (.inl ⟨rfl, (x1, x2), .inr HM.out, g1.1, g1.2, rfl⟩))
            have hx1 : 0 ≤ x1 ∧ x1 ≤ p := by omega
            rw [k1]
            clear k1 g1
            go_wp2_with fail
            with_reducible refine (CG.out _).mono ?_
            rintro e w6 ⟨rfl, b6⟩
            have n2 := n2.below b6 n2.lt
            have HBN := Lib.hid (b3.trans (b6.mono b3.size))
            clear CG n1q0 n1q1 n1q2 n1q3 q5 q6 n1 n5 b3 b6
            have RF : RawAt 27 ((((w6.setCell ⟨w.heap.size + 1, 0, none⟩ (.int .i64 (x1))).setCell ⟨w.heap.size + 1, 1, none⟩ (.int .i64 (b + d))).setCell ⟨w.heap.size + 1, 2, none⟩ (.int .i64 (x1))).setCell ⟨w.heap.size + 1, 3, none⟩ (.int .i64 (c + d))) (w.heap.size + 1) #[.int .i64 (x1), .int .i64 (b + d), .int .i64 (x1), .int .i64 (c + d)] := ((((n2.set_ 0 _).set_ 1 _).set_ 2 _).set_ 3 _).of_eq (by simp)
            have rf0 : ((((w6.setCell ⟨w.heap.size + 1, 0, none⟩ (.int .i64 (x1))).setCell ⟨w.heap.size + 1, 1, none⟩ (.int .i64 (b + d))).setCell ⟨w.heap.size + 1, 2, none⟩ (.int .i64 (x1))).setCell ⟨w.heap.size + 1, 3, none⟩ (.int .i64 (c + d))).cell? ⟨w.heap.size + 1, 0, none⟩ = some (.int .i64 (x1)) := RawAt.cell RF 0
            have rf1 : ((((w6.setCell ⟨w.heap.size + 1, 0, none⟩ (.int .i64 (x1))).setCell ⟨w.heap.size + 1, 1, none⟩ (.int .i64 (b + d))).setCell ⟨w.heap.size + 1, 2, none⟩ (.int .i64 (x1))).setCell ⟨w.heap.size + 1, 3, none⟩ (.int .i64 (c + d))).cell? ⟨w.heap.size + 1, 1, none⟩ = some (.int .i64 (b + d)) := RawAt.cell RF 1
            have rf2 : ((((w6.setCell ⟨w.heap.size + 1, 0, none⟩ (.int .i64 (x1))).setCell ⟨w.heap.size + 1, 1, none⟩ (.int .i64 (b + d))).setCell ⟨w.heap.size + 1, 2, none⟩ (.int .i64 (x1))).setCell ⟨w.heap.size + 1, 3, none⟩ (.int .i64 (c + d))).cell? ⟨w.heap.size + 1, 2, none⟩ = some (.int .i64 (x1)) := RawAt.cell RF 2
            have rf3 : ((((w6.setCell ⟨w.heap.size + 1, 0, none⟩ (.int .i64 (x1))).setCell ⟨w.heap.size + 1, 1, none⟩ (.int .i64 (b + d))).setCell ⟨w.heap.size + 1, 2, none⟩ (.int .i64 (x1))).setCell ⟨w.heap.size + 1, 3, none⟩ (.int .i64 (c + d))).cell? ⟨w.heap.size + 1, 3, none⟩ = some (.int .i64 (c + d)) := RawAt.cell RF 3
            have HBE : Hid (Below w.heap.size w ((((w6.setCell ⟨w.heap.size + 1, 0, none⟩ (.int .i64 (x1))).setCell ⟨w.heap.size + 1, 1, none⟩ (.int .i64 (b + d))).setCell ⟨w.heap.size + 1, 2, none⟩ (.int .i64 (x1))).setCell ⟨w.heap.size + 1, 3, none⟩ (.int .i64 (c + d)))) := Lib.hid ((((HBN.out.setCell (p := ⟨w.heap.size + 1, 0, none⟩) (by simp) _).setCell (p := ⟨w.heap.size + 1, 1, none⟩) (by simp) _).setCell (p := ⟨w.heap.size + 1, 2, none⟩) (by simp) _).setCell (p := ⟨w.heap.size + 1, 3, none⟩) (by simp) _)
            have z0 := RawAt.cell n2 0
            have z1 := RawAt.cell n2 1
            have z2 := RawAt.cell n2 2
            have z3 := RawAt.cell n2 3
            simp at z0 z1 z2 z3
            have f0 := RawAt.free n2 0
            have f1 := RawAt.free n2 1
            have f2 := RawAt.free n2 2
            have f3 := RawAt.free n2 3
            go_wp2
            refine bodyPost_ret (v := .agg #[.int .i64 (x1), .int .i64 (b + d), .int .i64 (x1), .int .i64 (c + d)]) (by simp [results, Try.results17, go_sem, rf0, rf1, rf2, rf3]) rfl ⟨x1, d, rfl, HX.out, ⟨hx1.1, hx1.2, h6, h7⟩, HBE.out⟩
          · have k1 : decide (x1 < p ∧ p < x2) = false := decide_eq_false g1
            rw [k1]
            clear k1
            have C2 := Lib.hid fun W => rWacr_any x1 x2 (c + d) W (decide (x1 < (c + d) ∧ (c + d) < x2)) rfl
            go_wp2_with fail
            with_reducible refine (C2.out _).mono ?_
            rintro e w6 ⟨rfl, b5⟩
            clear C2 n1q0 n1q1 n1q2 n1q3 q5 q6
            have n1 := n1.below b5 n1.lt
            have n2 := n2.below b5 n2.lt
            have n5 := n5.below b5 n5.lt
            have b3 := b3.trans (b5.mono b3.size)
            clear b5
            have q5 := RawAt.cell n5 0
            have q6 := RawAt.cell n5 1
            simp at q5 q6
            have n1q0 := RawAt.cell n1 0
            have n1q1 := RawAt.cell n1 1
            have n1q2 := RawAt.cell n1 2
            have n1q3 := RawAt.cell n1 3
            simp at n1q0 n1q1 n1q2 n1q3
            by_cases g2 : x1 < (c + d) ∧ (c + d) < x2
            · have k2 : decide (x1 < (c + d) ∧ (c + d) < x2) = true := decide_eq_true g2
              have x0 : IntKind.i64.wrap (x2 - (c + d)) = x2 - (c + d) := IntWalk.i64_in _ (by omega)
              have CG := Lib.hid fun W => rWgrown_any p (b + d) p (c + d) 0 (x2 - (c + d)) W (by omega) (by omega) (by omega) (by omega) (by omega) (by omega) p (b + (x2 - c)) p (c + (x2 - c)) (by omega) (by omega) (by omega) (by omega)
              have HX : Hid (OnceIs l o p b c d p (x2 - c)) := Lib.hid (.inr (.inr (.inr ⟨rfl, (x1, x2), HM.out, g2.1, g2.2, rfl⟩)))
              have hx1 : 0 ≤ x2 - c ∧ x2 - c ≤ 4000000000 := by omega
              obtain ⟨y1, hy1⟩ : ∃ y, y = x2 - c := ⟨_, rfl⟩
              rw [← hy1] at CG HX hx1
              clear hy1
              rw [k2]
              clear k2 g2
              go_wp2_with fail
              with_reducible refine (CG.out _).mono ?_
              rintro e w7 ⟨rfl, b6⟩
              have n2 := n2.below b6 n2.lt
              have HBN := Lib.hid (b3.trans (b6.mono b3.size))
              clear CG n1q0 n1q1 n1q2 n1q3 q5 q6 n1 n5 b3 b6
              have RF : RawAt 27 ((((w7.setCell ⟨w.heap.size + 1, 0, none⟩ (.int .i64 (p))).setCell ⟨w.heap.size + 1, 1, none⟩ (.int .i64 (b + y1))).setCell ⟨w.heap.size + 1, 2, none⟩ (.int .i64 (p))).setCell ⟨w.heap.size + 1, 3, none⟩ (.int .i64 (c + y1))) (w.heap.size + 1) #[.int .i64 (p), .int .i64 (b + y1), .int .i64 (p), .int .i64 (c + y1)] := ((((n2.set_ 0 _).set_ 1 _).set_ 2 _).set_ 3 _).of_eq (by simp)
              have rf0 : ((((w7.setCell ⟨w.heap.size + 1, 0, none⟩ (.int .i64 (p))).setCell ⟨w.heap.size + 1, 1, none⟩ (.int .i64 (b + y1))).setCell ⟨w.heap.size + 1, 2, none⟩ (.int .i64 (p))).setCell ⟨w.heap.size + 1, 3, none⟩ (.int .i64 (c + y1))).cell? ⟨w.heap.size + 1, 0, none⟩ = some (.int .i64 (p)) := RawAt.cell RF 0
              have rf1 : ((((w7.setCell ⟨w.heap.size + 1, 0, none⟩ (.int .i64 (p))).setCell ⟨w.heap.size + 1, 1, none⟩ (.int .i64 (b + y1))).setCell ⟨w.heap.size + 1, 2, none⟩ (.int .i64 (p))).setCell ⟨w.heap.size + 1, 3, none⟩ (.int .i64 (c + y1))).cell? ⟨w.heap.size + 1, 1, none⟩ = some (.int .i64 (b + y1)) := RawAt.cell RF 1
              have rf2 : ((((w7.setCell ⟨w.heap.size + 1, 0, none⟩ (.int .i64 (p))).setCell ⟨w.heap.size + 1, 1, none⟩ (.int .i64 (b + y1))).setCell ⟨w.heap.size + 1, 2, none⟩ (.int .i64 (p))).setCell ⟨w.heap.size + 1, 3, none⟩ (.int .i64 (c + y1))).cell? ⟨w.heap.size + 1, 2, none⟩ = some (.int .i64 (p)) := RawAt.cell RF 2
              have rf3 : ((((w7.setCell ⟨w.heap.size + 1, 0, none⟩ (.int .i64 (p))).setCell ⟨w.heap.size + 1, 1, none⟩ (.int .i64 (b + y1))).setCell ⟨w.heap.size + 1, 2, none⟩ (.int .i64 (p))).setCell ⟨w.heap.size + 1, 3, none⟩ (.int .i64 (c + y1))).cell? ⟨w.heap.size + 1, 3, none⟩ = some (.int .i64 (c + y1)) := RawAt.cell RF 3
              have HBE : Hid (Below w.heap.size w ((((w7.setCell ⟨w.heap.size + 1, 0, none⟩ (.int .i64 (p))).setCell ⟨w.heap.size + 1, 1, none⟩ (.int .i64 (b + y1))).setCell ⟨w.heap.size + 1, 2, none⟩ (.int .i64 (p))).setCell ⟨w.heap.size + 1, 3, none⟩ (.int .i64 (c + y1)))) := Lib.hid ((((HBN.out.setCell (p := ⟨w.heap.size + 1, 0, none⟩) (by simp) _).setCell (p := ⟨w.heap.size + 1, 1, none⟩) (by simp) _).setCell (p := ⟨w.heap.size + 1, 2, none⟩) (by simp) _).setCell (p := ⟨w.heap.size + 1, 3, none⟩) (by simp) _)
              have z0 := RawAt.cell n2 0
              have z1 := RawAt.cell n2 1
              have z2 := RawAt.cell n2 2
              have z3 := RawAt.cell n2 3
              simp at z0 z1 z2 z3
              have f0 := RawAt.free n2 0
              have f1 := RawAt.free n2 1
              have f2 := RawAt.free n2 2
              have f3 := RawAt.free n2 3
              go_wp2
              refine bodyPost_ret (v := .agg #[.int .i64 (p), .int .i64 (b + y1), .int .i64 (p), .int .i64 (c + y1)]) (by simp [results, Try.results17, go_sem, rf0, rf1, rf2, rf3]) rfl ⟨p, y1, rfl, HX.out, ⟨h0, Int.le_refl _, hx1.1, hx1.2⟩, HBE.out⟩
            · have k2 : decide (x1 < (c + d) ∧ (c + d) < x2) = false := decide_eq_false g2
              have HN2 := Lib.hid (HN.out g1 g2)
              have HB3 := Lib.hid b3
              rw [k2]
              clear k2 HN n1q0 n1q1 n1q2 n1q3 q5 q6 b3
              go_wp2
              go_roundg (gk - 1)
              case measure => omega
              case rel => exact ⟨j + 1, by go_num, by omega, by omega, HN2, n1, n2, HB3⟩
        · obtain rfl : j = k := by omega
          have hn2 := hn.out
          rw [List.take_of_length_le (by rw [HO.out]; exact Nat.le_refl _)] at hn2
          have HNO := Lib.hid hn2
          clear hn hn2
          have HX : Hid (OnceIs l o p b c d p d) := Lib.hid (.inl ⟨rfl, rfl, ⟨HNL.out.1, HNO.out.1⟩, HNL.out.2, HNO.out.2⟩)
          have HBN := hb
          have n1q0 := RawAt.cell n1 0
          have n1q1 := RawAt.cell n1 1
          have n1q2 := RawAt.cell n1 2
          have n1q3 := RawAt.cell n1 3
          simp at n1q0 n1q1 n1q2 n1q3
          have RF : RawAt 27 ((((wr.setCell ⟨w.heap.size + 1, 0, none⟩ (.int .i64 (p))).setCell ⟨w.heap.size + 1, 1, none⟩ (.int .i64 (b + d))).setCell ⟨w.heap.size + 1, 2, none⟩ (.int .i64 (p))).setCell ⟨w.heap.size + 1, 3, none⟩ (.int .i64 (c + d))) (w.heap.size + 1) #[.int .i64 (p), .int .i64 (b + d), .int .i64 (p), .int .i64 (c + d)] := ((((n2.set_ 0 _).set_ 1 _).set_ 2 _).set_ 3 _).of_eq (by simp)
          have rf0 : ((((wr.setCell ⟨w.heap.size + 1, 0, none⟩ (.int .i64 (p))).setCell ⟨w.heap.size + 1, 1, none⟩ (.int .i64 (b + d))).setCell ⟨w.heap.size + 1, 2, none⟩ (.int .i64 (p))).setCell ⟨w.heap.size + 1, 3, none⟩ (.int .i64 (c + d))).cell? ⟨w.heap.size + 1, 0, none⟩ = some (.int .i64 (p)) := RawAt.cell RF 0
          have rf1 : ((((wr.setCell ⟨w.heap.size + 1, 0, none⟩ (.int .i64 (p))).setCell ⟨w.heap.size + 1, 1, none⟩ (.int .i64 (b + d))).setCell ⟨w.heap.size + 1, 2, none⟩ (.int .i64 (p))).setCell ⟨w.heap.size + 1, 3, none⟩ (.int .i64 (c + d))).cell? ⟨w.heap.size + 1, 1, none⟩ = some (.int .i64 (b + d)) := RawAt.cell RF 1
          have rf2 : ((((wr.setCell ⟨w.heap.size + 1, 0, none⟩ (.int .i64 (p))).setCell ⟨w.heap.size + 1, 1, none⟩ (.int .i64 (b + d))).setCell ⟨w.heap.size + 1, 2, none⟩ (.int .i64 (p))).setCell ⟨w.heap.size + 1, 3, none⟩ (.int .i64 (c + d))).cell? ⟨w.heap.size + 1, 2, none⟩ = some (.int .i64 (p)) := RawAt.cell RF 2
          have rf3 : ((((wr.setCell ⟨w.heap.size + 1, 0, none⟩ (.int .i64 (p))).setCell ⟨w.heap.size + 1, 1, none⟩ (.int .i64 (b + d))).setCell ⟨w.heap.size + 1, 2, none⟩ (.int .i64 (p))).setCell ⟨w.heap.size + 1, 3, none⟩ (.int .i64 (c + d))).cell? ⟨w.heap.size + 1, 3, none⟩ = some (.int .i64 (c + d)) := RawAt.cell RF 3
          have HBE : Hid (Below w.heap.size w ((((wr.setCell ⟨w.heap.size + 1, 0, none⟩ (.int .i64 (p))).setCell ⟨w.heap.size + 1, 1, none⟩ (.int .i64 (b + d))).setCell ⟨w.heap.size + 1, 2, none⟩ (.int .i64 (p))).setCell ⟨w.heap.size + 1, 3, none⟩ (.int .i64 (c + d)))) := Lib.hid ((((HBN.out.setCell (p := ⟨w.heap.size + 1, 0, none⟩) (by simp) _).setCell (p := ⟨w.heap.size + 1, 1, none⟩) (by simp) _).setCell (p := ⟨w.heap.size + 1, 2, none⟩) (by simp) _).setCell (p := ⟨w.heap.size + 1, 3, none⟩) (by simp) _)
          have z0 := RawAt.cell n2 0
          have z1 := RawAt.cell n2 1
          have z2 := RawAt.cell n2 2
          have z3 := RawAt.cell n2 3
          simp at z0 z1 z2 z3
          have f0 := RawAt.free n2 0
          have f1 := RawAt.free n2 1
          have f2 := RawAt.free n2 2
          have f3 := RawAt.free n2 3
          go_wp2
          refine bodyPost_ret (v := .agg #[.int .i64 (p), .int .i64 (b + d), .int .i64 (p), .int .i64 (c + d)]) (by simp [results, Try.results17, go_sem, rf0, rf1, rf2, rf3]) rfl ⟨p, d, rfl, HX.out, ⟨h0, Int.le_refl _, h6, h7⟩, HBE.out⟩
end Go.Proofs.Ytjkmkobnfhepaaa
