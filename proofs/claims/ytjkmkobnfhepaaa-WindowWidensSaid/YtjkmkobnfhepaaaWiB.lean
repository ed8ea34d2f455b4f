/- Windows: the contracts of spans, Fits, around, wider. -/
import Derived.Test.YtjkmkobnfhepaaaWiA
namespace Go.Proofs.Ytjkmkobnfhepaaa
open Go.RowKit
set_option linter.unusedVariables false
set_option maxHeartbeats 2000000 in
theorem wiSpans_any (a b n : Int) (w : World) (r : Bool) (hr : r = true ↔ 0 ≤ a ∧ a ≤ b ∧ b ≤ n) : Calls Try.prog 13 #[.agg #[.int .i64 a, .int .i64 b], .int .i64 n] w fun e w' => e = .returned (.bool r) ∧ Below w.heap.size w w' := by
  have HF := Lib.hid hr; clear hr
  have hT : (0 ≤ a ∧ a ≤ b ∧ b ≤ n) → r = true := fun h => HF.out.2 h
  have hN : ¬ (0 ≤ a ∧ a ≤ b ∧ b ≤ n) → r = false := fun h => by cases r; rfl; exact absurd (HF.out.1 rfl) h
  clear HF
  by_cases g1 : 0 ≤ a
  · have k1 : decide (0 ≤ a) = true := decide_eq_true g1
    by_cases g2 : a ≤ b
    · have k2 : decide (a ≤ b) = true := decide_eq_true g2
      by_cases g3 : b ≤ n
      · have k3 : decide (b ≤ n) = true := decide_eq_true g3
        obtain rfl := hT ⟨g1, g2, g3⟩
        clear hT hN
        go_enter Try.func13, Try.ntmps13
        go_wp2
        go_ret
        exact ⟨by simp, (Below.refl _ _).alloc (Nat.le_refl _) _⟩
      · have k3 : decide (b ≤ n) = false := decide_eq_false g3
        obtain rfl := hN (fun h => g3 h.2.2)
        clear hT hN
        go_enter Try.func13, Try.ntmps13
        go_wp2
        go_ret
        exact ⟨by simp, (Below.refl _ _).alloc (Nat.le_refl _) _⟩
    · have k2 : decide (a ≤ b) = false := decide_eq_false g2
      obtain rfl := hN (fun h => g2 h.2.1)
      clear hT hN
      go_enter Try.func13, Try.ntmps13
      go_wp2
      go_ret
      exact ⟨by simp, (Below.refl _ _).alloc (Nat.le_refl _) _⟩
  · have k1 : decide (0 ≤ a) = false := decide_eq_false g1
    obtain rfl := hN (fun h => g1 h.1)
    clear hT hN
    go_enter Try.func13, Try.ntmps13
    go_wp2
    go_ret
    exact ⟨by simp, (Below.refl _ _).alloc (Nat.le_refl _) _⟩
/-- What fits which buffers. -/
def wiFit (a b c d n m : Int) : Bool := decide (0 ≤ a ∧ a ≤ b ∧ b ≤ n) && (decide (0 ≤ c ∧ c ≤ d ∧ d ≤ m) && (decide (a = c) && decide (wrap64 (n - b) = wrap64 (m - d))))
theorem wiFit_yes {a b c d n m : Int} : wiFit a b c d n m = true ↔ (0 ≤ a ∧ a ≤ b ∧ b ≤ n) ∧ (0 ≤ c ∧ c ≤ d ∧ d ≤ m) ∧ a = c ∧ wrap64 (n - b) = wrap64 (m - d) := by
  unfold wiFit
  simp only [Bool.and_eq_true, decide_eq_true_eq]
set_option maxHeartbeats 4000000 in
set_option maxRecDepth 100000 in
theorem wiFits_any (a b c d n m : Int) (w : World) : Calls Try.prog 7 #[.agg #[.int .i64 a, .int .i64 b], .agg #[.int .i64 c, .int .i64 d], .int .i64 n, .int .i64 m] w fun e w' => e = .returned (.bool (wiFit a b c d n m)) ∧ Below w.heap.size w w' := by
  have C1 := Lib.hid fun W => wiSpans_any a b n W (decide (0 ≤ a ∧ a ≤ b ∧ b ≤ n)) (by simp)
  have C2 := Lib.hid fun W => wiSpans_any c d m W (decide (0 ≤ c ∧ c ≤ d ∧ d ≤ m)) (by simp)
  have HE : Hid (wiFit a b c d n m = (decide (0 ≤ a ∧ a ≤ b ∧ b ≤ n) && (decide (0 ≤ c ∧ c ≤ d ∧ d ≤ m) && (decide (a = c) && decide (wrap64 (n - b) = wrap64 (m - d)))))) := Lib.hid rfl
  generalize wiFit a b c d n m = r at *
  generalize decide (0 ≤ a ∧ a ≤ b ∧ b ≤ n) = r1 at *
  generalize decide (0 ≤ c ∧ c ≤ d ∧ d ≤ m) = r2 at *
  have n1 := (new2 w 23 23 #[.int .i64 a, .int .i64 b] #[.int .i64 c, .int .i64 d]).1
  have n2 := (new2 w 23 23 #[.int .i64 a, .int .i64 b] #[.int .i64 c, .int .i64 d]).2.1
  have b0 : Below w.heap.size w ((w.alloc (.cells #[.int .i64 a, .int .i64 b] 23)).alloc (.cells #[.int .i64 c, .int .i64 d] 23)) := ((Below.refl _ _).alloc (Nat.le_refl _) _).alloc (by simp) _
  go_enter Try.func7, Try.ntmps7
  go_wp2_with fail
  obtain ⟨W0, hW0⟩ : ∃ W0, W0 = ((w.alloc (.cells #[.int .i64 a, .int .i64 b] 23)).alloc (.cells #[.int .i64 c, .int .i64 d] 23)) := ⟨_, rfl⟩
  rw [← hW0] at n1 n2 b0 ⊢
  clear hW0
  with_reducible refine (C1.out _).mono ?_
  rintro e w1 ⟨rfl, b1⟩
  have n1 := n1.below b1 n1.lt
  have n2 := n2.below b1 n2.lt
  have b0 := b0.trans (b1.mono b0.size)
  clear b1
  have q0 := RawAt.cell n1 0
  have q1 := RawAt.cell n1 1
  have q2 := RawAt.cell n2 0
  have q3 := RawAt.cell n2 1
  simp at q0 q1 q2 q3
  cases r1
  · obtain rfl : r = false := by rw [HE.out]; rfl
    have HB := Lib.hid b0
    clear HE b0
    go_wp2
    go_ret
    exact ⟨rfl, HB.out⟩
  · go_wp2_with fail
    with_reducible refine (C2.out _).mono ?_
    rintro e w2 ⟨rfl, b1⟩
    have n1 := n1.below b1 n1.lt
    have n2 := n2.below b1 n2.lt
    have b0 := b0.trans (b1.mono b0.size)
    clear b1 q0 q1 q2 q3
    have q0 := RawAt.cell n1 0
    have q1 := RawAt.cell n1 1
    have q2 := RawAt.cell n2 0
    have q3 := RawAt.cell n2 1
    simp at q0 q1 q2 q3
    have HB := Lib.hid b0
    clear b0
    cases r2
    · obtain rfl : r = false := by rw [HE.out]; rfl
      clear HE
      go_wp2
      go_ret
      exact ⟨rfl, HB.out⟩
    · by_cases g : a = c
      · have HE2 : Hid (r = decide (wrap64 (n - b) = wrap64 (m - d))) := Lib.hid (by rw [HE.out]; simp [g])
        clear HE
        by_cases g2 : wrap64 (n - b) = wrap64 (m - d)
        · obtain rfl : r = true := by rw [HE2.out]; exact decide_eq_true g2
          have k1 : decide (a = c) = true := decide_eq_true g
          have k2 : decide (wrap64 (n - b) = wrap64 (m - d)) = true := decide_eq_true g2
          go_wp2
          go_ret
          exact ⟨by simp [g2], HB.out⟩
        · obtain rfl : r = false := by rw [HE2.out]; exact decide_eq_false g2
          go_wp2
          go_ret
          exact ⟨by simp [g2], HB.out⟩
      · obtain rfl : r = false := by rw [HE.out]; simp [g]
        go_wp2
        go_ret
        exact ⟨by simp, HB.out⟩
/-- The span around a place. -/
def arnd (l : List (Int × Int)) (p : Int) : Int × Int := (l.find? fun x => decide (x.1 < p ∧ p < x.2)).getD (p, p)
theorem arnd_is (l : List (Int × Int)) (p : Int) : Arnd l p (arnd l p).1 (arnd l p).2 := by
  unfold arnd
  cases h : l.find? fun x => decide (x.1 < p ∧ p < x.2) with
  | none =>
    left
    refine ⟨wacr_no.mpr fun x hx g => ?_, rfl, rfl⟩
    have := List.find?_eq_none.mp h x hx
    simp only [decide_eq_true_eq] at this
    exact this g
  | some x =>
    right
    have h1 := List.find?_some h
    have h2 := List.mem_of_find?_eq_some h
    simp only [decide_eq_true_eq] at h1
    exact ⟨h2, h1⟩
theorem arnd_at {l : List (Int × Int)} {p : Int} {j : Nat} (h : j < l.length) (hn : (l.take j).find? (fun x => decide (x.1 < p ∧ p < x.2)) = none) : (¬ (l[j].1 < p ∧ p < l[j].2) → (l.take (j + 1)).find? (fun x => decide (x.1 < p ∧ p < x.2)) = none) ∧ (l[j].1 < p ∧ p < l[j].2 → arnd l p = l[j]) := by
  have e : (l.take (j + 1)).find? (fun x => decide (x.1 < p ∧ p < x.2)) = if l[j].1 < p ∧ p < l[j].2 then some l[j] else none := by
    rw [List.take_succ_eq_append_getElem h, List.find?_append, hn]
    by_cases g : l[j].1 < p ∧ p < l[j].2
    · rw [if_pos g]; simp [g]
    · rw [if_neg g]; simp [g]
  refine ⟨fun g => by rw [e, if_neg g], fun g => ?_⟩
  rw [if_pos g] at e
  unfold arnd
  have e2 : List.find? (fun x => decide (x.1 < p ∧ p < x.2)) l = List.find? (fun x => decide (x.1 < p ∧ p < x.2)) (l.take (j + 1) ++ l.drop (j + 1)) := by rw [List.take_append_drop]
  rw [e2, List.find?_append, e]
  rfl
set_option maxHeartbeats 4000000 in
set_option maxRecDepth 100000 in
theorem wiAround_any (A : Option Addr) (m c : Nat) (l : List (Int × Int)) (p : Int) (w : World) (hA : RowsAt wiS 2 w A l) (hl : l.length = m) (hm : m ≤ 1000000) :
    Calls Try.prog 15 #[.slice A m c, .int .i64 p] w fun e w' => e = .returned (.agg #[.int .i64 (arnd l p).1, .int .i64 (arnd l p).2]) ∧ Below w.heap.size w w' := by
  have HA := Lib.hid hA
  have HL := Lib.hid hl
  clear hA hl
  have b00 : Below w.heap.size w (w.alloc (.cells #[.int .i64 0, .int .i64 0] 23)) := (Below.refl _ _).alloc (Nat.le_refl _) _
  have n00 : RawAt 23 (w.alloc (.cells #[.int .i64 0, .int .i64 0] 23)) w.heap.size #[.int .i64 0, .int .i64 0] := heap_alloc_new w _
  go_enter Try.func15, Try.ntmps15
  go_wp2_with fail
  generalize w.alloc (.cells #[.int .i64 0, .int .i64 0] 23) = W0 at *
  go_loopg [9] m (fun g i wr => ∃ (j : Nat), i = .int .i64 j ∧ j ≤ m ∧ m - j ≤ g ∧ Hid ((l.take j).find? (fun x => decide (x.1 < p ∧ p < x.2)) = none) ∧ RawAt 23 wr w.heap.size #[.int .i64 0, .int .i64 0] ∧ Hid (Below w.heap.size w wr))
  case atStart => exact ⟨0, rfl, by omega, by omega, Lib.hid rfl, n00, Lib.hid b00⟩
  case round =>
    clear n00 b00
    obtain ⟨j, rfl, j1, j2, hn, n0, hb⟩ := hrel
    by_cases hlt : j < m
    · have hjl : j < l.length := by rw [HL.out]; exact hlt
      obtain ⟨bA, off, rfl, hbA, d0, d1⟩ := wrowsI (HA.out.below hb.out) hjl
      have HC := Lib.hid (arnd_at hjl hn.out)
      clear hn
      generalize l[j] = x at *
      obtain ⟨x1, x2⟩ := x
      simp only at *
      have i1 : (0 : Int) ≤ j := by omega
      have i2 : (j : Int) < m := by omega
      have HB3 := Lib.hid (hb.out.trans (((Below.refl _ _).alloc (Nat.le_refl _) (.cells #[.int .i64 x1, .int .i64 x2] 23)).mono hb.out.size))
      have n3 := n0.below ((Below.refl _ _).alloc (Nat.le_refl _) (.cells #[.int .i64 x1, .int .i64 x2] 23)) n0.lt
      have hlt0 := n0.lt
      by_cases g1 : x1 < p
      · have k1 : decide (x1 < p) = true := decide_eq_true g1
        by_cases g2 : p < x2
        · have k2 : decide (p < x2) = true := decide_eq_true g2
          have HR := Lib.hid (HC.out.2 ⟨g1, g2⟩)
          clear HC
          have RF : RawAt 23 ((wr.setCell ⟨w.heap.size, 0, none⟩ (.int .i64 x1)).setCell ⟨w.heap.size, 1, none⟩ (.int .i64 x2)) (w.heap.size) #[.int .i64 x1, .int .i64 x2] := ((n0.set_ 0 _).set_ 1 _).of_eq (by simp)
          have rf0 : ((wr.setCell ⟨w.heap.size, 0, none⟩ (.int .i64 x1)).setCell ⟨w.heap.size, 1, none⟩ (.int .i64 x2)).cell? ⟨w.heap.size, 0, none⟩ = some (.int .i64 x1) := RawAt.cell RF 0
          have rf1 : ((wr.setCell ⟨w.heap.size, 0, none⟩ (.int .i64 x1)).setCell ⟨w.heap.size, 1, none⟩ (.int .i64 x2)).cell? ⟨w.heap.size, 1, none⟩ = some (.int .i64 x2) := RawAt.cell RF 1
          have fr0 := RawAt.free n0 0
          have fr1 := RawAt.free n0 1
          have fy0 : wr.cell? ⟨w.heap.size, 0, none⟩ = some (.int .i64 0) := RawAt.cell n0 0
          have fy1 : wr.cell? ⟨w.heap.size, 1, none⟩ = some (.int .i64 0) := RawAt.cell n0 1
          have HB4 : Hid (Below w.heap.size w (((wr.setCell ⟨w.heap.size, 0, none⟩ (.int .i64 x1)).setCell ⟨w.heap.size, 1, none⟩ (.int .i64 x2)).alloc (.cells #[.int .i64 x1, .int .i64 x2] 23))) := Lib.hid (((hb.out.setCell (p := ⟨w.heap.size, _, none⟩) (by simp) _).setCell (p := ⟨w.heap.size, _, none⟩) (by simp) _).alloc (by simp; omega) _)
          go_wp2
          refine bodyPost_ret (v := .agg #[.int .i64 x1, .int .i64 x2]) (by simp [results, Try.results15, go_sem, rf0, rf1, hlt0]) rfl ⟨by rw [HR.out], HB4.out⟩
        · have k2 : decide (p < x2) = false := decide_eq_false g2
          have HN := Lib.hid (HC.out.1 (fun h => g2 h.2))
          clear HC
          go_wp2
          go_roundg (gk - 1)
          case measure => omega
          case rel => exact ⟨j + 1, by go_num, by omega, by omega, HN, n3, HB3⟩
      · have k1 : decide (x1 < p) = false := decide_eq_false g1
        have HN := Lib.hid (HC.out.1 (fun h => g1 h.1))
        clear HC
        go_wp2
        go_roundg (gk - 1)
        case measure => omega
        case rel => exact ⟨j + 1, by go_num, by omega, by omega, HN, n3, HB3⟩
    · obtain rfl : j = m := by omega
      have hn2 := hn.out
      rw [List.take_of_length_le (by rw [HL.out]; exact Nat.le_refl _)] at hn2
      have HN : Hid (arnd l p = (p, p)) := Lib.hid (by unfold arnd; rw [hn2]; rfl)
      clear hn hn2
      have fr0 := RawAt.free n0 0
      have fr1 := RawAt.free n0 1
      have fy0 : wr.cell? ⟨w.heap.size, 0, none⟩ = some (.int .i64 0) := RawAt.cell n0 0
      have fy1 : wr.cell? ⟨w.heap.size, 1, none⟩ = some (.int .i64 0) := RawAt.cell n0 1
      go_wp2
      have RF : RawAt 23 ((wr.setCell ⟨w.heap.size, 0, none⟩ (.int .i64 (p))).setCell ⟨w.heap.size, 1, none⟩ (.int .i64 (p))) (w.heap.size) #[.int .i64 (p), .int .i64 (p)] := ((n0.set_ 0 _).set_ 1 _).of_eq (by simp)
      have rf0 : ((wr.setCell ⟨w.heap.size, 0, none⟩ (.int .i64 (p))).setCell ⟨w.heap.size, 1, none⟩ (.int .i64 (p))).cell? ⟨w.heap.size, 0, none⟩ = some (.int .i64 (p)) := RawAt.cell RF 0
      have rf1 : ((wr.setCell ⟨w.heap.size, 0, none⟩ (.int .i64 (p))).setCell ⟨w.heap.size, 1, none⟩ (.int .i64 (p))).cell? ⟨w.heap.size, 1, none⟩ = some (.int .i64 (p)) := RawAt.cell RF 1
      refine bodyPost_ret (v := .agg #[.int .i64 p, .int .i64 p]) (by simp [results, Try.results15, go_sem, rf0, rf1]) rfl ⟨by rw [HN.out], (hb.out.setCell (p := ⟨w.heap.size, _, none⟩) (by simp) _).setCell (p := ⟨w.heap.size, _, none⟩) (by simp) _⟩
/-- Small spans. -/
def WSm (l : List (Int × Int)) : Prop := ∀ x ∈ l, 0 ≤ x.1 ∧ x.1 ≤ 4000000000 ∧ x.2 ≤ 4000000000
set_option maxHeartbeats 4000000 in
theorem wiWider_any (a b c d : Int) (w : World) (h1 : -1000000000000 ≤ a) (h2 : a ≤ 1000000000000) (h3 : -1000000000000 ≤ b) (h4 : b ≤ 1000000000000) (h5 : -1000000000000 ≤ c) (h6 : c ≤ 1000000000000) (h7 : -1000000000000 ≤ d) (h8 : d ≤ 1000000000000) :
    Calls Try.prog 16 #[.agg #[.int .i64 a, .int .i64 b], .int .i64 c, .int .i64 d] w fun e w' => e = .returned (.agg #[.int .i64 (a - c), .int .i64 (b + d)]) ∧ Below w.heap.size w w' := by
  have w1 : IntKind.i64.wrap (a - c) = a - c := IntWalk.i64_in _ (by omega)
  have w2 : IntKind.i64.wrap (b + d) = b + d := IntWalk.i64_in _ (by omega)
  go_enter Try.func16, Try.ntmps16
  go_wp2
  refine bodyPost_ret (v := .agg #[.int .i64 (a - c), .int .i64 (b + d)]) (by simp [results, Try.results16, go_sem]) rfl ⟨rfl, ?_⟩
  exact ((Below.refl _ _).alloc (Nat.le_refl _) _).alloc (by simp) _
end Go.Proofs.Ytjkmkobnfhepaaa
