/- Creases: the document's Right, hides, Starts. -/
import Derived.Test.YtdpmimlhchghlaaGreatCrB
namespace Go.Proofs.YtdpmimlhchghlaaGreat
open Go.RowKit
set_option linter.unusedVariables false
theorem RtOk.stopR {l : List (Int × Int)} {n : Int} {j : Nat} (h : j < l.length) (hr : RtOk 0 (l.take j) n) : RtOk 0 (l.take (j + 1)) n ↔ clast 0 (l.take j) ≤ l[j].1 ∧ l[j].1 < l[j].2 ∧ l[j].2 ≤ n := by
  rw [List.take_succ_eq_append_getElem h, RtOk.snoc]
  exact ⟨fun h => h.2, fun h => ⟨hr, h⟩⟩
theorem RtOk.noR {l : List (Int × Int)} {n : Int} {j : Nat} (h : ¬ RtOk 0 (l.take j) n) : ¬ RtOk 0 l n := fun g => h (by
  rw [← List.take_append_drop j l] at g
  exact g.pre)
set_option maxHeartbeats 4000000 in
set_option maxRecDepth 100000 in
theorem rRight16 (n : Int) (A : Option Addr) (m c : Nat) (l : List (Int × Int)) (b : Bool) (hb : b = true ↔ RtOk 0 l n) (w : World) (hA : RowsAt wencS 2 w A l) (hl : l.length = m) (hm : m ≤ 1000000) :
    Calls Tryz.prog 13 #[.int .i64 n, .slice A m c] w fun e w' => e = .returned (.bool b) ∧ Below w.heap.size w w' := by
  have HA := Lib.hid hA
  have HL := Lib.hid hl
  have HBB := Lib.hid hb
  clear hA hl hb
  go_enter Tryz.func13, Tryz.ntmps13
  go_wp2_with fail
  go_loopg [5, 10] m (fun g q i wr => ∃ (j : Nat) (u : Int), i = .int .i64 j ∧ q = .int .i64 u ∧ j ≤ m ∧ m - j ≤ g ∧ Hid (u = clast 0 (l.take j)) ∧ Hid (RtOk 0 (l.take j) n) ∧ Hid (Below w.heap.size w wr))
  case atStart => exact ⟨0, 0, rfl, rfl, by omega, by omega, Lib.hid rfl, Lib.hid trivial, Lib.hid (Below.refl _ _)⟩
  case round =>
    obtain ⟨j, q, rfl, rfl, j1, j2, hq, hr, hb⟩ := hrel
    by_cases hlt : j < m
    · have hjl : j < l.length := by rw [HL.out]; exact hlt
      obtain ⟨bA, off, rfl, hbA, d0, d1⟩ := wrowsS (HA.out.below hb.out) hjl
      obtain ⟨_, t2⟩ := clast_take l 0 hjl
      have hst := RtOk.stopR hjl hr.out
      rw [← hq.out] at hst
      have HST := Lib.hid hst
      have HT2 := Lib.hid t2
      clear t2 hst
      generalize l[j] = x at *
      obtain ⟨x1, x2⟩ := x
      simp only at *
      have i1 : (0 : Int) ≤ j := by omega
      have i2 : (j : Int) < m := by omega
      have HB3 := Lib.hid (hb.out.trans (((Below.refl _ _).alloc (Nat.le_refl _) (.cells #[.int .i64 x1, .int .i64 x2] 47)).mono hb.out.size))
      by_cases g1 : x1 < q
      · have k1 : decide (x1 < q) = true := decide_eq_true g1
        obtain rfl : b = false := by rw [← Bool.not_eq_true]; exact fun h => RtOk.noR (j := j + 1) (fun h => by have := HST.out.mp h; omega) (HBB.out.mp h)
        go_wp2
        go_ret
        exact ⟨rfl, HB3.out⟩
      · have k1 : decide (x1 < q) = false := decide_eq_false g1
        by_cases g2 : x2 ≤ x1
        · have k2 : decide (x2 ≤ x1) = true := decide_eq_true g2
          obtain rfl : b = false := by rw [← Bool.not_eq_true]; exact fun h => RtOk.noR (j := j + 1) (fun h => by have := HST.out.mp h; omega) (HBB.out.mp h)
          go_wp2
          go_ret
          exact ⟨rfl, HB3.out⟩
        · have k2 : decide (x2 ≤ x1) = false := decide_eq_false g2
          by_cases g3 : n < x2
          · have k3 : decide (n < x2) = true := decide_eq_true g3
            obtain rfl : b = false := by rw [← Bool.not_eq_true]; exact fun h => RtOk.noR (j := j + 1) (fun h => by have := HST.out.mp h; omega) (HBB.out.mp h)
            go_wp2
            go_ret
            exact ⟨rfl, HB3.out⟩
          · have k3 : decide (n < x2) = false := decide_eq_false g3
            have HRT : Hid (RtOk 0 (l.take (j + 1)) n) := Lib.hid (HST.out.mpr (by omega))
            have HQ5 : Hid (x2 = clast 0 (l.take (j + 1))) := Lib.hid HT2.out.symm
            clear HST HT2 hr hq
            go_wp2
            go_roundg (gk - 1)
            case measure => omega
            case rel => exact ⟨j + 1, x2, by go_num, rfl, by omega, by omega, HQ5, HRT, HB3⟩
    · obtain rfl : j = m := by omega
      have htk : l.take j = l := List.take_of_length_le (by rw [HL.out]; exact Nat.le_refl _)
      have hr2 := hr.out
      rw [htk] at hr2
      obtain rfl : b = true := HBB.out.mpr hr2
      clear htk hr2 hr hq
      go_wp2
      go_ret
      exact ⟨rfl, hb.out⟩
/-- Which span hides the rune behind a place: its number, or -1. -/
def HidIs (l : List (Int × Int)) (p r : Int) : Prop := (r = -1 ∧ chid l p = none) ∨ ∃ (i : Nat) (h : i < l.length), r = i ∧ chid l p = some l[i]
theorem chid_at {l : List (Int × Int)} {p : Int} {j : Nat} (h : j < l.length) (hn : chid (l.take j) p = none) : chid (l.take (j + 1)) p = (if l[j].1 ≤ p ∧ p < l[j].2 then some l[j] else none) ∧ (l[j].1 ≤ p ∧ p < l[j].2 → chid l p = some l[j]) := by
  have e : chid (l.take (j + 1)) p = if l[j].1 ≤ p ∧ p < l[j].2 then some l[j] else none := by
    unfold chid at *
    rw [List.take_succ_eq_append_getElem h, List.find?_append, hn]
    by_cases g : l[j].1 ≤ p ∧ p < l[j].2
    · rw [if_pos g]; simp [g]
    · rw [if_neg g]; simp [g]
  refine ⟨e, fun g => ?_⟩
  rw [if_pos g] at e
  unfold chid at *
  have e2 : List.find? (fun x => decide (x.1 ≤ p ∧ p < x.2)) l = List.find? (fun x => decide (x.1 ≤ p ∧ p < x.2)) (l.take (j + 1) ++ l.drop (j + 1)) := by rw [List.take_append_drop]
  rw [e2, List.find?_append, e]
  rfl
set_option maxHeartbeats 4000000 in
set_option maxRecDepth 100000 in
theorem rHides16 (A : Option Addr) (m c : Nat) (l : List (Int × Int)) (p : Int) (w : World) (hA : RowsAt wencS 2 w A l) (hl : l.length = m) (hm : m ≤ 1000000) :
    Calls Tryz.prog 48 #[.slice A m c, .int .i64 p] w fun e w' => ∃ r, e = .returned (.int .i64 r) ∧ HidIs l p r ∧ Below w.heap.size w w' := by
  have HA := Lib.hid hA
  have HL := Lib.hid hl
  clear hA hl
  go_enter Tryz.func48, Tryz.ntmps48
  go_wp2_with fail
  go_loopg [9] m (fun g i wr => ∃ (j : Nat), i = .int .i64 j ∧ j ≤ m ∧ m - j ≤ g ∧ Hid (chid (l.take j) p = none) ∧ Hid (Below w.heap.size w wr))
  case atStart => exact ⟨0, rfl, by omega, by omega, Lib.hid rfl, Lib.hid (Below.refl _ _)⟩
  case round =>
    obtain ⟨j, rfl, j1, j2, hn, hb⟩ := hrel
    by_cases hlt : j < m
    · have hjl : j < l.length := by rw [HL.out]; exact hlt
      obtain ⟨bA, off, rfl, hbA, d0, d1⟩ := wrowsS (HA.out.below hb.out) hjl
      have HC := Lib.hid (chid_at hjl hn.out)
      have HI : Hid ((l[j].1 ≤ p ∧ p < l[j].2) → HidIs l p j) := Lib.hid (fun g => .inr ⟨j, hjl, rfl, HC.out.2 g⟩)
      clear hn
      generalize l[j] = x at *
      obtain ⟨x1, x2⟩ := x
      simp only at *
      have i1 : (0 : Int) ≤ j := by omega
      have i2 : (j : Int) < m := by omega
      have HB3 := Lib.hid (hb.out.trans (((Below.refl _ _).alloc (Nat.le_refl _) (.cells #[.int .i64 x1, .int .i64 x2] 47)).mono hb.out.size))
      by_cases g1 : x1 ≤ p
      · have k1 : decide (x1 ≤ p) = true := decide_eq_true g1
        by_cases g2 : p < x2
        · have k2 : decide (p < x2) = true := decide_eq_true g2
          have HR := Lib.hid (HI.out ⟨g1, g2⟩)
          clear HC HI
          go_wp2
          go_ret
          exact ⟨_, rfl, HR.out, HB3.out⟩
        · have k2 : decide (p < x2) = false := decide_eq_false g2
          have HN : Hid (chid (l.take (j + 1)) p = none) := Lib.hid (HC.out.1.trans (if_neg (fun h => g2 h.2)))
          clear HC HI
          go_wp2
          go_roundg (gk - 1)
          case measure => omega
          case rel => exact ⟨j + 1, by go_num, by omega, by omega, HN, HB3⟩
      · have k1 : decide (x1 ≤ p) = false := decide_eq_false g1
        have HN : Hid (chid (l.take (j + 1)) p = none) := Lib.hid (HC.out.1.trans (if_neg (fun h => g1 h.1)))
        clear HC HI
        go_wp2
        go_roundg (gk - 1)
        case measure => omega
        case rel => exact ⟨j + 1, by go_num, by omega, by omega, HN, HB3⟩
    · obtain rfl : j = m := by omega
      have hn2 := hn.out
      rw [List.take_of_length_le (by rw [HL.out]; exact Nat.le_refl _)] at hn2
      have HN := Lib.hid hn2
      clear hn hn2
      go_wp2
      go_ret
      exact ⟨_, rfl, .inl ⟨rfl, HN.out⟩, hb.out⟩
end Go.Proofs.YtdpmimlhchghlaaGreat
