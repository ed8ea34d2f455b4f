/- Windows: the document's Right and Across of hidden spans. -/
import Derived.Test.YtjkmkobnfhepaaaWiO
import Derived.Test.YtjkmkobnfhepaaaWiP
import Derived.Deep.QuietTactic
namespace Go.Proofs.Ytjkmkobnfhepaaa
open Go.RowKit
set_option linter.unusedVariables false
def wlst : Int → List (Int × Int) → Int
  | f, [] => f
  | _, x :: l => wlst x.2 l
def WRt : Int → List (Int × Int) → Int → Prop
  | _, [], _ => True
  | f, x :: l, n => f ≤ x.1 ∧ x.1 < x.2 ∧ x.2 ≤ n ∧ WRt x.2 l n
instance : ∀ (f : Int) (l : List (Int × Int)) (n : Int), Decidable (WRt f l n)
  | _, [], _ => isTrue trivial
  | f, x :: l, n => by
    have := instDecidableWRt x.2 l n
    unfold WRt
    infer_instance
theorem WRt.snoc : ∀ {l : List (Int × Int)} {f n : Int} {x : Int × Int}, WRt f (l ++ [x]) n ↔ WRt f l n ∧ (wlst f l ≤ x.1 ∧ x.1 < x.2 ∧ x.2 ≤ n)
  | [], f, n, x => by
    show (f ≤ x.1 ∧ x.1 < x.2 ∧ x.2 ≤ n ∧ True) ↔ True ∧ (f ≤ x.1 ∧ x.1 < x.2 ∧ x.2 ≤ n)
    simp
  | y :: l, f, n, x => by
    show (f ≤ y.1 ∧ y.1 < y.2 ∧ y.2 ≤ n ∧ WRt y.2 (l ++ [x]) n) ↔ (f ≤ y.1 ∧ y.1 < y.2 ∧ y.2 ≤ n ∧ WRt y.2 l n) ∧ (wlst y.2 l ≤ x.1 ∧ x.1 < x.2 ∧ x.2 ≤ n)
    rw [WRt.snoc]
    constructor
    · rintro ⟨a, b, c, d, e⟩; exact ⟨⟨a, b, c, d⟩, e⟩
    · rintro ⟨⟨a, b, c, d⟩, e⟩; exact ⟨a, b, c, d, e⟩
theorem WRt.pre : ∀ {l m : List (Int × Int)} {f n : Int}, WRt f (l ++ m) n → WRt f l n
  | [], _, _, _, _ => trivial
  | y :: l, m, f, n, h => by
    obtain ⟨h1, h2, h3, h4⟩ := h
    exact ⟨h1, h2, h3, WRt.pre h4⟩
theorem WRt.each : ∀ {l : List (Int × Int)} {f n : Int}, WRt f l n → ∀ x ∈ l, f ≤ x.1 ∧ x.1 < x.2 ∧ x.2 ≤ n
  | y :: l, f, n, h, x, hx => by
    obtain ⟨h1, h2, h3, h4⟩ := h
    rcases List.mem_cons.1 hx with rfl | hx
    · exact ⟨h1, h2, h3⟩
    · have := WRt.each h4 x hx; omega
theorem wlst_snoc : ∀ (l : List (Int × Int)) (f : Int) (x : Int × Int), wlst f (l ++ [x]) = x.2
  | [], f, x => rfl
  | y :: l, f, x => wlst_snoc l y.2 x
theorem wlst_take (l : List (Int × Int)) (f : Int) {j : Nat} (h : j < l.length) : True ∧ wlst f (l.take (j + 1)) = l[j].2 := by
  rw [List.take_succ_eq_append_getElem h]
  exact ⟨trivial, wlst_snoc _ _ _⟩
theorem wrowsI {w : World} {A : Option Addr} {l : List (Int × Int)} (h : RowsAt wiS 2 w A l) {j : Nat} (hj : j < l.length) : ∃ b off, A = some ⟨b, off, none⟩ ∧ b < w.heap.size ∧ w.cell? ⟨b, off + j * 2, none⟩ = some (.int .i64 l[j].1) ∧ w.cell? ⟨b, off + j * 2 + 1, none⟩ = some (.int .i64 l[j].2) := by
  obtain ⟨b, off, e, h1, hc⟩ := h.at1 hj
  exact ⟨b, off, e, h1, hc 0 (by omega), hc 1 (by omega)⟩
theorem WRt.stopR {l : List (Int × Int)} {n : Int} {j : Nat} (h : j < l.length) (hr : WRt 0 (l.take j) n) : WRt 0 (l.take (j + 1)) n ↔ wlst 0 (l.take j) ≤ l[j].1 ∧ l[j].1 < l[j].2 ∧ l[j].2 ≤ n := by
  rw [List.take_succ_eq_append_getElem h, WRt.snoc]
  exact ⟨fun h => h.2, fun h => ⟨hr, h⟩⟩
theorem WRt.noR {l : List (Int × Int)} {n : Int} {j : Nat} (h : ¬ WRt 0 (l.take j) n) : ¬ WRt 0 l n := fun g => h (by
  rw [← List.take_append_drop j l] at g
  exact g.pre)
set_option maxHeartbeats 4000000 in
set_option maxRecDepth 100000 in
theorem rWRight (n : Int) (A : Option Addr) (m c : Nat) (l : List (Int × Int)) (b : Bool) (hb : b = true ↔ WRt 0 l n) (w : World) (hA : RowsAt wiS 2 w A l) (hl : l.length = m) (hm : m ≤ 1000000) :
    Calls Try.prog 14 #[.int .i64 n, .slice A m c] w fun e w' => e = .returned (.bool b) ∧ Below w.heap.size w w' := by
  have HA := Lib.hid hA
  have HL := Lib.hid hl
  have HBB := Lib.hid hb
  clear hA hl hb
  go_enter Try.func14, Try.ntmps14
  go_wp2_with fail
  go_loopg [5, 10] m (fun g q i wr => ∃ (j : Nat) (u : Int), i = .int .i64 j ∧ q = .int .i64 u ∧ j ≤ m ∧ m - j ≤ g ∧ Hid (u = wlst 0 (l.take j)) ∧ Hid (WRt 0 (l.take j) n) ∧ Hid (Below w.heap.size w wr))
  case atStart => exact ⟨0, 0, rfl, rfl, by omega, by omega, Lib.hid rfl, Lib.hid trivial, Lib.hid (Below.refl _ _)⟩
  case round =>
    obtain ⟨j, q, rfl, rfl, j1, j2, hq, hr, hb⟩ := hrel
    by_cases hlt : j < m
    · have hjl : j < l.length := by rw [HL.out]; exact hlt
      obtain ⟨bA, off, rfl, hbA, d0, d1⟩ := wrowsI (HA.out.below hb.out) hjl
      obtain ⟨_, t2⟩ := wlst_take l 0 hjl
      have hst := WRt.stopR hjl hr.out
      rw [← hq.out] at hst
      have HST := Lib.hid hst
      have HT2 := Lib.hid t2
      clear t2 hst
      generalize l[j] = x at *
      obtain ⟨x1, x2⟩ := x
      simp only at *
      have i1 : (0 : Int) ≤ j := by omega
      have i2 : (j : Int) < m := by omega
      have HB3 := Lib.hid (hb.out.trans (((Below.refl _ _).alloc (Nat.le_refl _) (.cells #[.int .i64 x1, .int .i64 x2] 23)).mono hb.out.size))
      by_cases g1 : x1 < q
      · have k1 : decide (x1 < q) = true := decide_eq_true g1
        obtain rfl : b = false := by rw [← Bool.not_eq_true]; exact fun h => WRt.noR (j := j + 1) (fun h => by have := HST.out.mp h; omega) (HBB.out.mp h)
        go_wp2
        go_ret
        exact ⟨rfl, HB3.out⟩
      · have k1 : decide (x1 < q) = false := decide_eq_false g1
        by_cases g2 : x2 ≤ x1
        · have k2 : decide (x2 ≤ x1) = true := decide_eq_true g2
          obtain rfl : b = false := by rw [← Bool.not_eq_true]; exact fun h => WRt.noR (j := j + 1) (fun h => by have := HST.out.mp h; omega) (HBB.out.mp h)
          go_wp2
          go_ret
          exact ⟨rfl, HB3.out⟩
        · have k2 : decide (x2 ≤ x1) = false := decide_eq_false g2
          by_cases g3 : n < x2
          · have k3 : decide (n < x2) = true := decide_eq_true g3
            obtain rfl : b = false := by rw [← Bool.not_eq_true]; exact fun h => WRt.noR (j := j + 1) (fun h => by have := HST.out.mp h; omega) (HBB.out.mp h)
            go_wp2
            go_ret
            exact ⟨rfl, HB3.out⟩
          · have k3 : decide (n < x2) = false := decide_eq_false g3
            have HRT : Hid (WRt 0 (l.take (j + 1)) n) := Lib.hid (HST.out.mpr (by omega))
            have HQ5 : Hid (x2 = wlst 0 (l.take (j + 1))) := Lib.hid HT2.out.symm
            clear HST HT2 hr hq
            go_wp2
            go_roundg (gk - 1)
            case measure => omega
            case rel => exact ⟨j + 1, x2, by go_num, rfl, by omega, by omega, HQ5, HRT, HB3⟩
    · obtain rfl : j = m := by omega
      have htk : l.take j = l := List.take_of_length_le (by rw [HL.out]; exact Nat.le_refl _)
      have hr2 := hr.out
      rw [htk] at hr2
      obtain rfl : b = true := HBB.out.mpr hr2
      clear htk hr2 hr hq
      go_wp2
      go_ret
      exact ⟨rfl, hb.out⟩
set_option maxHeartbeats 8000000 in
set_option maxRecDepth 100000 in
theorem rWAcross (A : Option Addr) (m c : Nat) (l : List (Int × Int)) (p : Int) (w : World) (hA : RowsAt wiS 2 w A l) (hl : l.length = m) (hm : m ≤ 1000000) :
    Calls Try.prog 12 #[.slice A m c, .int .i64 p] w fun e w' => e = .returned (.bool (wacr l p)) ∧ Below w.heap.size w w' := by
  have HA := Lib.hid hA
  have HL := Lib.hid hl
  clear hA hl
  go_enter Try.func12, Try.ntmps12
  go_wp2_with fail
  go_loopg [9] m (fun g i wr => ∃ (j : Nat), i = .int .i64 j ∧ j ≤ m ∧ m - j ≤ g ∧ Hid (wacr (l.take j) p = false) ∧ Hid (Below w.heap.size w wr))
  case atStart => exact ⟨0, rfl, by omega, by omega, Lib.hid rfl, Lib.hid (Below.refl _ _)⟩
  case round =>
    obtain ⟨j, rfl, j1, j2, hn, hb⟩ := hrel
    by_cases hlt : j < m
    · have hjl : j < l.length := by rw [HL.out]; exact hlt
      obtain ⟨bA, off, rfl, hbA, d0, d1⟩ := wrowsI (HA.out.below hb.out) hjl
      have HN : Hid (¬ (l[j].1 < p ∧ p < l[j].2) → wacr (l.take (j + 1)) p = false) := Lib.hid (fun g => by
        unfold wacr at *
        rw [List.take_succ_eq_append_getElem hjl, List.any_append, hn.out]
        simpa using g)
      have HY : Hid ((l[j].1 < p ∧ p < l[j].2) → wacr l p = true) := Lib.hid (fun g => by
        unfold wacr
        rw [List.any_eq_true]
        exact ⟨l[j], List.getElem_mem hjl, decide_eq_true g⟩)
      clear hn
      generalize l[j] = x at *
      obtain ⟨x1, x2⟩ := x
      simp only at *
      have i1 : (0 : Int) ≤ j := by omega
      have i2 : (j : Int) < m := by omega
      have HB3 := Lib.hid (hb.out.trans (((Below.refl _ _).alloc (Nat.le_refl _) (.cells #[.int .i64 x1, .int .i64 x2] 23)).mono hb.out.size))
      by_cases g1 : x1 < p
      · have k1 : decide (x1 < p) = true := decide_eq_true g1
        by_cases g2 : p < x2
        · have k2 : decide (p < x2) = true := decide_eq_true g2
          have HR := Lib.hid (HY.out ⟨g1, g2⟩)
          clear HN HY
          go_wp2
          go_ret
          exact ⟨by rw [HR.out]; rfl, HB3.out⟩
        · have k2 : decide (p < x2) = false := decide_eq_false g2
          have HR := Lib.hid (HN.out (fun h => g2 h.2))
          clear HN HY
          go_wp2
          go_roundg (gk - 1)
          case measure => omega
          case rel => exact ⟨j + 1, by go_num, by omega, by omega, HR, HB3⟩
      · have k1 : decide (x1 < p) = false := decide_eq_false g1
        have HR := Lib.hid (HN.out (fun h => g1 h.1))
        clear HN HY
        go_wp2
        go_roundg (gk - 1)
        case measure => omega
        case rel => exact ⟨j + 1, by go_num, by omega, by omega, HR, HB3⟩
    · obtain rfl : j = m := by omega
      have hn2 := hn.out
      rw [List.take_of_length_le (by rw [HL.out]; exact Nat.le_refl _)] at hn2
      have HN := Lib.hid hn2
      clear hn hn2
      go_wp2
      go_ret
      exact ⟨by rw [HN.out]; rfl, hb.out⟩
end Go.Proofs.Ytjkmkobnfhepaaa
