/- Hidden spans as pairs of ints: right ones; the document's Right of layer 16. -/
import Derived.Test.YtpnjokhhbjpciaaGreatDoorKRow
namespace Go.Proofs.YtpnjokhhbjpciaaGreatDoor
open Go.RowKit
set_option linter.unusedVariables false
/-- Spots, pieces: two numbers each. -/
def wencS (s : Int × Int) : List Value := [.int .i64 s.1, .int .i64 s.2]
theorem wencS_len (s : Int × Int) : (wencS s).length = 2 := rfl
theorem wencS_one (s : Int × Int) : ∀ v ∈ wencS s, v.oneCell' = true := by
  intro v hv
  simp only [wencS, List.mem_cons, List.not_mem_nil, or_false] at hv
  rcases hv with rfl | rfl <;> rfl
theorem wrowsS {w : World} {A : Option Addr} {l : List (Int × Int)} (h : RowsAt wencS 2 w A l) {j : Nat} (hj : j < l.length) : ∃ b off, A = some ⟨b, off, none⟩ ∧ b < w.heap.size ∧ w.cell? ⟨b, off + j * 2, none⟩ = some (.int .i64 l[j].1) ∧ w.cell? ⟨b, off + j * 2 + 1, none⟩ = some (.int .i64 l[j].2) := by
  obtain ⟨b, off, e, h1, hc⟩ := h.at1 hj
  exact ⟨b, off, e, h1, hc 0 (by omega), hc 1 (by omega)⟩
def clast : Int → List (Int × Int) → Int
  | f, [] => f
  | _, x :: l => clast x.2 l
/-- Right hidden spans of a buffer of n, from a place on. -/
def RtOk : Int → List (Int × Int) → Int → Prop
  | _, [], _ => True
  | f, x :: l, n => f ≤ x.1 ∧ x.1 < x.2 ∧ x.2 ≤ n ∧ RtOk x.2 l n
instance : ∀ (f : Int) (l : List (Int × Int)) (n : Int), Decidable (RtOk f l n)
  | _, [], _ => isTrue trivial
  | f, x :: l, n => by
    have := instDecidableRtOk x.2 l n
    unfold RtOk
    infer_instance
theorem RtOk.snoc : ∀ {l : List (Int × Int)} {f n : Int} {x : Int × Int}, RtOk f (l ++ [x]) n ↔ RtOk f l n ∧ (clast f l ≤ x.1 ∧ x.1 < x.2 ∧ x.2 ≤ n)
  | [], f, n, x => by
    show (f ≤ x.1 ∧ x.1 < x.2 ∧ x.2 ≤ n ∧ True) ↔ True ∧ (f ≤ x.1 ∧ x.1 < x.2 ∧ x.2 ≤ n)
    simp
  | y :: l, f, n, x => by
    show (f ≤ y.1 ∧ y.1 < y.2 ∧ y.2 ≤ n ∧ RtOk y.2 (l ++ [x]) n) ↔ (f ≤ y.1 ∧ y.1 < y.2 ∧ y.2 ≤ n ∧ RtOk y.2 l n) ∧ (clast y.2 l ≤ x.1 ∧ x.1 < x.2 ∧ x.2 ≤ n)
    rw [RtOk.snoc]
    constructor
    · rintro ⟨a, b, c, d, e⟩; exact ⟨⟨a, b, c, d⟩, e⟩
    · rintro ⟨⟨a, b, c, d⟩, e⟩; exact ⟨a, b, c, d, e⟩
theorem RtOk.pre : ∀ {l m : List (Int × Int)} {f n : Int}, RtOk f (l ++ m) n → RtOk f l n
  | [], _, _, _, _ => trivial
  | y :: l, m, f, n, h => by
    obtain ⟨h1, h2, h3, h4⟩ := h
    exact ⟨h1, h2, h3, RtOk.pre h4⟩
theorem RtOk.each : ∀ {l : List (Int × Int)} {f n : Int}, RtOk f l n → ∀ x ∈ l, f ≤ x.1 ∧ x.1 < x.2 ∧ x.2 ≤ n
  | y :: l, f, n, h, x, hx => by
    obtain ⟨h1, h2, h3, h4⟩ := h
    rcases List.mem_cons.1 hx with rfl | hx
    · exact ⟨h1, h2, h3⟩
    · have := RtOk.each h4 x hx; omega
theorem clast_snoc : ∀ (l : List (Int × Int)) (f : Int) (x : Int × Int), clast f (l ++ [x]) = x.2
  | [], f, x => rfl
  | y :: l, f, x => clast_snoc l y.2 x
theorem clast_takeR (l : List (Int × Int)) (f : Int) {j : Nat} (h : j < l.length) : clast f (l.take (j + 1)) = l[j].2 := by
  rw [List.take_succ_eq_append_getElem h, clast_snoc]
theorem RtOk.stopR {l : List (Int × Int)} {n : Int} {j : Nat} (h : j < l.length) (hr : RtOk 0 (l.take j) n) : RtOk 0 (l.take (j + 1)) n ↔ clast 0 (l.take j) ≤ l[j].1 ∧ l[j].1 < l[j].2 ∧ l[j].2 ≤ n := by
  rw [List.take_succ_eq_append_getElem h, RtOk.snoc]
  exact ⟨fun h => h.2, fun h => ⟨hr, h⟩⟩
theorem RtOk.noR {l : List (Int × Int)} {n : Int} {j : Nat} (h : ¬ RtOk 0 (l.take j) n) : ¬ RtOk 0 l n := fun g => h (by
  rw [← List.take_append_drop j l] at g
  exact g.pre)
set_option maxHeartbeats 4000000 in
set_option maxRecDepth 100000 in
theorem rRight16 (n : Int) (A : Option Addr) (m c : Nat) (l : List (Int × Int)) (b : Bool) (hb : b = true ↔ RtOk 0 l n) (w : World) (hA : RowsAt wencS 2 w A l) (hl : l.length = m) (hm : m ≤ 1000000) :
    Calls Tryz.prog 29 #[.int .i64 n, .slice A m c] w fun e w' => e = .returned (.bool b) ∧ Below w.heap.size w w' := by
  have HA := Lib.hid hA
  have HL := Lib.hid hl
  have HBB := Lib.hid hb
  clear hA hl hb
  go_enter Tryz.func29, Tryz.ntmps29
  go_wp2_with fail
  go_loopg [5, 10] m (fun g q i wr => ∃ (j : Nat) (u : Int), i = .int .i64 j ∧ q = .int .i64 u ∧ j ≤ m ∧ m - j ≤ g ∧ Hid (u = clast 0 (l.take j)) ∧ Hid (RtOk 0 (l.take j) n) ∧ Hid (Below w.heap.size w wr))
  case atStart => exact ⟨0, 0, rfl, rfl, by omega, by omega, Lib.hid rfl, Lib.hid trivial, Lib.hid (Below.refl _ _)⟩
  case round =>
    obtain ⟨j, q, rfl, rfl, j1, j2, hq, hr, hb⟩ := hrel
    by_cases hlt : j < m
    · have hjl : j < l.length := by rw [HL.out]; exact hlt
      obtain ⟨bA, off, rfl, hbA, d0, d1⟩ := wrowsS (HA.out.below hb.out) hjl
      have t2 := clast_takeR l 0 hjl
      have hst := RtOk.stopR hjl hr.out
      rw [← hq.out] at hst
      have HST := Lib.hid hst
      have HT2 := Lib.hid t2
      clear t2 hst
      generalize l[j] = x at *
      obtain ⟨x1, x2⟩ := x
      simp only at *
      have i1 : (0 : Int) ≤ j := by omega
      have i2 : (j : Int) < m := by omega
      have HB3 := Lib.hid (hb.out.trans (((Below.refl _ _).alloc (Nat.le_refl _) (.cells #[.int .i64 x1, .int .i64 x2] 76)).mono hb.out.size))
      by_cases g1 : x1 < q
      · have k1 : decide (x1 < q) = true := decide_eq_true g1
        obtain rfl : b = false := by rw [← Bool.not_eq_true]; exact fun h => RtOk.noR (j := j + 1) (fun h => by have := HST.out.mp h; omega) (HBB.out.mp h)
        go_wp2
        go_ret
        exact ⟨rfl, HB3.out⟩
      · have k1 : decide (x1 < q) = false := decide_eq_false g1
        by_cases g2 : x2 ≤ x1
        · have k2 : decide (x2 ≤ x1) = true := decide_eq_true g2
          obtain rfl : b = false := by rw [← Bool.not_eq_true]; exact fun h => RtOk.noR (j := j + 1) (fun h => by have := HST.out.mp h; omega) (HBB.out.mp h)
          go_wp2
          go_ret
          exact ⟨rfl, HB3.out⟩
        · have k2 : decide (x2 ≤ x1) = false := decide_eq_false g2
          by_cases g3 : n < x2
          · have k3 : decide (n < x2) = true := decide_eq_true g3
            obtain rfl : b = false := by rw [← Bool.not_eq_true]; exact fun h => RtOk.noR (j := j + 1) (fun h => by have := HST.out.mp h; omega) (HBB.out.mp h)
            go_wp2
            go_ret
            exact ⟨rfl, HB3.out⟩
          · have k3 : decide (n < x2) = false := decide_eq_false g3
            have HRT : Hid (RtOk 0 (l.take (j + 1)) n) := Lib.hid (HST.out.mpr (by omega))
            have HQ5 : Hid (x2 = clast 0 (l.take (j + 1))) := Lib.hid HT2.out.symm
            clear HST HT2 hr hq
            go_wp2
            go_roundg (gk - 1)
            case measure => omega
            case rel => exact ⟨j + 1, x2, by go_num, rfl, by omega, by omega, HQ5, HRT, HB3⟩
    · obtain rfl : j = m := by omega
      have htk : l.take j = l := List.take_of_length_le (by rw [HL.out]; exact Nat.le_refl _)
      have hr2 := hr.out
      rw [htk] at hr2
      obtain rfl : b = true := HBB.out.mpr hr2
      clear htk hr2 hr hq
      go_wp2
      go_ret
      exact ⟨rfl, hb.out⟩
end Go.Proofs.YtpnjokhhbjpciaaGreatDoor
