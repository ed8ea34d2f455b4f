/- Creases: the document's Right, hides, Starts. Creases: the document's Starts. Creases: the document's Pieces. Creases: the document's Places. Creases: the laws' size, places, woven. Creases: the laws' long. Creases: the laws' is. -/
import Derived.Test.YtjkmkobnfhepaaaGreatCrB
import Derived.Test.YtjkmkobnfhepaaaGreatWvI
import Derived.Test.YtjkmkobnfhepaaaGreatCrC
import Derived.Test.YtjkmkobnfhepaaaGreatCrG
import Derived.Test.YtjkmkobnfhepaaaGreatCrF
import Derived.Test.YtjkmkobnfhepaaaGreatCrD
import Derived.Test.YtjkmkobnfhepaaaGreatWvL
import Derived.Test.YtjkmkobnfhepaaaGreatInN
import Derived.Deep.QuietTactic
import Derived.BigQuiet
namespace Go.Proofs.YtjkmkobnfhepaaaGreat
section
open Go.RowKit
set_option linter.unusedVariables false
theorem RtOk.stopR {l : List (Int × Int)} {n : Int} {j : Nat} (h : j < l.length) (hr : RtOk 0 (l.take j) n) : RtOk 0 (l.take (j + 1)) n ↔ clast 0 (l.take j) ≤ l[j].1 ∧ l[j].1 < l[j].2 ∧ l[j].2 ≤ n := by
  rw [List.take_succ_eq_append_getElem h, RtOk.snoc]
  exact ⟨fun h => h.2, fun h => ⟨hr, h⟩⟩
theorem RtOk.noR {l : List (Int × Int)} {n : Int} {j : Nat} (h : ¬ RtOk 0 (l.take j) n) : ¬ RtOk 0 l n := fun g => h (by
  rw [← List.take_append_drop j l] at g
  exact g.pre)
set_option maxHeartbeats 4000000 in
set_option maxRecDepth 100000 in
theorem rRight16 (n : Int) (A : Option Addr) (m c : Nat) (l : List (Int × Int)) (b : Bool) (hb : b = true ↔ RtOk 0 l n) (w : World) (hA : RowsAt wencS 2 w A l) (hl : l.length = m) (hm : m ≤ 1000000) :
    Calls Tryz.prog 5 #[.int .i64 n, .slice A m c] w fun e w' => e = .returned (.bool b) ∧ Below w.heap.size w w' := by
  have HA := Lib.hid hA
  have HL := Lib.hid hl
  have HBB := Lib.hid hb
  clear hA hl hb
  go_enter Tryz.func5, Tryz.ntmps5
  go_wp2_with fail
  go_loopg [5, 10] m (fun g q i wr => ∃ (j : Nat) (u : Int), i = .int .i64 j ∧ q = .int .i64 u ∧ j ≤ m ∧ m - j ≤ g ∧ Hid (u = clast 0 (l.take j)) ∧ Hid (RtOk 0 (l.take j) n) ∧ Hid (Below w.heap.size w wr))
  case atStart => exact ⟨0, 0, rfl, rfl, by omega, by omega, Lib.hid rfl, Lib.hid trivial, Lib.hid (Below.refl _ _)⟩
  case round =>
    obtain ⟨j, q, rfl, rfl, j1, j2, hq, hr, hb⟩ := hrel
    by_cases hlt : j < m
    · have hjl : j < l.length := by rw [HL.out]; exact hlt
      obtain ⟨bA, off, rfl, hbA, d0, d1⟩ := wrowsS (HA.out.below hb.out) hjl
      obtain ⟨_, t2⟩ := clast_take l 0 hjl
      have hst := RtOk.stopR hjl hr.out
      rw [← hq.out] at hst
      have HST := Lib.hid hst
      have HT2 := Lib.hid t2
      clear t2 hst
      generalize l[j] = x at *
      obtain ⟨x1, x2⟩ := x
      simp only at *
      have i1 : (0 : Int) ≤ j := by omega
      have i2 : (j : Int) < m := by omega
      have HB3 := Lib.hid (hb.out.trans (((Below.refl _ _).alloc (Nat.le_refl _) (.cells #[.int .i64 x1, .int .i64 x2] 27)).mono hb.out.size))
      by_cases g1 : x1 < q
      · have k1 : decide (x1 < q) = true := decide_eq_true g1
        obtain rfl : b = false := by rw [← Bool.not_eq_true]; exact fun h => RtOk.noR (j := j + 1) (fun h => by have := HST.out.mp h; omega) (HBB.out.mp h)
        go_wp2
        go_ret
        exact ⟨rfl, HB3.out⟩
      · have k1 : decide (x1 < q) = false := decide_eq_false g1
        by_cases g2 : x2 ≤ x1
        · have k2 : decide (x2 ≤ x1) = true := decide_eq_true g2
          obtain rfl : b = false := by rw [← Bool.not_eq_true]; exact fun h => RtOk.noR (j := j + 1) (fun h => by have := HST.out.mp h; omega) (HBB.out.mp h)
          go_wp2
          go_ret
          exact ⟨rfl, HB3.out⟩
        · have k2 : decide (x2 ≤ x1) = false := decide_eq_false g2
          by_cases g3 : n < x2
          · have k3 : decide (n < x2) = true := decide_eq_true g3
            obtain rfl : b = false := by rw [← Bool.not_eq_true]; exact fun h => RtOk.noR (j := j + 1) (fun h => by have := HST.out.mp h; omega) (HBB.out.mp h)
            go_wp2
            go_ret
            exact ⟨rfl, HB3.out⟩
          · have k3 : decide (n < x2) = false := decide_eq_false g3
            have HRT : Hid (RtOk 0 (l.take (j + 1)) n) := Lib.hid (HST.out.mpr (by omega))
            have HQ5 : Hid (x2 = clast 0 (l.take (j + 1))) := Lib.hid HT2.out.symm
            clear HST HT2 hr hq
            go_wp2
            go_roundg (gk - 1)
            case measure => omega
            case rel => exact ⟨j + 1, x2, by go_num, rfl, by omega, by omega, HQ5, HRT, HB3⟩
    · obtain rfl : j = m := by omega
      have htk : l.take j = l := List.take_of_length_le (by rw [HL.out]; exact Nat.le_refl _)
      have hr2 := hr.out
      rw [htk] at hr2
      obtain rfl : b = true := HBB.out.mpr hr2
      clear htk hr2 hr hq
      go_wp2
      go_ret
      exact ⟨rfl, hb.out⟩
/-- Which span hides the rune behind a place: its number, or -1. -/
def HidIs (l : List (Int × Int)) (p r : Int) : Prop := (r = -1 ∧ chid l p = none) ∨ ∃ (i : Nat) (h : i < l.length), r = i ∧ chid l p = some l[i]
theorem chid_at {l : List (Int × Int)} {p : Int} {j : Nat} (h : j < l.length) (hn : chid (l.take j) p = none) : chid (l.take (j + 1)) p = (if l[j].1 ≤ p ∧ p < l[j].2 then some l[j] else none) ∧ (l[j].1 ≤ p ∧ p < l[j].2 → chid l p = some l[j]) := by
  have e : chid (l.take (j + 1)) p = if l[j].1 ≤ p ∧ p < l[j].2 then some l[j] else none := by
    unfold chid at *
    rw [List.take_succ_eq_append_getElem h, List.find?_append, hn]
    by_cases g : l[j].1 ≤ p ∧ p < l[j].2
    · rw [if_pos g]; simp [g]
    · rw [if_neg g]; simp [g]
  refine ⟨e, fun g => ?_⟩
  rw [if_pos g] at e
  unfold chid at *
  have e2 : List.find? (fun x => decide (x.1 ≤ p ∧ p < x.2)) l = List.find? (fun x => decide (x.1 ≤ p ∧ p < x.2)) (l.take (j + 1) ++ l.drop (j + 1)) := by rw [List.take_append_drop]
  rw [e2, List.find?_append, e]
  rfl
set_option maxHeartbeats 4000000 in
set_option maxRecDepth 100000 in
theorem rHides16 (A : Option Addr) (m c : Nat) (l : List (Int × Int)) (p : Int) (w : World) (hA : RowsAt wencS 2 w A l) (hl : l.length = m) (hm : m ≤ 1000000) :
    Calls Tryz.prog 78 #[.slice A m c, .int .i64 p] w fun e w' => ∃ r, e = .returned (.int .i64 r) ∧ HidIs l p r ∧ Below w.heap.size w w' := by
  have HA := Lib.hid hA
  have HL := Lib.hid hl
  clear hA hl
  go_enter Tryz.func78, Tryz.ntmps78
  go_wp2_with fail
  go_loopg [9] m (fun g i wr => ∃ (j : Nat), i = .int .i64 j ∧ j ≤ m ∧ m - j ≤ g ∧ Hid (chid (l.take j) p = none) ∧ Hid (Below w.heap.size w wr))
  case atStart => exact ⟨0, rfl, by omega, by omega, Lib.hid rfl, Lib.hid (Below.refl _ _)⟩
  case round =>
    obtain ⟨j, rfl, j1, j2, hn, hb⟩ := hrel
    by_cases hlt : j < m
    · have hjl : j < l.length := by rw [HL.out]; exact hlt
      obtain ⟨bA, off, rfl, hbA, d0, d1⟩ := wrowsS (HA.out.below hb.out) hjl
      have HC := Lib.hid (chid_at hjl hn.out)
      have HI : Hid ((l[j].1 ≤ p ∧ p < l[j].2) → HidIs l p j) := Lib.hid (fun g => .inr ⟨j, hjl, rfl, HC.out.2 g⟩)
      clear hn
      generalize l[j] = x at *
      obtain ⟨x1, x2⟩ := x
      simp only at *
      have i1 : (0 : Int) ≤ j := by omega
      have i2 : (j : Int) < m := by omega
      have HB3 := Lib.hid (hb.out.trans (((Below.refl _ _).alloc (Nat.le_refl _) (.cells #[.int .i64 x1, .int .i64 x2] 27)).mono hb.out.size))
      by_cases g1 : x1 ≤ p
      · have k1 : decide (x1 ≤ p) = true := decide_eq_true g1
        by_cases g2 : p < x2
        · have k2 : decide (p < x2) = true := decide_eq_true g2
          have HR := Lib.hid (HI.out ⟨g1, g2⟩)
          clear HC HI
          go_wp2
          go_ret
          exact ⟨_, rfl, HR.out, HB3.out⟩
        · have k2 : decide (p < x2) = false := decide_eq_false g2
          have HN : Hid (chid (l.take (j + 1)) p = none) := Lib.hid (HC.out.1.trans (if_neg (fun h => g2 h.2)))
          clear HC HI
          go_wp2
          go_roundg (gk - 1)
          case measure => omega
          case rel => exact ⟨j + 1, by go_num, by omega, by omega, HN, HB3⟩
      · have k1 : decide (x1 ≤ p) = false := decide_eq_false g1
        have HN : Hid (chid (l.take (j + 1)) p = none) := Lib.hid (HC.out.1.trans (if_neg (fun h => g1 h.1)))
        clear HC HI
        go_wp2
        go_roundg (gk - 1)
        case measure => omega
        case rel => exact ⟨j + 1, by go_num, by omega, by omega, HN, HB3⟩
    · obtain rfl : j = m := by omega
      have hn2 := hn.out
      rw [List.take_of_length_le (by rw [HL.out]; exact Nat.le_refl _)] at hn2
      have HN := Lib.hid hn2
      clear hn hn2
      go_wp2
      go_ret
      exact ⟨_, rfl, .inl ⟨rfl, HN.out⟩, hb.out⟩
end
section
open Go.RowKit
set_option linter.unusedVariables false
def encZ (x : Int) : List Value := [.int .i64 x]
theorem encZ_len (x : Int) : (encZ x).length = 1 := rfl
theorem encZ_one (x : Int) : ∀ v ∈ encZ x, v.oneCell' = true := by intro v hv; simp [encZ] at hv; subst hv; rfl
theorem cint_info : (Tryz.prog.info? 3).map (fun i => (i.zero, i.size, i.bytes)) = some (some (.int .i64 0), 1, 8) := by kernel_rfl
theorem cint_slt : SlT Tryz.prog 28 3 1 8 := slt_of Tryz.underlying28 cint_info rfl (by kernel_rfl)
def cstS (l : List (Int × Int)) (j : Nat) : List Int := (rng 0 j).filter (cbeg l)
theorem cstS_succ (l : List (Int × Int)) (j : Nat) : cstS l (j + 1) = cstS l j ++ (if cbeg l (j : Int) = true then [(j : Int)] else []) := by
  unfold cstS
  rw [rng_snoc, List.filter_append, Int.zero_add]
  by_cases h : cbeg l (j : Int) = true
  · rw [if_pos h, List.filter_cons_of_pos h]; rfl
  · rw [if_neg h, List.filter_cons_of_neg h]; rfl
theorem cstS_len (l : List (Int × Int)) : ∀ j, (cstS l j).length ≤ j := fun j => by
  have := List.length_filter_le (cbeg l) (rng 0 j)
  rw [rng_len] at this
  exact this
set_option maxHeartbeats 8000000 in
set_option maxRecDepth 100000 in
theorem rStarts16 (n : Nat) (A : Option Addr) (m c : Nat) (l : List (Int × Int)) (w : World) (hA : RowsAt wencS 2 w A l) (hl : l.length = m) (hm : m ≤ 1000000) (hn : n ≤ 1000000) :
    Calls Tryz.prog 48 #[.int .i64 n, .slice A m c] w fun e w' => ∃ v, e = .returned v ∧ w'.ownsRow w.heap.size 3 1 v (cstS l n).length (kfl encZ (cstS l n)) ∧ Below w.heap.size w w' := by
  have ST := cint_slt
  have HA := Lib.hid hA
  have HL := Lib.hid hl
  have HLE := Lib.hid (cstS_len l)
  have CH := Lib.hid fun (W : World) (hW : Below w.heap.size w W) (p : Int) => rHides16 A m c l p W (hA.below hW) hl hm
  clear hA hl
  go_enter Tryz.func48, Tryz.ntmps48
  go_wp2_with fail
  go_loopg [5, 6] n (fun g v i wr => ∃ (j : Nat) (u : Value), u = v ∧ i = .int .i64 j ∧ j ≤ n ∧ n - j ≤ g ∧ Hid (Below w.heap.size w wr) ∧ Hid (wr.ownsRow w.heap.size 3 1 u (cstS l j).length (kfl encZ (cstS l j))))
  case atStart => exact ⟨0, _, rfl, rfl, by omega, by omega, Lib.hid (Below.refl _ _), Lib.hid (World.ownsRow_nil _ _ _ _)⟩
  case round =>
    obtain ⟨j, u, rfl, rfl, j1, j2, hb, hown⟩ := hrel
    obtain ⟨A3, c3, rfl⟩ := own_form hown.out
    have hle := HLE.out j
    by_cases hlt : j < n
    · have k1 : decide ((j : Int) < (n : Int)) = true := decide_eq_true (by omega)
      have HSU := Lib.hid (cstS_succ l j)
      obtain ⟨N, hN⟩ : ∃ N, N = (cstS l j).length := ⟨_, rfl⟩
      rw [← hN] at hown hle
      rw [← hN]
      have HN := Lib.hid hN
      clear hN
      go_wp2_with fail
      with_reducible refine (CH.out _ hb.out j).mono ?_
      rintro e w4 ⟨r, rfl, hr, b4⟩
      have HB4 := Lib.hid (hb.out.trans (b4.mono hb.out.size))
      have HO4 := Lib.hid (own_below hown.out b4)
      clear b4 hb hown
      rcases hr with ⟨rfl, hc⟩ | ⟨i, hi, rfl, hc⟩
      · have hbe : cbeg l (j : Int) = true := by unfold cbeg; rw [hc]
        have HSN : Hid (cstS l (j + 1) = cstS l j ++ [(j : Int)]) := Lib.hid (by rw [HSU.out, if_pos hbe])
        clear hbe hc HSU
        have x9 : Below w4.heap.size w4 (w4.alloc (.cells #[.int .i64 (j : Int)] 3)) := (Below.refl _ _).alloc (Nat.le_refl _) _
        have S9 := Lib.hid (rows_of_block (enc := encZ) (k := 1) encZ_len (heap_alloc_new w4 _ : RawAt 3 (w4.alloc (.cells #[.int .i64 (j : Int)] 3)) w4.heap.size #[.int .i64 (j : Int)]) (l := [(j : Int)]) rfl)
        have O9 := Lib.hid (own_below HO4.out x9)
        have B9 := Lib.hid (HB4.out.trans (x9.mono HB4.out.size))
        have lt9 := O9.out.lt
        clear x9
        go_wp2_with (at_builtin; refine wpList_appK (enc := encZ) ST encZ_len (by omega) rfl (.tmp 27) (.tmp 29) rfl (base := w.heap.size) (v := .slice A3 N c3) rfl O9.out _ 1 1 [(j : Int)] rfl S9.out ⟨Nat.le_refl _, fun h => by cases h⟩ rfl (kfl_one' encZ_one _) (by simp only [maxLen]; omega) (by omega) (by have := B9.out.size; omega) ?_; intro v9 w9 hown9 hg9 hor9; have HB9 := Lib.hid (B9.out.grown hg9 B9.out.size (fun j hj => by have := (lt9 j hj).1; omega)); have HO9 := Lib.hid hown9; clear hown9 hg9 hor9 O9 B9 S9 lt9)
        have HOX : Hid (w9.ownsRow w.heap.size 3 1 v9 (cstS l (j + 1)).length (kfl encZ (cstS l (j + 1)))) := Lib.hid (by rw [HSN.out, List.length_append, List.length_singleton, ← HN.out, kfl_append]; exact HO9.out)
        go_roundg (gk - 1)
        case measure => omega
        case rel => exact ⟨j + 1, _, rfl, by go_num, by omega, by omega, HB9, HOX⟩
      · have hbe : cbeg l (j : Int) = decide (l[i].1 = (j : Int)) := by unfold cbeg; rw [hc]
        obtain ⟨bA, off, hAe, hbA, d0, d1⟩ := wrowsS (HA.out.below HB4.out) hi
        subst hAe
        have him : i < m := by rw [← HL.out]; exact hi
        have i1 : (0 : Int) ≤ i := by omega
        have i2 : (i : Int) < m := by omega
        have k2 : decide ((i : Int) < 0) = false := decide_eq_false (by omega)
        have HBE := Lib.hid hbe
        clear hbe hc
        generalize l[i] = x at *
        obtain ⟨x1, x2⟩ := x
        simp only at *
        by_cases g : x1 = (j : Int)
        · have k3 : (x1 == (j : Int)) = true := by simpa using g
          have HSN : Hid (cstS l (j + 1) = cstS l j ++ [(j : Int)]) := Lib.hid (by rw [HSU.out, if_pos (by rw [HBE.out]; exact decide_eq_true g)])
          clear HBE HSU g
          have x9 : Below w4.heap.size w4 (w4.alloc (.cells #[.int .i64 (j : Int)] 3)) := (Below.refl _ _).alloc (Nat.le_refl _) _
          have S9 := Lib.hid (rows_of_block (enc := encZ) (k := 1) encZ_len (heap_alloc_new w4 _ : RawAt 3 (w4.alloc (.cells #[.int .i64 (j : Int)] 3)) w4.heap.size #[.int .i64 (j : Int)]) (l := [(j : Int)]) rfl)
          have O9 := Lib.hid (own_below HO4.out x9)
          have B9 := Lib.hid (HB4.out.trans (x9.mono HB4.out.size))
          have lt9 := O9.out.lt
          clear x9
          go_wp2_with (at_builtin; refine wpList_appK (enc := encZ) ST encZ_len (by omega) rfl (.tmp 27) (.tmp 29) rfl (base := w.heap.size) (v := .slice A3 N c3) rfl O9.out _ 1 1 [(j : Int)] rfl S9.out ⟨Nat.le_refl _, fun h => by cases h⟩ rfl (kfl_one' encZ_one _) (by simp only [maxLen]; omega) (by omega) (by have := B9.out.size; omega) ?_; intro v9 w9 hown9 hg9 hor9; have HB9 := Lib.hid (B9.out.grown hg9 B9.out.size (fun j hj => by have := (lt9 j hj).1; omega)); have HO9 := Lib.hid hown9; clear hown9 hg9 hor9 O9 B9 S9 lt9)
          have HOX : Hid (w9.ownsRow w.heap.size 3 1 v9 (cstS l (j + 1)).length (kfl encZ (cstS l (j + 1)))) := Lib.hid (by rw [HSN.out, List.length_append, List.length_singleton, ← HN.out, kfl_append]; exact HO9.out)
          go_roundg (gk - 1)
          case measure => omega
          case rel => exact ⟨j + 1, _, rfl, by go_num, by omega, by omega, HB9, HOX⟩
        · have k3 : (x1 == (j : Int)) = false := by simpa using g
          have HSN : Hid (cstS l (j + 1) = cstS l j) := Lib.hid (by rw [HSU.out, if_neg (by rw [HBE.out]; simpa using g), List.append_nil])
          clear HBE HSU g
          have HOX : Hid (w4.ownsRow w.heap.size 3 1 (.slice A3 N c3) (cstS l (j + 1)).length (kfl encZ (cstS l (j + 1)))) := Lib.hid (by rw [HSN.out, ← HN.out]; exact HO4.out)
          go_wp2
          go_roundg (gk - 1)
          case measure => omega
          case rel => exact ⟨j + 1, _, rfl, by go_num, by omega, by omega, HB4, HOX⟩
    · obtain rfl : j = n := by omega
      have k1 : decide ((j : Int) < (j : Int)) = false := decide_eq_false (by omega)
      have HO := hown
      clear hown
      go_wp2
      go_ret
      exact ⟨_, rfl, HO.out, hb.out⟩
end
section
open Go.RowKit
set_option linter.unusedVariables false
theorem cpce_info : (Tryz.prog.info? 97).map (fun i => (i.zero, i.size, i.bytes)) = some (some (.agg #[.int .i64 0, .int .i64 0]), 2, 16) := by kernel_rfl
theorem cpce_slt : SlT Tryz.prog 93 97 2 16 := slt_of Tryz.underlying93 cpce_info rfl (by kernel_rfl)
theorem cgrp_take (l : List (Int × Int)) (S : List Int) {j : Nat} (h : j < S.length) : cgrp l [] (S.take (j + 1)) = cput (cgrp l [] (S.take j)) (chid l S[j]) := by
  rw [List.take_succ_eq_append_getElem h]
  unfold cgrp
  rw [List.foldl_append]
  rfl
theorem cput_len (acc : List (Int × Int)) (h : Option (Int × Int)) : (cput acc h).length ≤ acc.length + 1 := by
  unfold cput
  split
  · simp
  · split
    · split <;> simp
    · simp
theorem cgrp_len (l : List (Int × Int)) (S : List Int) : ∀ j, j ≤ S.length → (cgrp l [] (S.take j)).length ≤ j
  | 0, _ => Nat.le_refl _
  | j + 1, h => by
    rw [cgrp_take l S (by omega)]
    have := cput_len (cgrp l [] (S.take j)) (chid l S[j])
    have := cgrp_len l S j (by omega)
    omega
theorem cgrp_n (l : List (Int × Int)) (S : List Int) : ∀ j, j ≤ S.length → ∀ x ∈ cgrp l [] (S.take j), 0 ≤ x.2 ∧ x.2 ≤ j
  | 0, _ => fun x hx => by cases hx
  | j + 1, h => by
    intro x hx
    rw [cgrp_take l S (by omega)] at hx
    have ih := cgrp_n l S j (by omega)
    unfold cput at hx
    split at hx
    · rcases List.mem_append.1 hx with hx | hx
      · have := ih x hx; omega
      · rw [List.mem_singleton.1 hx]; simp only; omega
    · split at hx
      · rename_i y hy
        have hy2 := ih y (List.mem_of_getLast? hy)
        split at hx
        · rcases List.mem_append.1 hx with hx | hx
          · have := ih x (List.dropLast_subset _ hx); omega
          · rw [List.mem_singleton.1 hx]; simp only; omega
        · rcases List.mem_append.1 hx with hx | hx
          · have := ih x hx; omega
          · rw [List.mem_singleton.1 hx]; simp only; omega
      · rcases List.mem_append.1 hx with hx | hx
        · have := ih x hx; omega
        · rw [List.mem_singleton.1 hx]; simp only; omega
theorem cput_none_app (G : List (Int × Int)) (i m : Int) : cput (G ++ [(i, m)]) none = if i = 0 then G ++ [(i, m + 1)] else G ++ [(i, m)] ++ [(0, 1)] := by
  unfold cput
  simp only [List.getLast?_append, List.getLast?_singleton, List.dropLast_concat]
  rfl
set_option maxHeartbeats 16000000 in
set_option maxRecDepth 100000 in
theorem rPieces16 (n : Nat) (A : Option Addr) (m c : Nat) (l : List (Int × Int)) (w : World) (hA : RowsAt wencS 2 w A l) (hl : l.length = m) (hm : m ≤ 1000000) (hn : n ≤ 1000000) (hx : ∀ x ∈ l, 0 ≤ x.1 ∧ x.1 ≤ x.2 ∧ x.2 ≤ 1099511627776) :
    Calls Tryz.prog 47 #[.int .i64 n, .slice A m c] w fun e w' => ∃ v, e = .returned v ∧ w'.ownsRow w.heap.size 97 2 v (cgrp l [] (cstS l n)).length (kfl wencS (cgrp l [] (cstS l n))) ∧ Below w.heap.size w w' := by
  have ST := cpce_slt
  have CS := Lib.hid (rStarts16 n A m c l w hA hl hm hn)
  have hSl : (cstS l n).length ≤ 1000000 := Nat.le_trans (cstS_len l n) hn
  have HA := Lib.hid hA
  have HL := Lib.hid hl
  have HX := Lib.hid hx
  clear hA hl hx
  generalize cstS l n = S at *
  go_enter Tryz.func47, Tryz.ntmps47
  go_wp2_with fail
  with_reducible refine (CS.out).mono ?_
  rintro e W2 ⟨v2, rfl, o2, b2⟩
  have X2 := Lib.hid b2
  have CH := Lib.hid fun (W : World) (hW : Below W2.heap.size W2 W) (p : Int) => rHides16 A m c l p W (HA.out.below (X2.out.trans (hW.mono X2.out.size))) HL.out hm
  obtain ⟨A2, cc2, rfl, hR, _, _⟩ := rows_of_own encZ_len (by omega) o2
  have HR := Lib.hid hR
  obtain ⟨M, hM⟩ : ∃ M, M = S.length := ⟨_, rfl⟩
  rw [← hM] at hSl
  simp only [← hM]
  have HM := Lib.hid hM
  clear b2 o2 hR CS hM
  go_wp2_with fail
  go_loopg [5, 14] M (fun g v i wr => ∃ j N : Nat, i = .int .i64 j ∧ j ≤ M ∧ M - j ≤ g ∧ Hid (Below W2.heap.size W2 wr) ∧ Hid (wr.ownsRow W2.heap.size 97 2 v N (kfl wencS (cgrp l [] (S.take j)))))
  case atStart => exact ⟨0, 0, rfl, by omega, by omega, Lib.hid (Below.refl _ _), Lib.hid (World.ownsRow_nil _ _ _ _)⟩
  case round =>
    obtain ⟨j, N, rfl, j1, j2, hb, hown⟩ := hrel
    have hNl := own_len wencS_len (by omega) hown.out
    have hNj := cgrp_len l S j (by rw [← HM.out]; exact j1)
    rw [hNl] at hNj
    by_cases hlt : j < M
    · have hjl : j < S.length := by rw [← HM.out]; exact hlt
      obtain ⟨bA, off, rfl, hbA, hce⟩ := (HR.out.below hb.out).at1 hjl
      have f0 := hce 0 (by omega)
      simp [encZ] at f0
      have HG := Lib.hid (cgrp_take l S hjl)
      have HGN := Lib.hid (cgrp_n l S j (by omega))
      clear hce
      generalize S[j] = p at *
      obtain ⟨A3, c3, rfl⟩ := own_form hown.out
      have i1 : (0 : Int) ≤ j := by omega
      have i2 : (j : Int) < M := by omega
      have kj : decide ((j : Int) < (M : Int)) = true := decide_eq_true i2
      have wN : IntKind.i64.wrap ((N : Int) - 1) = (N : Int) - 1 := IntWalk.i64_in _ (by omega)
      go_wp2_with fail
      with_reducible refine (CH.out _ hb.out p).mono ?_
      rintro e w4 ⟨r, rfl, hr, b4⟩
      have HB4 := Lib.hid (hb.out.trans (b4.mono hb.out.size))
      have HO4 := Lib.hid (own_below hown.out b4)
      clear b4 hb hown f0
      rcases hr with ⟨rfl, hc⟩ | ⟨i, hi, rfl, hc⟩
      · rw [hc] at HG
        have kr : decide ((0 : Int) ≤ -1) = false := rfl
        by_cases h0 : N = 0
        · subst h0
          have hnil : cgrp l [] (S.take j) = [] := List.eq_nil_of_length_eq_zero hNl
          have HG0 : Hid (cgrp l [] (S.take (j + 1)) = cgrp l [] (S.take j) ++ [(0, 1)]) := Lib.hid (by rw [HG.out, hnil]; rfl)
          clear hnil HG HGN hNl hc
          have k0 : decide ((0 : Int) ≤ 0 - 1) = false := rfl
          have x9 : Below w4.heap.size w4 (w4.alloc (.cells #[.int .i64 0, .int .i64 1] 97)) := (Below.refl _ _).alloc (Nat.le_refl _) _
          have S9 := Lib.hid (rows_of_block (enc := wencS) (k := 2) wencS_len (heap_alloc_new w4 _ : RawAt 97 (w4.alloc (.cells #[.int .i64 0, .int .i64 1] 97)) w4.heap.size #[.int .i64 0, .int .i64 1]) (l := [(0, 1)]) rfl)
          have O9 := Lib.hid (own_below HO4.out x9)
          have B9 := Lib.hid (HB4.out.trans (x9.mono HB4.out.size))
          have lt9 := O9.out.lt
          clear x9
          go_wp2_with (at_builtin; refine wpList_appK (enc := wencS) ST wencS_len (by omega) rfl (.tmp 61) (.tmp 63) rfl (base := W2.heap.size) (v := .slice A3 0 c3) rfl O9.out _ 1 1 [(0, 1)] rfl S9.out ⟨Nat.le_refl _, fun h => by cases h⟩ rfl (kfl_one' wencS_one _) (by simp only [maxLen]; omega) (by omega) (by have := B9.out.size; omega) ?_; intro v9 w9 hown9 hg9 hor9; have HB9 := Lib.hid (B9.out.grown hg9 B9.out.size (fun j hj => by have := (lt9 j hj).1; omega)); have HO9 := Lib.hid hown9; clear hown9 hg9 hor9 O9 B9 S9 lt9)
          have HOX : Hid (w9.ownsRow W2.heap.size 97 2 v9 (0 + 1) (kfl wencS (cgrp l [] (S.take (j + 1))))) := Lib.hid (by rw [HG0.out, kfl_append]; exact HO9.out)
          go_roundg (gk - 1)
          case measure => omega
          case rel => exact ⟨j + 1, 0 + 1, by go_num, by omega, by omega, HB9, HOX⟩
        · have hne : cgrp l [] (S.take j) ≠ [] := fun h => by rw [h] at hNl; simp at hNl; omega
          obtain ⟨G, y, hGy⟩ : ∃ G y, cgrp l [] (S.take j) = G ++ [y] := ⟨_, _, (List.dropLast_concat_getLast hne).symm⟩
          obtain ⟨yi, ym⟩ := y
          rw [hGy] at hNl
          obtain rfl : N = G.length + 1 := by rw [← hNl]; simp
          have hyb := HGN.out (yi, ym) (by rw [hGy]; simp)
          simp only at hyb
          obtain ⟨g, cap, e9⟩ := own_slice HO4.out (by omega)
          cases e9
          have HO4' := HO4.out
          rw [hGy] at HO4'
          have HG1 : Hid (cgrp l [] (S.take (j + 1)) = if yi = 0 then G ++ [(yi, ym + 1)] else G ++ [(yi, ym)] ++ [(0, 1)]) := Lib.hid (by rw [HG.out, hGy, cput_none_app])
          obtain ⟨A9, c9, e9, hR9, _, _⟩ := rows_of_own wencS_len (by omega) HO4'
          obtain ⟨bb, oo, e10, _, q0, q1⟩ := wrowsS hR9 (j := G.length) (by simp)
          cases e9
          cases e10
          simp at q0 q1
          have zf := own_freeI HO4' (G.length * 2 + 1)
          have HO5 := Lib.hid HO4'
          have HLT := Lib.hid ((HO4'.lt g (by rfl)).1)
          clear HO4' hGy hR9 HG HGN hne hNl HO4 hc
          generalize hK : G.length = K at *
          have HK := Lib.hid hK
          clear hK
          have wK : IntKind.i64.wrap ((K : Int) + 1 - 1) = K := by rw [show (K : Int) + 1 - 1 = K from by omega]; exact IntWalk.i64_in _ (by omega)
          have i5 : (K : Int) < (K : Int) + 1 := by omega
          have i6 : (0 : Int) ≤ K := by omega
          have k6 : decide ((0 : Int) ≤ (K : Int)) = true := decide_eq_true i6
          have i7 : ¬ (K : Int) < 0 := by omega
          have wK2 : IntKind.i64.wrap (K : Int) = K := IntWalk.i64_in _ (by omega)
          have w2' : IntKind.i64.wrap (ym + 1) = ym + 1 := IntWalk.i64_in _ (by omega)
          clear wN
          by_cases hid : yi = 0
          · have kq : (yi == 0) = true := by simpa using hid
            have HG2 := Lib.hid (HG1.out.trans (if_pos hid))
            have HY := Lib.hid hid
            clear hid HG1
            have HO7 : Hid ((w4.setCell ⟨g, K * 2 + 1, none⟩ (.int .i64 (ym + 1))).ownsRow W2.heap.size 97 2 (.slice (some ⟨g, 0, none⟩) (K + 1) c3) (K + 1) (kfl wencS (cgrp l [] (S.take (j + 1))))) := Lib.hid (by
              have := own_setKI HO5.out (K * 2 + 1) (.int .i64 (ym + 1))
              rw [show K * 2 + 1 = G.length * 2 + 1 from by rw [HK.out], wencS_set] at this
              rw [HG2.out, show K * 2 + 1 = G.length * 2 + 1 from by rw [HK.out]]
              exact this)
            have HB7 : Hid (Below W2.heap.size W2 (w4.setCell ⟨g, K * 2 + 1, none⟩ (.int .i64 (ym + 1)))) := Lib.hid (HB4.out.setCell (p := ⟨g, K * 2 + 1, none⟩) HLT.out _)
            clear HO5 HB4
            go_wp2
            go_roundg (gk - 1)
            case measure => omega
            case rel => exact ⟨j + 1, K + 1, by go_num, by omega, by omega, HB7, HO7⟩
          · have kq : (yi == 0) = false := by simpa using hid
            have HG0 := Lib.hid (HG1.out.trans (if_neg hid))
            clear hid HG1 zf HLT
            have x9 : Below w4.heap.size w4 (w4.alloc (.cells #[.int .i64 0, .int .i64 1] 97)) := (Below.refl _ _).alloc (Nat.le_refl _) _
            have S9 := Lib.hid (rows_of_block (enc := wencS) (k := 2) wencS_len (heap_alloc_new w4 _ : RawAt 97 (w4.alloc (.cells #[.int .i64 0, .int .i64 1] 97)) w4.heap.size #[.int .i64 0, .int .i64 1]) (l := [(0, 1)]) rfl)
            have O9 := Lib.hid (own_below HO5.out x9)
            have B9 := Lib.hid (HB4.out.trans (x9.mono HB4.out.size))
            have lt9 := O9.out.lt
            clear x9
            go_wp2_with (at_builtin; refine wpList_appK (enc := wencS) ST wencS_len (by omega) rfl (.tmp 61) (.tmp 63) rfl (base := W2.heap.size) (v := .slice (some ⟨g, 0, none⟩) (K + 1) c3) rfl O9.out _ 1 1 [(0, 1)] rfl S9.out ⟨Nat.le_refl _, fun h => by cases h⟩ rfl (kfl_one' wencS_one _) (by simp only [maxLen]; omega) (by omega) (by have := B9.out.size; omega) ?_; intro v9 w9 hown9 hg9 hor9; have HB9 := Lib.hid (B9.out.grown hg9 B9.out.size (fun j hj => by have := (lt9 j hj).1; omega)); have HO9 := Lib.hid hown9; clear hown9 hg9 hor9 O9 B9 S9 lt9)
            have HOX : Hid (w9.ownsRow W2.heap.size 97 2 v9 ((K + 1) + 1) (kfl wencS (cgrp l [] (S.take (j + 1))))) := Lib.hid (by rw [HG0.out, kfl_append]; exact HO9.out)
            go_roundg (gk - 1)
            case measure => omega
            case rel => exact ⟨j + 1, (K + 1) + 1, by go_num, by omega, by omega, HB9, HOX⟩
      · rw [hc] at HG
        have HG0 : Hid (cgrp l [] (S.take (j + 1)) = cgrp l [] (S.take j) ++ [(l[i].2 - l[i].1, 1)]) := Lib.hid HG.out
        have hxb := HX.out _ (List.getElem_mem hi)
        have him : i < m := by rw [← HL.out]; exact hi
        obtain ⟨bL, oL, hAe, hbL, d0, d1⟩ := wrowsS (HA.out.below (X2.out.trans (HB4.out.mono X2.out.size))) hi
        have MK : Hid (∀ W : World, Below W2.heap.size W2 W → (fun W : World => W.cell? ⟨bL, oL + i * 2, none⟩ = some (.int .i64 l[i].1) ∧ W.cell? ⟨bL, oL + i * 2 + 1, none⟩ = some (.int .i64 l[i].2)) W) := Lib.hid fun W hW => by
          obtain ⟨b', o', e', _, z0, z1⟩ := wrowsS (HA.out.below (X2.out.trans (hW.mono X2.out.size))) hi
          rw [hAe] at e'
          cases e'
          exact ⟨z0, z1⟩
        subst hAe
        clear HG HGN hNl hc
        generalize l[i] = x at *
        obtain ⟨x1, x2⟩ := x
        simp only at d0 d1 HG0 hxb MK
        have q1 : (0 : Int) ≤ i := by omega
        have q2 : (i : Int) < m := by omega
        have kr : decide ((0 : Int) ≤ (i : Int)) = true := decide_eq_true q1
        have wx : IntKind.i64.wrap (x2 - x1) = x2 - x1 := IntWalk.i64_in _ (by omega)
        have hlt4 := HO4.out.lt
        clear d0 d1
        go_wp2_with fail
        have hW2 : Below W2.heap.size W2 w4.drew := HB4.out.drew
        refine wp_region_noPanic ?_
        refine wp_region_held_drew (S := (fun W => W.cell? ⟨bL, oL + i * 2, none⟩ = some (.int .i64 x1) ∧ W.cell? ⟨bL, oL + i * 2 + 1, none⟩ = some (.int .i64 x2))) (by kernel_rfl) (MK.out _ hW2) (fun hHeld => ?_)
        refine wpAnyH_take (i := 0) (v := ?_) rfl (by kernel_rfl) (by kernel_rfl) (by kernel_rfl) (fun _ _ _ h => h) (Or.inl ⟨by rfl, ?_⟩) hHeld ?_
        rotate_left
        · intro w hSw; (try dsimp only at hSw); go_simp; try with_reducible rfl
        go_simp
        refine wpAnyH_take (i := 1) (v := ?_) rfl (by kernel_rfl) (by kernel_rfl) (by kernel_rfl) (fun _ _ _ h => h) (Or.inl ⟨by rfl, ?_⟩) hHeld ?_
        rotate_left
        · intro w hSw; (try dsimp only at hSw); go_simp; try with_reducible rfl
        go_simp
        refine wpAnyH_take (i := 2) (v := ?_) rfl (by kernel_rfl) (by kernel_rfl) (by kernel_rfl) (fun _ _ _ h => h) (Or.inl ⟨by rfl, ?_⟩) hHeld ?_
        rotate_left
        · intro w hSw; (try dsimp only at hSw); go_simp; try with_reducible rfl
        go_simp
        refine wpAnyH_take (i := 3) (v := ?_) rfl (by kernel_rfl) (by kernel_rfl) (by kernel_rfl) (fun _ _ _ h => h) (Or.inl ⟨by rfl, ?_⟩) hHeld ?_
        rotate_left
        · intro w hSw; (try dsimp only at hSw); go_simp; try with_reducible rfl
        go_simp
        refine wpAnyH_take (i := 4) (v := ?_) rfl (by kernel_rfl) (by kernel_rfl) (by kernel_rfl) (fun _ _ _ h => h) (Or.inl ⟨by rfl, ?_⟩) hHeld ?_
        rotate_left
        · intro w hSw; (try dsimp only at hSw); go_simp; try with_reducible rfl
        go_simp
        refine wpAnyH_take (i := 5) (v := ?_) rfl (by kernel_rfl) (by kernel_rfl) (by kernel_rfl) (fun _ _ _ h => h) (Or.inl ⟨by rfl, ?_⟩) hHeld ?_
        rotate_left
        · intro w hSw; (try dsimp only at hSw); go_simp; try with_reducible rfl
        go_simp
        refine wpAnyH_take (i := 6) (v := ?_) rfl (by kernel_rfl) (by kernel_rfl) (by kernel_rfl) (fun _ _ _ h => h) (Or.inl ⟨by rfl, ?_⟩) hHeld ?_
        rotate_left
        · intro w hSw; (try dsimp only at hSw); go_simp; try with_reducible rfl
        go_simp
        refine wpAnyH_take (i := 7) (v := ?_) rfl (by kernel_rfl) (by kernel_rfl) (by kernel_rfl) (fun _ _ _ h => h) (Or.inl ⟨by rfl, ?_⟩) hHeld ?_
        rotate_left
        · intro w hSw; (try dsimp only at hSw); go_simp; try with_reducible rfl
        go_simp
        refine wpAnyH_take (i := 8) (v := ?_) rfl (by kernel_rfl) (by kernel_rfl) (by kernel_rfl) (fun _ _ _ h => h) (Or.inl ⟨by rfl, ?_⟩) hHeld ?_
        rotate_left
        · intro w hSw; (try dsimp only at hSw); go_simp; try with_reducible rfl
        go_simp
        refine wpAnyH_take (i := 9) (v := ?_) rfl (by kernel_rfl) (by kernel_rfl) (by kernel_rfl) (fun _ _ _ h => h) (Or.inl ⟨by rfl, ?_⟩) hHeld ?_
        rotate_left
        · intro w hSw; (try dsimp only at hSw); go_simp; try with_reducible rfl
        go_simp
        refine wpAnyH_take (i := 10) (v := ?_) rfl (by kernel_rfl) (by kernel_rfl) (by kernel_rfl) (fun _ _ _ h => h) (Or.inl ⟨by rfl, ?_⟩) hHeld ?_
        rotate_left
        · intro w hSw; (try dsimp only at hSw); go_simp; try with_reducible rfl
        go_simp
        refine wpAnyH_take (i := 11) (v := ?_) rfl (by kernel_rfl) (by kernel_rfl) (by kernel_rfl) (fun _ _ _ h => h) (Or.inl ⟨by rfl, ?_⟩) hHeld ?_
        rotate_left
        · intro w hSw; (try dsimp only at hSw); go_simp; try with_reducible rfl
        go_simp
        refine wpAnyH_take (i := 12) (v := ?_) rfl (by kernel_rfl) (by kernel_rfl) (by kernel_rfl) (fun _ _ _ h => h) (Or.inl ⟨by rfl, ?_⟩) hHeld ?_
        rotate_left
        · intro w hSw; (try dsimp only at hSw); go_simp; try with_reducible rfl
        go_simp
        refine wpAnyH_ready (rs := [13]) (by kernel_rfl) (by simp) ?_
        refine AllReadyH.cons rfl (fun K hK => ?_) ?_
        rotate_left
        · exact AllReadyH.nil
        go_simp
        go_wp2_with (fail)
        refine hK.out _ _ (by first | (with_reducible exact MK.out _ hW2) | exact MK.out _ (hW2.alloc hW2.size _) | exact MK.out _ (HB4.out.alloc HB4.out.size _).drew) (fun hHeld => ?_)
        clear hK K
        go_simp
        refine wpAnyH_ready (rs := [14]) (by kernel_rfl) (by simp) ?_
        refine AllReadyH.cons rfl (fun K hK => ?_) ?_
        rotate_left
        · exact AllReadyH.nil
        have x9 : Below w4.heap.size w4 (w4.alloc (.cells #[.int .i64 (x2 - x1), .int .i64 1] 97)).drew := ((Below.refl _ _).alloc (Nat.le_refl _) _).drew
        have R9 : RawAt 97 (w4.alloc (.cells #[.int .i64 (x2 - x1), .int .i64 1] 97)).drew w4.heap.size #[.int .i64 (x2 - x1), .int .i64 1] := heap_alloc_new w4 _
        have hrow := rows_of_block (enc := wencS) (k := 2) wencS_len R9 (l := [(x2 - x1, 1)]) rfl
        have HB10 := HB4.out.trans (x9.mono HB4.out.size)
        refine step_appK (enc := wencS) ST wencS_len (by omega) rfl (.tmp 26) (.tmp 39) rfl (base := W2.heap.size) (v := .slice A3 N c3) (n := N) (xs := kfl wencS (cgrp l [] (S.take j))) (by simp [Act.eval]) (own_below HO4.out x9) (some ⟨w4.heap.size, 0, none⟩) 1 1 [(x2 - x1, 1)] (by simp [Act.eval]) hrow ⟨Nat.le_refl _, fun h => by cases h⟩ rfl (kfl_one' wencS_one _) (by simp only [maxLen]; omega) (by omega) HB10.size ?_
        intro v5 w5 hown5 hg5 hor5
        have HB5 := HB10.grown hg5 HB10.size (fun j hj => (hlt4 j hj).1)
        have hW2 := HB5
        refine hK.out _ _ (by first | (with_reducible exact MK.out _ hW2) | exact MK.out _ (hW2.alloc hW2.size _) | exact MK.out _ (HB4.out.alloc HB4.out.size _).drew) (fun hHeld => ?_)
        clear hK K
        go_simp
        refine wpAnyH_take (i := 15) (v := ?_) rfl (by kernel_rfl) (by kernel_rfl) (by kernel_rfl) (fun _ _ _ h => h) (Or.inl ⟨by rfl, ?_⟩) hHeld ?_
        rotate_left
        · intro w hSw; (try dsimp only at hSw); go_simp; try with_reducible rfl
        go_simp
        refine wpAnyH_done (by kernel_rfl) ?_ _
        refine NoPanic.normal ?_
        have HB5 := Lib.hid HB5
        have HO5 : Hid (w5.ownsRow W2.heap.size 97 2 v5 (N + 1) (kfl wencS (cgrp l [] (S.take (j + 1))))) := Lib.hid (by rw [HG0.out, kfl_append]; exact hown5)
        clear hown5 hg5 hor5 HB10 hrow R9 x9 hW2 MK HO4 HB4
        go_wp2
        go_roundg (gk - 1)
        case measure => omega
        case rel => exact ⟨j + 1, N + 1, by go_num, by omega, by omega, HB5, HO5⟩
    · obtain rfl : j = M := by omega
      have ht : S.take j = S := List.take_of_length_le (by rw [← HM.out]; exact Nat.le_refl _)
      have ho2 := hown.out
      rw [ht] at ho2 hNl
      obtain ⟨A3, c3, rfl⟩ := own_form hown.out
      have HOX : Hid (wr.ownsRow w.heap.size 97 2 (.slice A3 N c3) (cgrp l [] S).length (kfl wencS (cgrp l [] S))) := Lib.hid (by rw [hNl]; exact own_base ho2 X2.out.size)
      have HBX := Lib.hid (X2.out.trans (hb.out.mono X2.out.size))
      have kj : decide ((j : Int) < (j : Int)) = false := decide_eq_false (by omega)
      clear ho2 hb hown hNl
      go_wp2
      go_ret
      exact ⟨_, rfl, HOX.out, HBX.out⟩
end
section
open Go.RowKit
set_option linter.unusedVariables false
set_option maxHeartbeats 16000000 in
set_option maxRecDepth 100000 in
theorem rPlaces16 (n er : Int) (A : Option Addr) (m c : Nat) (o : List In) (B : Option Addr) (k d : Nat) (l : List (Int × Int)) (w : World) (hA : RowsAt encI 5 w A o) (hl : o.length = m) (hm : m ≤ 100) (htx : ∀ a ∈ o, a.tx.size ≤ 1000) (hB : RowsAt wencS 2 w B l) (hlk : l.length = k) (hk : k ≤ 1000000) (hx : ∀ x ∈ l, (-1099511627776 ≤ x.1 ∧ x.1 ≤ 1099511627776) ∧ -1099511627776 ≤ x.2 ∧ x.2 ≤ 1099511627776) :
    Calls Tryz.prog 45 #[.agg #[.int .i64 n, .slice A m c, .int .i64 er], .slice B k d] w fun e w' => ∃ v, e = .returned v ∧ w'.ownsRow w.heap.size 27 2 v k (kfl wencS (l.map (cpl o))) ∧ Below w.heap.size w w' := by
  have ST := cspan_slt
  have x1 : Below w.heap.size w (w.alloc (.cells #[.int .i64 n, .slice A m c, .int .i64 er] 35)) := (Below.refl _ _).alloc (Nat.le_refl _) _
  have r1 : RawAt 35 (w.alloc (.cells #[.int .i64 n, .slice A m c, .int .i64 er] 35)) w.heap.size #[.int .i64 n, .slice A m c, .int .i64 er] := heap_alloc_new w _
  obtain ⟨W1, hW1⟩ : ∃ W1, W1 = w.alloc (.cells #[.int .i64 n, .slice A m c, .int .i64 er] 35) := ⟨_, rfl⟩
  rw [← hW1] at x1 r1
  have HW1 := Lib.hid hW1
  have X1 := Lib.hid x1
  have R1 := Lib.hid r1
  have HSZ : Hid (w.heap.size < W1.heap.size) := Lib.hid r1.lt
  have CO := Lib.hid fun (W : World) (hW : Below W1.heap.size W1 W) (p b : Int) (h0 : -1099511627776 ≤ p) (h1 : p ≤ 1099511627776) => rOut_any n er A m c o p b W (hA.below (X1.out.trans (hW.mono X1.out.size))) hl hm h0 h1 htx
  have HB := Lib.hid hB
  have HK := Lib.hid hlk
  have HX := Lib.hid hx
  clear hA hl hB hlk hx htx hW1 x1 r1
  go_enter Tryz.func45, Tryz.ntmps45
  go_wp2_with fail
  rw [← HW1.out]
  go_wp2_with fail
  go_loopg [5, 10] k (fun g v i wr => ∃ (j : Nat), i = .int .i64 j ∧ j ≤ k ∧ k - j ≤ g ∧ Hid (Below W1.heap.size W1 wr) ∧ Hid (wr.ownsRow W1.heap.size 27 2 v j (kfl wencS ((l.take j).map (cpl o)))))
  case atStart => exact ⟨0, rfl, by omega, by omega, Lib.hid (Below.refl _ _), Lib.hid (World.ownsRow_nil _ _ _ _)⟩
  case round =>
    obtain ⟨j, rfl, j1, j2, hb, hown⟩ := hrel
    by_cases hlt : j < k
    · have hjl : j < l.length := by rw [HK.out]; exact hlt
      obtain ⟨bB, off, rfl, hbB, d0, d1⟩ := wrowsS (HB.out.below (X1.out.trans (hb.out.mono X1.out.size))) hjl
      have htk : (l.take (j + 1)).map (cpl o) = (l.take j).map (cpl o) ++ [cpl o l[j]] := by rw [List.take_succ_eq_append_getElem hjl, List.map_append]; rfl
      have HTK := Lib.hid htk
      have hxb := HX.out _ (List.getElem_mem hjl)
      clear htk
      generalize l[j] = x at *
      obtain ⟨x1, x2⟩ := x
      simp only at d0 d1 hxb
      have i1 : (0 : Int) ≤ j := by omega
      have i2 : (j : Int) < k := by omega
      have kj : decide ((j : Int) < (k : Int)) = true := decide_eq_true i2
      have x3 : Below wr.heap.size wr (wr.alloc (.cells #[.int .i64 x1, .int .i64 x2] 27)) := (Below.refl _ _).alloc (Nat.le_refl _) _
      have R3 : RawAt 27 (wr.alloc (.cells #[.int .i64 x1, .int .i64 x2] 27)) wr.heap.size #[.int .i64 x1, .int .i64 x2] := heap_alloc_new wr _
      have HB3 := Lib.hid (hb.out.trans (x3.mono hb.out.size))
      have HO3 := Lib.hid (own_below hown.out x3)
      have RB3 := RawAt.below R1.out HB3.out R1.out.lt
      obtain ⟨A3, c3, rfl⟩ := own_form HO3.out
      have hlt4 := hown.out.lt
      have CO1 := Lib.hid fun (W : World) (hW : Below W1.heap.size W1 W) => CO.out W hW x1 1 hxb.1.1 hxb.1.2
      have CO2 := Lib.hid fun (W : World) (hW : Below W1.heap.size W1 W) => CO.out W hW x2 0 hxb.2.1 hxb.2.2
      have HCPL : Hid (cpl o (x1, x2) = (x1 + wosum x1 1 o, x2 + wosum x2 0 o)) := Lib.hid rfl
      rw [HCPL.out] at HTK
      generalize x1 + wosum x1 1 o = z1 at *
      generalize x2 + wosum x2 0 o = z2 at *
      have HWR : Hid (W1.heap.size ≤ wr.heap.size) := Lib.hid hb.out.size
      have MK : Hid (∀ W : World, RawAt 35 W w.heap.size #[.int .i64 n, .slice A m c, .int .i64 er] → RawAt 27 W wr.heap.size #[.int .i64 x1, .int .i64 x2] → (fun W : World => (W.cell? ⟨w.heap.size, 0, none⟩ = some (.int .i64 n) ∧ W.cell? ⟨w.heap.size, 1, none⟩ = some (.slice A m c) ∧ W.cell? ⟨w.heap.size, 2, none⟩ = some (.int .i64 er)) ∧ W.cell? ⟨wr.heap.size, 0, none⟩ = some (.int .i64 x1) ∧ W.cell? ⟨wr.heap.size, 1, none⟩ = some (.int .i64 x2)) W) := Lib.hid fun W h0 h1 => ⟨⟨RawAt.cell h0 0, RawAt.cell h0 1, RawAt.cell h0 2⟩, RawAt.cell h1 0, RawAt.cell h1 1⟩
      clear hown hb HCPL
      go_wp2_with fail
      generalize wr.alloc (.cells #[.int .i64 x1, .int .i64 x2] 27) = W3 at *
      have hW3 : Below W3.heap.size W3 W3.drew := (Below.refl _ _).drew
      have Rx : RawAt 27 W3.drew wr.heap.size #[.int .i64 x1, .int .i64 x2] := R3
      have Rb : RawAt 35 W3.drew w.heap.size #[.int .i64 n, .slice A m c, .int .i64 er] := RB3
      refine wp_region_noPanic ?_
      refine wp_region_held_drew (S := (fun W => (W.cell? ⟨w.heap.size, 0, none⟩ = some (.int .i64 n) ∧ W.cell? ⟨w.heap.size, 1, none⟩ = some (.slice A m c) ∧ W.cell? ⟨w.heap.size, 2, none⟩ = some (.int .i64 er)) ∧ W.cell? ⟨wr.heap.size, 0, none⟩ = some (.int .i64 x1) ∧ W.cell? ⟨wr.heap.size, 1, none⟩ = some (.int .i64 x2))) (by kernel_rfl) (MK.out _ Rb Rx) (fun hHeld => ?_)
      refine wpAnyH_take (i := 0) (v := ?_) rfl (by kernel_rfl) (by kernel_rfl) (by kernel_rfl) (fun _ _ _ h => h) (Or.inl ⟨by rfl, ?_⟩) hHeld ?_
      rotate_left
      · intro w hSw; (try dsimp only at hSw); go_simp; try with_reducible rfl
      go_simp
      refine wpAnyH_take (i := 1) (v := ?_) rfl (by kernel_rfl) (by kernel_rfl) (by kernel_rfl) (fun _ _ _ h => h) (Or.inl ⟨by rfl, ?_⟩) hHeld ?_
      rotate_left
      · intro w hSw; (try dsimp only at hSw); go_simp; try with_reducible rfl
      go_simp
      refine wpAnyH_take (i := 2) (v := ?_) rfl (by kernel_rfl) (by kernel_rfl) (by kernel_rfl) (fun _ _ _ h => h) (Or.inl ⟨by rfl, ?_⟩) hHeld ?_
      rotate_left
      · intro w hSw; (try dsimp only at hSw); go_simp; try with_reducible rfl
      go_simp
      refine wpAnyH_take (i := 3) (v := ?_) rfl (by kernel_rfl) (by kernel_rfl) (by kernel_rfl) (fun _ _ _ h => h) (Or.inl ⟨by rfl, ?_⟩) hHeld ?_
      rotate_left
      · intro w hSw; (try dsimp only at hSw); go_simp; try with_reducible rfl
      go_simp
      refine wpAnyH_take (i := 5) (v := ?_) rfl (by kernel_rfl) (by kernel_rfl) (by kernel_rfl) (fun _ _ _ h => h) (Or.inl ⟨by rfl, ?_⟩) hHeld ?_
      rotate_left
      · intro w hSw; (try dsimp only at hSw); go_simp; try with_reducible rfl
      go_simp
      refine wpAnyH_take (i := 6) (v := ?_) rfl (by kernel_rfl) (by kernel_rfl) (by kernel_rfl) (fun _ _ _ h => h) (Or.inl ⟨by rfl, ?_⟩) hHeld ?_
      rotate_left
      · intro w hSw; (try dsimp only at hSw); go_simp; try with_reducible rfl
      go_simp
      refine wpAnyH_take (i := 7) (v := ?_) rfl (by kernel_rfl) (by kernel_rfl) (by kernel_rfl) (fun _ _ _ h => h) (Or.inl ⟨by rfl, ?_⟩) hHeld ?_
      rotate_left
      · intro w hSw; (try dsimp only at hSw); go_simp; try with_reducible rfl
      go_simp
      refine wpAnyH_ready (rs := [4]) (by kernel_rfl) (by simp) ?_
      refine AllReadyH.cons rfl (fun K hK => ?_) ?_
      rotate_left
      · exact AllReadyH.nil
      go_simp
      go_wp2_with (first | (go_at_call 11; (with_reducible first | refine (CO1.out _ (HB3.out.trans (hW3.mono HB3.out.size))).mono ?_ | refine (CO2.out _ (HB3.out.trans (hW3.mono HB3.out.size))).mono ?_); rintro e w9 ⟨rfl, b9⟩; have Rx := RawAt.below Rx b9 Rx.lt; have Rb := RawAt.below Rb b9 Rb.lt; have hW3 := hW3.trans (b9.mono hW3.size)))
      refine hK.out _ _ (by first | (with_reducible exact MK.out _ Rb Rx) | exact MK.out _ (RawAt.below Rb ((Below.refl _ _).alloc (Nat.le_refl _) _) Rb.lt) (RawAt.below Rx ((Below.refl _ _).alloc (Nat.le_refl _) _) Rx.lt)) (fun hHeld => ?_)
      clear hK K
      go_simp
      refine wpAnyH_ready (rs := [8]) (by kernel_rfl) (by simp) ?_
      refine AllReadyH.cons rfl (fun K hK => ?_) ?_
      rotate_left
      · exact AllReadyH.nil
      go_simp
      go_wp2_with (first | (go_at_call 11; (with_reducible first | refine (CO1.out _ (HB3.out.trans (hW3.mono HB3.out.size))).mono ?_ | refine (CO2.out _ (HB3.out.trans (hW3.mono HB3.out.size))).mono ?_); rintro e w9 ⟨rfl, b9⟩; have Rx := RawAt.below Rx b9 Rx.lt; have Rb := RawAt.below Rb b9 Rb.lt; have hW3 := hW3.trans (b9.mono hW3.size)))
      refine hK.out _ _ (by first | (with_reducible exact MK.out _ Rb Rx) | exact MK.out _ (RawAt.below Rb ((Below.refl _ _).alloc (Nat.le_refl _) _) Rb.lt) (RawAt.below Rx ((Below.refl _ _).alloc (Nat.le_refl _) _) Rx.lt)) (fun hHeld => ?_)
      clear hK K
      go_simp
      refine wpAnyH_take (i := 9) (v := ?_) rfl (by kernel_rfl) (by kernel_rfl) (by kernel_rfl) (fun _ _ _ h => h) (Or.inl ⟨by rfl, ?_⟩) hHeld ?_
      rotate_left
      · intro w hSw; (try dsimp only at hSw); go_simp; try with_reducible rfl
      go_simp
      refine wpAnyH_ready (rs := [10]) (by kernel_rfl) (by simp) ?_
      refine AllReadyH.cons rfl (fun K hK => ?_) ?_
      rotate_left
      · exact AllReadyH.nil
      go_simp
      go_wp2_with (first | (go_at_call 11; (with_reducible first | refine (CO1.out _ (HB3.out.trans (hW3.mono HB3.out.size))).mono ?_ | refine (CO2.out _ (HB3.out.trans (hW3.mono HB3.out.size))).mono ?_); rintro e w9 ⟨rfl, b9⟩; have Rx := RawAt.below Rx b9 Rx.lt; have Rb := RawAt.below Rb b9 Rb.lt; have hW3 := hW3.trans (b9.mono hW3.size)))
      refine hK.out _ _ (by first | (with_reducible exact MK.out _ Rb Rx) | exact MK.out _ (RawAt.below Rb ((Below.refl _ _).alloc (Nat.le_refl _) _) Rb.lt) (RawAt.below Rx ((Below.refl _ _).alloc (Nat.le_refl _) _) Rx.lt)) (fun hHeld => ?_)
      clear hK K
      go_simp
      refine wpAnyH_ready (rs := [11]) (by kernel_rfl) (by simp) ?_
      refine AllReadyH.cons rfl (fun K hK => ?_) ?_
      rotate_left
      · exact AllReadyH.nil
      have x9 : Below w9.heap.size w9 (w9.alloc (.cells #[.int .i64 z1, .int .i64 z2] 27)) := (Below.refl _ _).alloc (Nat.le_refl _) _
      have R9 : RawAt 27 (w9.alloc (.cells #[.int .i64 z1, .int .i64 z2] 27)) w9.heap.size #[.int .i64 z1, .int .i64 z2] := heap_alloc_new w9 _
      have hrow := rows_of_block (enc := wencS) (k := 2) wencS_len R9 (l := [(z1, z2)]) rfl
      have HB9 := HB3.out.trans (hW3.mono HB3.out.size)
      have HB10 := HB9.trans (x9.mono HB9.size)
      refine step_appK (enc := wencS) ST wencS_len (by omega) rfl (.tmp 14) (.tmp 24) rfl (base := W1.heap.size) (v := .slice A3 j c3) (n := j) (xs := kfl wencS ((l.take j).map (cpl o))) (by simp [Act.eval]) (own_below (own_below HO3.out hW3) x9) (some ⟨w9.heap.size, 0, none⟩) 1 1 [(z1, z2)] (by simp [Act.eval]) hrow ⟨Nat.le_refl _, fun h => by cases h⟩ rfl (kfl_one' wencS_one _) (by simp only [maxLen]; omega) (by omega) HB10.size ?_
      intro v5 w5 hown5 hg5 hor5
      have HB5 := HB10.grown hg5 HB10.size (fun j hj => (hlt4 j hj).1)
      have Rx10 := RawAt.below Rx x9 Rx.lt
      have Rb10 := RawAt.below Rb x9 Rb.lt
      have Rx : RawAt 27 w5 wr.heap.size #[.int .i64 x1, .int .i64 x2] := (hg5.block wr.heap.size Rx10.lt (fun hk => by have := (hlt4 _ hk.symm).2; omega)).trans Rx10
      have Rb : RawAt 35 w5 w.heap.size #[.int .i64 n, .slice A m c, .int .i64 er] := (hg5.block w.heap.size Rb10.lt (fun hk => by have := (hlt4 _ hk.symm).1; have := HSZ.out; omega)).trans Rb10
      refine hK.out _ _ (by first | (with_reducible exact MK.out _ Rb Rx) | exact MK.out _ (RawAt.below Rb ((Below.refl _ _).alloc (Nat.le_refl _) _) Rb.lt) (RawAt.below Rx ((Below.refl _ _).alloc (Nat.le_refl _) _) Rx.lt)) (fun hHeld => ?_)
      clear hK K
      go_simp
      refine wpAnyH_take (i := 12) (v := ?_) rfl (by kernel_rfl) (by kernel_rfl) (by kernel_rfl) (fun _ _ _ h => h) (Or.inl ⟨by rfl, ?_⟩) hHeld ?_
      rotate_left
      · intro w hSw; (try dsimp only at hSw); go_simp; try with_reducible rfl
      go_simp
      refine wpAnyH_done (by kernel_rfl) ?_ _
      refine NoPanic.normal ?_
      have HB5 := Lib.hid HB5
      have HO5 : Hid (w5.ownsRow W1.heap.size 27 2 v5 (j + 1) (kfl wencS ((l.take (j + 1)).map (cpl o)))) := Lib.hid (by rw [HTK.out, kfl_append]; exact hown5)
      clear hown5 hg5 hor5 HB10 HB9 hrow R9 x9 Rx10 Rb10 Rx Rb hW3 MK HO3 HB3 R3 RB3
      go_wp2
      go_roundg (gk - 1)
      case measure => omega
      case rel => exact ⟨j + 1, by go_num, by omega, by omega, HB5, HO5⟩
    · obtain rfl : j = k := by omega
      have ht : l.take j = l := List.take_of_length_le (by rw [HK.out]; exact Nat.le_refl _)
      have ho2 := hown.out
      rw [ht] at ho2
      obtain ⟨A3, c3, rfl⟩ := own_form hown.out
      have HOX : Hid (wr.ownsRow w.heap.size 27 2 (.slice A3 j c3) j (kfl wencS (l.map (cpl o)))) := Lib.hid (own_base ho2 X1.out.size)
      have HBX := Lib.hid (X1.out.trans (hb.out.mono X1.out.size))
      have kj : decide ((j : Int) < (j : Int)) = false := decide_eq_false (by omega)
      clear ho2 hb hown
      go_wp2
      go_ret
      exact ⟨_, rfl, HOX.out, HBX.out⟩
end
section
open Go.RowKit Go.Sort
set_option linter.unusedVariables false
theorem crP_tag : ∀ (l : List (Int × Int)) (f t : Int), ∀ i ∈ crP f l t, i.id = 0 ∧ (i.tag = 0 ∨ i.tag = 1)
  | [], f, t, i, hi => by
    rw [crP_nil] at hi
    unfold cgap at hi
    split at hi
    · rw [List.mem_singleton.1 hi]; exact ⟨rfl, .inl rfl⟩
    · cases hi
  | x :: l, f, t, i, hi => by
    rw [crP_cons] at hi
    rcases List.mem_append.1 hi with hi | hi
    · unfold cgap at hi
      split at hi
      · rw [List.mem_singleton.1 hi]; exact ⟨rfl, .inl rfl⟩
      · cases hi
    · rcases List.mem_append.1 hi with hi | hi
      · unfold cgap at hi
        split at hi
        · rw [List.mem_singleton.1 hi]; exact ⟨rfl, .inr rfl⟩
        · cases hi
      · exact crP_tag l x.2 t i hi
theorem cr_doc {L : List (Int × Int)} {z : Nat} (h : CrOk 0 L z) : cgrp L [] (cstS L z) = cpcs (crP 0 L z) ∧ ((cstS L z).length : Int) = z - crn L ∧ wdsum 0 (crP 0 L z) = z ∧ wdsum 1 (crP 0 L z) = z - crn L := by
  obtain ⟨e0, e1⟩ := crP_sums L 0 z h
  have h1 : cgrp L [] (cstS L z) = cpcs (crP 0 L z) := cgrp_doc h
  have h2 : cstS L z = cst 0 L z := cst_doc h
  have h3 := cst_len L 0 z h
  refine ⟨h1, ?_, ?_, ?_⟩
  · rw [h2, h3]; omega
  · rw [e0]; omega
  · rw [e1]; omega
/-- A text such as the laws go through, its hidden spans right. -/
structure Tx16 (w : World) (n : Nat) (A : Option Addr) (m c : Nat) (l : List In) (B : Option Addr) (k : Nat) (hh : List (Int × Int)) : Prop where
  hA : RowsAt encI 5 w A l
  cap : Caps A m c
  len : l.length = m
  tx : ∀ x ∈ l, x.tx.size ≤ 200
  ok : iwrong n l = 0
  n2 : n ≤ 200
  hm : m ≤ 60
  hB : RowsAt wencS 2 w B hh
  hk : hh.length = k
  k1 : k ≤ 100
theorem Tx16.below {w w' : World} {n : Nat} {A : Option Addr} {m c : Nat} {l : List In} {B : Option Addr} {k : Nat} {hh : List (Int × Int)} (h : Tx16 w n A m c l B k hh) (hb : Below w.heap.size w w') : Tx16 w' n A m c l B k hh :=
  ⟨h.hA.below hb, h.cap, h.len, h.tx, h.ok, h.n2, h.hm, h.hB.below hb, h.hk, h.k1⟩
/-- The inlays in their order; how many runes the woven text has; what is hidden of it. -/
def oI (l : List In) : List In := ord ilt (l.map icl)
def zI (n : Nat) (l : List In) : Nat := (wdS (oI l) n (n + 1) 0).length
theorem Tx16.set {w : World} {n : Nat} {A : Option Addr} {m c : Nat} {l : List In} {B : Option Addr} {k : Nat} {hh : List (Int × Int)} (h : Tx16 w n A m c l B k hh) : wOSet n (oI l) := woset_new h.ok h.tx
theorem Tx16.olen {w : World} {n : Nat} {A : Option Addr} {m c : Nat} {l : List In} {B : Option Addr} {k : Nat} {hh : List (Int × Int)} (h : Tx16 w n A m c l B k hh) : (oI l).length = m := by
  unfold oI
  rw [(ord_perm ilt ilt_swo _).length_eq, List.length_map]
  exact h.len
theorem Tx16.zis {w : World} {n : Nat} {A : Option Addr} {m c : Nat} {l : List In} {B : Option Addr} {k : Nat} {hh : List (Int × Int)} (h : Tx16 w n A m c l B k hh) : (zI n l : Int) = n + wosum n 1 (oI l) ∧ zI n l ≤ 100000 := by
  obtain ⟨_, _, d3, _, d5⟩ := wv_doc h.set.wv
  have e : (zI n l : Int) = n + wosum n 1 (oI l) := d3.trans d5
  have := (wosum_bd n 1 1000 (oI l) (fun a ha => Nat.le_trans (dec_len a.tx) (h.set.each a ha).2)).2
  rw [h.olen] at this
  have := h.hm
  have := h.n2
  exact ⟨e, by omega⟩
theorem Tx16.cr {w : World} {n : Nat} {A : Option Addr} {m c : Nat} {l : List In} {B : Option Addr} {k : Nat} {hh : List (Int × Int)} (h : Tx16 w n A m c l B k hh) (hr : RtOk 0 hh n) : CrOk 0 (hh.map (cpl (oI l))) (zI n l) := by
  rw [h.zis.1]
  exact RtOk.cr (oI l) hr (by omega) (by have := wosum_pos (oI l) 0 0; omega)
set_option maxHeartbeats 8000000 in
set_option maxRecDepth 100000 in
theorem size16_any {n : Nat} {A : Option Addr} {m c : Nat} {l : List In} {B : Option Addr} {k : Nat} {hh : List (Int × Int)} {w : World} (d : Nat) (h : Tx16 w n A m c l B k hh) :
    Calls Tryz.prog 14 #[.agg #[.int .i64 n, .slice A m c, .slice B k d]] w fun e w' => e = .returned (.int .i64 (zI n l)) ∧ Below w.heap.size w w' := by
  have x1 : Below w.heap.size w (w.alloc (.cells #[.int .i64 n, .slice A m c, .slice B k d] 25)) := (Below.refl _ _).alloc (Nat.le_refl _) _
  have r1 : RawAt 25 (w.alloc (.cells #[.int .i64 n, .slice A m c, .slice B k d] 25)) w.heap.size #[.int .i64 n, .slice A m c, .slice B k d] := heap_alloc_new w _
  obtain ⟨W1, hW1⟩ : ∃ W1, W1 = w.alloc (.cells #[.int .i64 n, .slice A m c, .slice B k d] 25) := ⟨_, rfl⟩
  rw [← hW1] at x1 r1
  have HW1 := Lib.hid hW1
  have X1 := Lib.hid x1
  have R1 := Lib.hid r1
  have y0 : W1.cell? ⟨w.heap.size, 0, none⟩ = some (.int .i64 n) := RawAt.cell r1 0
  have y1 : W1.cell? ⟨w.heap.size, 1, none⟩ = some (.slice A m c) := RawAt.cell r1 1
  have y2 : W1.cell? ⟨w.heap.size, 2, none⟩ = some (.slice B k d) := RawAt.cell r1 2
  clear hW1 x1 r1
  have CN := Lib.hid (rNew13_any n A m c l W1 (h.hA.below X1.out) h.cap h.len (fun x hx => Nat.le_trans (h.tx x hx) (by omega)) 0 h.ok)
  have HS := Lib.hid h.set
  have HL := Lib.hid h.len
  have HOL := Lib.hid h.olen
  have n2 := h.n2
  have hm := h.hm
  unfold zI
  have HOI : Hid (oI l = ord ilt (l.map icl)) := Lib.hid rfl
  generalize oI l = o at *
  clear h
  go_enter Tryz.func14, Tryz.ntmps14
  go_wp2_with fail
  rw [← HW1.out]
  go_wp2_with fail
  with_reducible refine (CN.out).mono ?_
  rintro e w4 ⟨nn, A2, m2, c2, rfl, hres, b4⟩
  obtain ⟨h1, h2, hR⟩ := hres (by first | exact trivial | rfl)
  rw [HL.out] at h2
  rw [← HOI.out] at hR
  have h1 := h1.symm
  subst h1
  have h2 := h2.symm
  subst h2
  have HB4 := Lib.hid (X1.out.trans (b4.mono X1.out.size))
  have CS := Lib.hid (rSpots_any n 0 A2 m c2 o w4 hR HOL.out (by omega) (by omega) (fun a ha => (HS.out.each a ha).2))
  clear hres hR b4 CN y0 y1 y2
  go_wp2_with fail
  with_reducible refine (CS.out).mono ?_
  rintro e w5 ⟨v5, rfl, o5, b5⟩
  have HB5 := Lib.hid (HB4.out.trans (b5.mono HB4.out.size))
  obtain ⟨A5, c5, rfl⟩ := own_form o5
  clear o5 b5 CS HB4
  go_wp2
  go_ret
  exact ⟨rfl, HB5.out⟩
set_option maxHeartbeats 8000000 in
set_option maxRecDepth 100000 in
theorem places16_any {n : Nat} {A : Option Addr} {m c : Nat} {l : List In} {B : Option Addr} {k : Nat} {hh : List (Int × Int)} {w : World} (d : Nat) (h : Tx16 w n A m c l B k hh) (hr : RtOk 0 hh n) :
    Calls Tryz.prog 15 #[.agg #[.int .i64 n, .slice A m c, .slice B k d]] w fun e w' => ∃ v, e = .returned v ∧ w'.ownsRow w.heap.size 27 2 v k (kfl wencS (hh.map (cpl (oI l)))) ∧ Below w.heap.size w w' := by
  have x1 : Below w.heap.size w (w.alloc (.cells #[.int .i64 n, .slice A m c, .slice B k d] 25)) := (Below.refl _ _).alloc (Nat.le_refl _) _
  have r1 : RawAt 25 (w.alloc (.cells #[.int .i64 n, .slice A m c, .slice B k d] 25)) w.heap.size #[.int .i64 n, .slice A m c, .slice B k d] := heap_alloc_new w _
  obtain ⟨W1, hW1⟩ : ∃ W1, W1 = w.alloc (.cells #[.int .i64 n, .slice A m c, .slice B k d] 25) := ⟨_, rfl⟩
  rw [← hW1] at x1 r1
  have HW1 := Lib.hid hW1
  have X1 := Lib.hid x1
  have R1 := Lib.hid r1
  have y0 : W1.cell? ⟨w.heap.size, 0, none⟩ = some (.int .i64 n) := RawAt.cell r1 0
  have y1 : W1.cell? ⟨w.heap.size, 1, none⟩ = some (.slice A m c) := RawAt.cell r1 1
  have y2 : W1.cell? ⟨w.heap.size, 2, none⟩ = some (.slice B k d) := RawAt.cell r1 2
  clear hW1 x1 r1
  have CN := Lib.hid fun (W : World) (hW : Below W1.heap.size W1 W) => rNew13_any n A m c l W ((h.hA.below X1.out).below hW) h.cap h.len (fun x hx => Nat.le_trans (h.tx x hx) (by omega)) 0 h.ok
  have HS := Lib.hid h.set
  have HL := Lib.hid h.len
  have HOL := Lib.hid h.olen
  have n2 := h.n2
  have hm := h.hm
  have k1 := h.k1
  have hxb : ∀ x ∈ hh, (-1099511627776 ≤ x.1 ∧ x.1 ≤ 1099511627776) ∧ -1099511627776 ≤ x.2 ∧ x.2 ≤ 1099511627776 := fun x hx => by
    have := hr.each x hx
    omega
  have HOI : Hid (oI l = ord ilt (l.map icl)) := Lib.hid rfl
  generalize oI l = o at *
  have CP := Lib.hid fun (A2 : Option Addr) (c2 : Nat) (W : World) (hR : RowsAt encI 5 W A2 o) (hW : Below W1.heap.size W1 W) => rPlaces16 n 0 A2 m c2 o B k d hh W hR HOL.out (by omega) (fun a ha => (HS.out.each a ha).2) ((h.hB.below X1.out).below hW) h.hk (by omega) hxb
  have MK : Hid (∀ W : World, Below W1.heap.size W1 W → (fun W : World => W.cell? ⟨w.heap.size, 0, none⟩ = some (.int .i64 n) ∧ W.cell? ⟨w.heap.size, 1, none⟩ = some (.slice A m c) ∧ W.cell? ⟨w.heap.size, 2, none⟩ = some (.slice B k d)) W) := Lib.hid fun W hW => by
    have q := RawAt.below R1.out hW R1.out.lt
    exact ⟨RawAt.cell q 0, RawAt.cell q 1, RawAt.cell q 2⟩
  clear h hr hxb y0 y1 y2
  have hW2 : Below W1.heap.size W1 W1.drew := (Below.refl _ _).drew
  go_enter Tryz.func15, Tryz.ntmps15
  go_wp2_with fail
  rw [← HW1.out]
  refine wp_region_noPanic ?_
  refine wp_region_held_drew (S := (fun W => W.cell? ⟨w.heap.size, 0, none⟩ = some (.int .i64 n) ∧ W.cell? ⟨w.heap.size, 1, none⟩ = some (.slice A m c) ∧ W.cell? ⟨w.heap.size, 2, none⟩ = some (.slice B k d))) (by kernel_rfl) (MK.out _ hW2) (fun hHeld => ?_)
  refine wpAnyH_take (i := 0) (v := ?_) rfl (by kernel_rfl) (by kernel_rfl) (by kernel_rfl) (fun _ _ _ h => h) (Or.inl ⟨by rfl, ?_⟩) hHeld ?_
  rotate_left
  · intro w hSw; (try dsimp only at hSw); go_simp; try with_reducible rfl
  go_simp
  refine wpAnyH_take (i := 1) (v := ?_) rfl (by kernel_rfl) (by kernel_rfl) (by kernel_rfl) (fun _ _ _ h => h) (Or.inl ⟨by rfl, ?_⟩) hHeld ?_
  rotate_left
  · intro w hSw; (try dsimp only at hSw); go_simp; try with_reducible rfl
  go_simp
  refine wpAnyH_take (i := 2) (v := ?_) rfl (by kernel_rfl) (by kernel_rfl) (by kernel_rfl) (fun _ _ _ h => h) (Or.inl ⟨by rfl, ?_⟩) hHeld ?_
  rotate_left
  · intro w hSw; (try dsimp only at hSw); go_simp; try with_reducible rfl
  go_simp
  refine wpAnyH_take (i := 3) (v := ?_) rfl (by kernel_rfl) (by kernel_rfl) (by kernel_rfl) (fun _ _ _ h => h) (Or.inl ⟨by rfl, ?_⟩) hHeld ?_
  rotate_left
  · intro w hSw; (try dsimp only at hSw); go_simp; try with_reducible rfl
  go_simp
  refine wpAnyH_take (i := 5) (v := ?_) rfl (by kernel_rfl) (by kernel_rfl) (by kernel_rfl) (fun _ _ _ h => h) (Or.inl ⟨by rfl, ?_⟩) hHeld ?_
  rotate_left
  · intro w hSw; (try dsimp only at hSw); go_simp; try with_reducible rfl
  go_simp
  refine wpAnyH_take (i := 6) (v := ?_) rfl (by kernel_rfl) (by kernel_rfl) (by kernel_rfl) (fun _ _ _ h => h) (Or.inl ⟨by rfl, ?_⟩) hHeld ?_
  rotate_left
  · intro w hSw; (try dsimp only at hSw); go_simp; try with_reducible rfl
  go_simp
  refine wpAnyH_ready (rs := [4]) (by kernel_rfl) (by simp) ?_
  refine AllReadyH.cons rfl (fun K hK => ?_) ?_
  rotate_left
  · exact AllReadyH.nil
  go_simp
  go_wp2_with (first | (go_at_call 7; (with_reducible refine (CN.out _ hW2).mono ?_); rintro e w4 ⟨nn, A2, m2, c2, rfl, hres, b4⟩; obtain ⟨h1, h2, hR⟩ := hres (by first | exact trivial | rfl); rw [HL.out] at h2; rw [← HOI.out] at hR; have h1 := h1.symm; subst h1; have h2 := h2.symm; subst h2; have hW2 := hW2.trans (b4.mono hW2.size); clear hres b4) | (go_at_call 45; (with_reducible refine (CP.out A2 c2 _ hR hW2).mono ?_); rintro e w5 ⟨v5, rfl, o5, b5⟩; have hW2' := hW2; have hW2 := hW2.trans (b5.mono hW2.size)))
  refine hK.out _ _ (by with_reducible exact MK.out _ hW2) (fun hHeld => ?_)
  clear hK K
  go_simp
  refine wpAnyH_ready (rs := [7]) (by kernel_rfl) (by simp) ?_
  refine AllReadyH.cons rfl (fun K hK => ?_) ?_
  rotate_left
  · exact AllReadyH.nil
  go_simp
  go_wp2_with (first | (go_at_call 7; (with_reducible refine (CN.out _ hW2).mono ?_); rintro e w4 ⟨nn, A2, m2, c2, rfl, hres, b4⟩; obtain ⟨h1, h2, hR⟩ := hres (by first | exact trivial | rfl); rw [HL.out] at h2; rw [← HOI.out] at hR; have h1 := h1.symm; subst h1; have h2 := h2.symm; subst h2; have hW2 := hW2.trans (b4.mono hW2.size); clear hres b4) | (go_at_call 45; (with_reducible refine (CP.out A2 c2 _ hR hW2).mono ?_); rintro e w5 ⟨v5, rfl, o5, b5⟩; have hW2' := hW2; have hW2 := hW2.trans (b5.mono hW2.size)))
  refine hK.out _ _ (by with_reducible exact MK.out _ hW2) (fun hHeld => ?_)
  clear hK K
  go_simp
  refine wpAnyH_take (i := 8) (v := ?_) rfl (by kernel_rfl) (by kernel_rfl) (by kernel_rfl) (fun _ _ _ h => h) (Or.inl ⟨by rfl, ?_⟩) hHeld ?_
  rotate_left
  · intro w hSw; (try dsimp only at hSw); go_simp; try with_reducible rfl
  go_simp
  refine wpAnyH_done (by kernel_rfl) ?_ _
  refine NoPanic.normal ?_
  have HB := Lib.hid (X1.out.trans (hW2.mono X1.out.size))
  have HO := Lib.hid (own_base o5 (X1.out.trans (hW2'.mono X1.out.size)).size)
  clear o5 b5 hW2 hW2' hR MK CP CN
  go_wp2
  go_ret
  exact ⟨_, rfl, HO.out, HB.out⟩
set_option maxHeartbeats 8000000 in
set_option maxRecDepth 100000 in
theorem woven16_any {n : Nat} {A : Option Addr} {m c : Nat} {l : List In} {B : Option Addr} {k : Nat} {hh : List (Int × Int)} {w : World} (d : Nat) (h : Tx16 w n A m c l B k hh) (hwf : ∀ a ∈ l, (Lit.int .i64 a.id).wf = true) :
    Calls Tryz.prog 10 #[.agg #[.int .i64 n, .slice A m c, .slice B k d]] w fun e w' => ∃ a h, e = .returned (.pointer (some a)) ∧ WvAt w' (some a) (wvP 0 (oI l) n) h ∧ Below w.heap.size w w' := by
  have x1 : Below w.heap.size w (w.alloc (.cells #[.int .i64 n, .slice A m c, .slice B k d] 25)) := (Below.refl _ _).alloc (Nat.le_refl _) _
  have r1 : RawAt 25 (w.alloc (.cells #[.int .i64 n, .slice A m c, .slice B k d] 25)) w.heap.size #[.int .i64 n, .slice A m c, .slice B k d] := heap_alloc_new w _
  obtain ⟨W1, hW1⟩ : ∃ W1, W1 = w.alloc (.cells #[.int .i64 n, .slice A m c, .slice B k d] 25) := ⟨_, rfl⟩
  rw [← hW1] at x1 r1
  have HW1 := Lib.hid hW1
  have X1 := Lib.hid x1
  have R1 := Lib.hid r1
  have y0 : W1.cell? ⟨w.heap.size, 0, none⟩ = some (.int .i64 n) := RawAt.cell r1 0
  have y1 : W1.cell? ⟨w.heap.size, 1, none⟩ = some (.slice A m c) := RawAt.cell r1 1
  have y2 : W1.cell? ⟨w.heap.size, 2, none⟩ = some (.slice B k d) := RawAt.cell r1 2
  clear hW1 x1 r1
  have CN := Lib.hid (iNew_any n A m c l W1 (h.hA.below X1.out) h.cap h.len hwf (fun x hx => Nat.le_trans (h.tx x hx) (by omega)) 0 h.ok)
  have HS := Lib.hid h.set
  have HOI : Hid (oI l = ord ilt (l.map icl)) := Lib.hid rfl
  generalize oI l = o at *
  clear h
  go_enter Tryz.func10, Tryz.ntmps10
  go_wp2_with fail
  rw [← HW1.out]
  go_wp2_with fail
  with_reducible refine (CN.out).mono ?_
  rintro e w3 ⟨p, rfl, hp1, hp2, b3⟩
  obtain ⟨sb, rfl, hs⟩ := hp2 (by first | exact trivial | rfl)
  rw [← HOI.out] at hs
  have HB3 := Lib.hid (X1.out.trans (b3.mono X1.out.size))
  have CW := Lib.hid (wvNew_set hs HS.out)
  clear b3 hp1 hp2 hs y0 y1 y2 CN
  go_wp2_with fail
  with_reducible refine (CW.out).mono ?_
  rintro e w4 ⟨a, h4, rfl, hT, b4⟩
  have HT := Lib.hid hT
  have HB4 := Lib.hid (HB3.out.trans (b4.mono HB3.out.size))
  clear hT b4 CW HB3
  go_wp2
  go_ret
  exact ⟨a, h4, rfl, HT.out, HB4.out⟩
end
section
open Go.RowKit Go.Sort
set_option linter.unusedVariables false
theorem cr13f (x : Int) (A : Option Addr) (m c : Nat) (r : Int) (w : World) : (Instr.field 35 (.agg #[.int .i64 x, .slice A m c, .int .i64 r]) 2).run Tryz.prog w = .ok (.int .i64 r) w := by kernel_rfl
def Short16 (n : Int) (l : List In) (hh : List (Int × Int)) : Prop := 0 ≤ n ∧ n ≤ 200 ∧ l.length ≤ 60 ∧ hh.length ≤ 100 ∧ (∀ x ∈ l, x.tx.size ≤ 200) ∧ iwrong n l = 0
set_option maxHeartbeats 8000000 in
set_option maxRecDepth 100000 in
theorem long16_any (N : Int) (A : Option Addr) (m c : Nat) (l : List In) (B : Option Addr) (k d : Nat) (hh : List (Int × Int)) (b : Bool) (w : World) (hA : RowsAt encI 5 w A l) (hcap : Caps A m c) (hl : l.length = m) (hm : m ≤ maxLen) (ht : ∀ x ∈ l, x.tx.size ≤ maxLen) (hk : hh.length = k) (hkm : k ≤ maxLen) (hb : b = true ↔ ¬ Short16 N l hh) :
    Calls Tryz.prog 4 #[.agg #[.int .i64 N, .slice A m c, .slice B k d]] w fun e w' => e = .returned (.bool b) ∧ Below w.heap.size w w' := by
  unfold maxLen at hm ht hkm
  have BT : Hid (¬ Short16 N l hh → b = true) := Lib.hid hb.2
  have BF : Hid (Short16 N l hh → b = false) := Lib.hid fun h => by cases b; rfl; exact absurd h (hb.1 rfl)
  have HL := Lib.hid hl
  have HK := Lib.hid hk
  have HTX := Lib.hid ht
  have x1 : Below w.heap.size w (w.alloc (.cells #[.int .i64 N, .slice A m c, .slice B k d] 25)) := (Below.refl _ _).alloc (Nat.le_refl _) _
  have r1 : RawAt 25 (w.alloc (.cells #[.int .i64 N, .slice A m c, .slice B k d] 25)) w.heap.size #[.int .i64 N, .slice A m c, .slice B k d] := heap_alloc_new w _
  obtain ⟨W1, hW1⟩ : ∃ W1, W1 = w.alloc (.cells #[.int .i64 N, .slice A m c, .slice B k d] 25) := ⟨_, rfl⟩
  rw [← hW1] at x1 r1
  have HW1 := Lib.hid hW1
  have X1 := Lib.hid x1
  have R1 := Lib.hid r1
  have y0 : W1.cell? ⟨w.heap.size, 0, none⟩ = some (.int .i64 N) := RawAt.cell r1 0
  have y1 : W1.cell? ⟨w.heap.size, 1, none⟩ = some (.slice A m c) := RawAt.cell r1 1
  have y2 : W1.cell? ⟨w.heap.size, 2, none⟩ = some (.slice B k d) := RawAt.cell r1 2
  clear hW1 x1 r1
  have HA := Lib.hid (hA.below X1.out)
  obtain ⟨r, hr⟩ : ∃ r, r = iwrong N l := ⟨_, rfl⟩
  have CN := Lib.hid fun (W : World) (hW : Below W1.heap.size W1 W) (hs : ∀ x ∈ l, x.tx.size ≤ 200) => rNew13_any N A m c l W ((hA.below X1.out).below hW) hcap hl (fun x hx => Nat.le_trans (hs x hx) (by omega)) r hr.symm
  have HR := Lib.hid hr
  clear hA hcap hl hb ht hr hk
  by_cases g1 : N < 0
  · have k1 : decide (N < 0) = true := decide_eq_true g1
    have hbt : b = true := BT.out fun h => by have := h.1; omega
    subst hbt
    go_enter Tryz.func4, Tryz.ntmps4
    go_wp2_with fail
    rw [← HW1.out]
    go_wp2
    go_ret
    exact ⟨rfl, X1.out⟩
  · have k1 : decide (N < 0) = false := decide_eq_false g1
    by_cases g2 : 200 < N
    · have k2 : decide (200 < N) = true := decide_eq_true g2
      have hbt : b = true := BT.out fun h => by have := h.2.1; omega
      subst hbt
      go_enter Tryz.func4, Tryz.ntmps4
      go_wp2_with fail
      rw [← HW1.out]
      go_wp2
      go_ret
      exact ⟨rfl, X1.out⟩
    · have k2 : decide (200 < N) = false := decide_eq_false g2
      by_cases g3 : 60 < m
      · have k3 : decide ((60 : Int) < (m : Int)) = true := decide_eq_true (by omega)
        have k4 : decide (60 < m) = true := decide_eq_true g3
        have hbt : b = true := BT.out fun h => by have := h.2.2.1; rw [HL.out] at this; omega
        subst hbt
        go_enter Tryz.func4, Tryz.ntmps4
        go_wp2_with fail
        rw [← HW1.out]
        go_wp2
        go_ret
        exact ⟨rfl, X1.out⟩
      · have k3 : decide ((60 : Int) < (m : Int)) = false := decide_eq_false (by omega)
        have k4 : decide (60 < m) = false := decide_eq_false g3
        by_cases g4 : 100 < k
        · have k5 : decide ((100 : Int) < (k : Int)) = true := decide_eq_true (by omega)
          have k6 : decide (100 < k) = true := decide_eq_true g4
          have hbt : b = true := BT.out fun h => by have := h.2.2.2.1; rw [HK.out] at this; omega
          subst hbt
          go_enter Tryz.func4, Tryz.ntmps4
          go_wp2_with fail
          rw [← HW1.out]
          go_wp2
          go_ret
          exact ⟨rfl, X1.out⟩
        · have k5 : decide ((100 : Int) < (k : Int)) = false := decide_eq_false (by omega)
          have k6 : decide (100 < k) = false := decide_eq_false g4
          have HGS := Lib.hid (And.intro g1 (And.intro g2 (And.intro g3 g4)))
          go_enter Tryz.func4, Tryz.ntmps4
          go_wp2_with fail
          rw [← HW1.out]
          go_wp2_with fail
          go_loopg [28] m (fun g i wr => ∃ (j : Nat), i = .int .i64 j ∧ j ≤ m ∧ m - j ≤ g ∧ Hid (∀ x ∈ l.take j, x.tx.size ≤ 200) ∧ Hid (Below W1.heap.size W1 wr))
          case atStart => exact ⟨0, rfl, by omega, by omega, Lib.hid (fun x hx => absurd hx (by simp)), Lib.hid (Below.refl _ _)⟩
          case round =>
            obtain ⟨j, rfl, h1, h2, hs, hb⟩ := hrel
            by_cases hlt : j < m
            · have hjl : j < l.length := by rw [HL.out]; exact hlt
              obtain ⟨bA, off, rfl, hbA, d0, d1, d2, d3, d4⟩ := wrowsW (HA.out.below hb.out) hjl
              have HTK := Lib.hid (List.take_succ_eq_append_getElem hjl)
              have HBAD : Hid (¬ (l[j].tx.size ≤ 200) → b = true) := Lib.hid fun h => BT.out fun hS => h (hS.2.2.2.2.1 _ (List.getElem_mem hjl))
              have hsz := HTX.out _ (List.getElem_mem hjl)
              generalize l[j] = o at *
              have i1 : (0 : Int) ≤ j := by omega
              have i2 : (j : Int) < m := by omega
              have HB3 := Lib.hid (hb.out.trans (((Below.refl wr.heap.size wr).alloc (Nat.le_refl _) (.cells #[.int .i64 o.id, .int .i64 o.pl, .int .i64 o.bi, .int .i64 o.ky, .string o.tx] 56)).mono hb.out.size))
              clear hb
              by_cases q : 200 < o.tx.size
              · have hbt : b = true := HBAD.out (by omega)
                subst hbt
                have HB9 := Lib.hid (X1.out.trans (HB3.out.mono X1.out.size))
                have k5 : decide ((200 : Int) < (o.tx.size : Int)) = true := decide_eq_true (by omega)
                have k6 : decide (200 < o.tx.size) = true := decide_eq_true q
                go_wp2
                go_ret
                exact ⟨rfl, HB9.out⟩
              · have k5 : decide ((200 : Int) < (o.tx.size : Int)) = false := decide_eq_false (by omega)
                have k6 : decide (200 < o.tx.size) = false := decide_eq_false q
                have HS2 : Hid (∀ x ∈ l.take (j + 1), x.tx.size ≤ 200) := Lib.hid (by
                  rw [HTK.out]
                  intro x hx
                  rcases List.mem_append.1 hx with hx | hx
                  · exact hs.out x hx
                  · rw [List.mem_singleton.1 hx]; omega)
                clear hs HBAD
                go_wp2
                go_roundg (gk - 1)
                case measure => omega
                case rel => exact ⟨j + 1, by go_num, by omega, by omega, HS2, HB3⟩
            · obtain rfl : j = m := by omega
              have h5 := hs.out
              rw [List.take_of_length_le (by rw [HL.out]; exact Nat.le_refl _)] at h5
              have R3 := RawAt.below R1.out hb.out R1.out.lt
              have z0 : wr.cell? ⟨w.heap.size, 0, none⟩ = some (.int .i64 N) := RawAt.cell R3 0
              have z1 : wr.cell? ⟨w.heap.size, 1, none⟩ = some (.slice A j c) := RawAt.cell R3 1
              have CN3 := Lib.hid (CN.out wr hb.out h5)
              have hbt : b = !(r == 0) := by
                by_cases hz : r = 0
                · rw [BF.out ⟨by have := HGS.out.1; omega, by have := HGS.out.2.1; omega, by rw [HL.out]; have := HGS.out.2.2.1; omega, by rw [HK.out]; have := HGS.out.2.2.2; omega, h5, by rw [← HR.out]; exact hz⟩]
                  simp [hz]
                · rw [BT.out fun h => hz (by rw [HR.out]; exact h.2.2.2.2.2)]
                  simp [hz]
              subst hbt
              have HB5 := Lib.hid (X1.out.trans (hb.out.mono X1.out.size))
              clear h5 hs hb R3 CN
              go_wp2_with fail
              with_reducible refine (CN3.out).mono ?_
              rintro e w4 ⟨nn, A2, m2, c2, rfl, hres, b4⟩
              have HB6 := Lib.hid (HB5.out.trans (b4.mono HB5.out.size))
              clear hres b4 HB5
              have F13 := cr13f
              go_wp2
              go_ret
              exact ⟨by first | rfl | simp [bne], HB6.out⟩
end
section
open Go.RowKit Go.Sort
set_option linter.unusedVariables false
set_option maxHeartbeats 16000000 in
set_option maxRecDepth 100000 in
theorem is16_yes {n : Nat} {A : Option Addr} {m c : Nat} {l : List In} {B : Option Addr} {k : Nat} {hh : List (Int × Int)} {w : World} {a : Addr} {h : Nat} (d : Nat) (hx : Tx16 w n A m c l B k hh) (hr : RtOk 0 hh n) (ht : CrAt w (some a) (crP 0 (hh.map (cpl (oI l))) (zI n l)) h) :
    Calls Tryz.prog 17 #[.pointer (some a), .agg #[.int .i64 n, .slice A m c, .slice B k d]] w fun e w' => e = .returned (.bool true) ∧ Below w.heap.size w w' := by
  have hcr := hx.cr hr
  obtain ⟨d1, d2, d3, d4⟩ := cr_doc hcr
  obtain ⟨f1, f2, f3, f4⟩ := cr_facts ht
  have hzb := hx.zis.2
  have k1 := hx.k1
  have hLk : (hh.map (cpl (oI l))).length = k := by rw [List.length_map]; exact hx.hk
  have hpl : (cpcs (crP 0 (hh.map (cpl (oI l))) (zI n l))).length = (crP 0 (hh.map (cpl (oI l))) (zI n l)).length := by unfold cpcs; rw [List.length_map]
  have hbd : ∀ x ∈ hh.map (cpl (oI l)), 0 ≤ x.1 ∧ x.1 ≤ x.2 ∧ x.2 ≤ 1099511627776 := fun x hx => by
    have := CrOk.each hcr x hx
    omega
  have CSZ := Lib.hid fun (W : World) (hW : Below w.heap.size w W) => size16_any d (hx.below hW)
  have CPL := Lib.hid fun (W : World) (hW : Below w.heap.size w W) => places16_any d (hx.below hW) hr
  have CP := Lib.hid fun (W : World) (hW : Below w.heap.size w W) => crPcs (ht.below hW) (crP_tag _ _ _)
  have CZ := Lib.hid fun (W : World) (hW : Below w.heap.size w W) => crSizes (ht.below hW)
  have CH := Lib.hid fun (W : World) (hW : Below w.heap.size w W) => crHeight (ht.below hW)
  have CY := Lib.hid fun (W : World) => high_yes h (crP 0 (hh.map (cpl (oI l))) (zI n l)).length (by omega) f1 f2 (by omega) W
  rw [d3] at CZ
  clear f1 f2 hcr ht hr hx d3
  generalize hh.map (cpl (oI l)) = L at *
  have CPC := Lib.hid fun (A1 : Option Addr) (c1 : Nat) (W : World) (hA : RowsAt wencS 2 W A1 L) => rPieces16 (zI n l) A1 k c1 L W hA hLk (by omega) (by omega) hbd
  have CST := Lib.hid fun (A1 : Option Addr) (c1 : Nat) (W : World) (hA : RowsAt wencS 2 W A1 L) => rStarts16 (zI n l) A1 k c1 L W hA hLk (by omega) (by omega)
  rw [d1, hpl] at CPC
  rw [← d2] at d4
  generalize zI n l = z at *
  generalize hP : cpcs (crP 0 L z) = P at *
  generalize hM : (crP 0 L z).length = M at *
  generalize wdsum 1 (crP 0 L z) = T at *
  generalize hKK : (cstS L z).length = K at *
  generalize hSS : kfl encZ (cstS L z) = SS at *
  have HPL := Lib.hid hpl
  have kt : (T == (K : Int)) = true := by simpa using d4
  have kt' : ((K : Int) == T) = true := by simpa using d4.symm
  have kz : ((z : Int) == (z : Int)) = true := by simp
  have kM : ((M : Int) == (M : Int)) = true := by simp
  clear d1 d2 hbd hLk hpl hP hM hKK hSS d4
  have x1 : Below w.heap.size w (w.alloc (.cells #[.int .i64 n, .slice A m c, .slice B k d] 25)) := (Below.refl _ _).alloc (Nat.le_refl _) _
  have r1 : RawAt 25 (w.alloc (.cells #[.int .i64 n, .slice A m c, .slice B k d] 25)) w.heap.size #[.int .i64 n, .slice A m c, .slice B k d] := heap_alloc_new w _
  obtain ⟨W1, hW1⟩ : ∃ W1, W1 = w.alloc (.cells #[.int .i64 n, .slice A m c, .slice B k d] 25) := ⟨_, rfl⟩
  rw [← hW1] at x1 r1
  have HW1 := Lib.hid hW1
  have X1 := Lib.hid x1
  have R1 := Lib.hid r1
  have y0 : W1.cell? ⟨w.heap.size, 0, none⟩ = some (.int .i64 n) := RawAt.cell r1 0
  have y1 : W1.cell? ⟨w.heap.size, 1, none⟩ = some (.slice A m c) := RawAt.cell r1 1
  have y2 : W1.cell? ⟨w.heap.size, 2, none⟩ = some (.slice B k d) := RawAt.cell r1 2
  clear hW1 x1 r1
  clear y0 y1 y2
  go_enter Tryz.func17, Tryz.ntmps17
  go_wp2_with fail
  rw [← HW1.out]
  with_reducible refine (CP.out _ X1.out).mono ?_
  rintro e w2 ⟨v2, rfl, o2, b2⟩
  have HB2 := Lib.hid (X1.out.trans (b2.mono X1.out.size))
  have HR2 := Lib.hid (R1.out.below b2 R1.out.lt)
  obtain ⟨A2, c2, rfl, hR2, _, _⟩ := rows_of_own wencS_len (by omega) o2
  have HP2 := Lib.hid hR2
  clear b2 o2 hR2 CP X1 HW1 R1
  have MK : Hid (∀ V : World, Below w2.heap.size w2 V → (fun V : World => V.cell? ⟨w.heap.size, 0, none⟩ = some (.int .i64 n) ∧ V.cell? ⟨w.heap.size, 1, none⟩ = some (.slice A m c) ∧ V.cell? ⟨w.heap.size, 2, none⟩ = some (.slice B k d)) V) := Lib.hid fun V hV => by
    have q := RawAt.below HR2.out hV HR2.out.lt
    exact ⟨RawAt.cell q 0, RawAt.cell q 1, RawAt.cell q 2⟩
  have hW2 : Below w2.heap.size w2 w2.drew := (Below.refl _ _).drew
  go_wp2_with fail
  refine wp_region_noPanic ?_
  refine wp_region_held_drew (S := (fun V => V.cell? ⟨w.heap.size, 0, none⟩ = some (.int .i64 n) ∧ V.cell? ⟨w.heap.size, 1, none⟩ = some (.slice A m c) ∧ V.cell? ⟨w.heap.size, 2, none⟩ = some (.slice B k d))) (by kernel_rfl) (MK.out _ hW2) (fun hHeld => ?_)
  refine wpAnyH_take (i := 0) (v := ?_) rfl (by kernel_rfl) (by kernel_rfl) (by kernel_rfl) (fun _ _ _ h => h) (Or.inl ⟨by rfl, ?_⟩) hHeld ?_
  rotate_left
  · intro w hSw; (try dsimp only at hSw); go_simp; try with_reducible rfl
  go_simp
  refine wpAnyH_take (i := 2) (v := ?_) rfl (by kernel_rfl) (by kernel_rfl) (by kernel_rfl) (fun _ _ _ h => h) (Or.inl ⟨by rfl, ?_⟩) hHeld ?_
  rotate_left
  · intro w hSw; (try dsimp only at hSw); go_simp; try with_reducible rfl
  go_simp
  refine wpAnyH_ready (rs := [1]) (by kernel_rfl) (by simp) ?_
  refine AllReadyH.cons rfl (fun K hK => ?_) ?_
  rotate_left
  · exact AllReadyH.nil
  go_simp
  go_wp2_with (first | (go_at_call 14; ((with_reducible refine (CSZ.out _ (HB2.out.trans (hW2.mono HB2.out.size))).mono ?_); rintro e w4 ⟨rfl, b4⟩); have hW2 := hW2.trans (b4.mono hW2.size)) | (go_at_call 15; ((with_reducible refine (CPL.out _ (HB2.out.trans (hW2.mono HB2.out.size))).mono ?_); rintro e w5 ⟨v5, rfl, o5, b5⟩); obtain ⟨A5, c5, rfl, hR5, _, _⟩ := rows_of_own wencS_len (by omega) o5; have hW2 := hW2.trans (b5.mono hW2.size); clear o5) | (go_at_call 47; ((with_reducible refine (CPC.out A5 c5 _ hR5).mono ?_); rintro e w6 ⟨v6, rfl, o6, b6⟩); obtain ⟨A6, c6, rfl, hR6, _, _⟩ := rows_of_own wencS_len (by omega) o6; have hW2 := hW2.trans (b6.mono hW2.size); clear o6 hR5) | (go_at_call 48; ((with_reducible refine (CST.out A5 c5 _ hR5).mono ?_); rintro e w7 ⟨v7, rfl, o7, b7⟩); obtain ⟨A7, c7, rfl⟩ := own_form o7; have hW2 := hW2.trans (b7.mono hW2.size); clear o7 hR5) | (go_at_call 24; ((with_reducible refine (CH.out _ (HB2.out.trans (hW2.mono HB2.out.size))).mono ?_); rintro e w8 ⟨rfl, b8⟩); have hW2 := hW2.trans (b8.mono hW2.size)) | (go_at_call 49; ((with_reducible refine (CY.out _).mono ?_); rintro e w9 ⟨rfl, hw9⟩); have hw9 := hw9.symm; subst hw9))
  refine hK.out _ _ (by with_reducible exact MK.out _ hW2) (fun hHeld => ?_)
  clear hK K
  go_simp
  refine wpAnyH_ready (rs := [3]) (by kernel_rfl) (by simp) ?_
  refine AllReadyH.cons rfl (fun K hK => ?_) ?_
  rotate_left
  · exact AllReadyH.nil
  go_simp
  go_wp2_with (first | (go_at_call 14; ((with_reducible refine (CSZ.out _ (HB2.out.trans (hW2.mono HB2.out.size))).mono ?_); rintro e w4 ⟨rfl, b4⟩); have hW2 := hW2.trans (b4.mono hW2.size)) | (go_at_call 15; ((with_reducible refine (CPL.out _ (HB2.out.trans (hW2.mono HB2.out.size))).mono ?_); rintro e w5 ⟨v5, rfl, o5, b5⟩); obtain ⟨A5, c5, rfl, hR5, _, _⟩ := rows_of_own wencS_len (by omega) o5; have hW2 := hW2.trans (b5.mono hW2.size); clear o5) | (go_at_call 47; ((with_reducible refine (CPC.out A5 c5 _ hR5).mono ?_); rintro e w6 ⟨v6, rfl, o6, b6⟩); obtain ⟨A6, c6, rfl, hR6, _, _⟩ := rows_of_own wencS_len (by omega) o6; have hW2 := hW2.trans (b6.mono hW2.size); clear o6 hR5) | (go_at_call 48; ((with_reducible refine (CST.out A5 c5 _ hR5).mono ?_); rintro e w7 ⟨v7, rfl, o7, b7⟩); obtain ⟨A7, c7, rfl⟩ := own_form o7; have hW2 := hW2.trans (b7.mono hW2.size); clear o7 hR5) | (go_at_call 24; ((with_reducible refine (CH.out _ (HB2.out.trans (hW2.mono HB2.out.size))).mono ?_); rintro e w8 ⟨rfl, b8⟩); have hW2 := hW2.trans (b8.mono hW2.size)) | (go_at_call 49; ((with_reducible refine (CY.out _).mono ?_); rintro e w9 ⟨rfl, hw9⟩); have hw9 := hw9.symm; subst hw9))
  refine hK.out _ _ (by with_reducible exact MK.out _ hW2) (fun hHeld => ?_)
  clear hK K
  go_simp
  refine wpAnyH_ready (rs := [4]) (by kernel_rfl) (by simp) ?_
  refine AllReadyH.cons rfl (fun K hK => ?_) ?_
  rotate_left
  · exact AllReadyH.nil
  go_simp
  go_wp2_with (first | (go_at_call 14; ((with_reducible refine (CSZ.out _ (HB2.out.trans (hW2.mono HB2.out.size))).mono ?_); rintro e w4 ⟨rfl, b4⟩); have hW2 := hW2.trans (b4.mono hW2.size)) | (go_at_call 15; ((with_reducible refine (CPL.out _ (HB2.out.trans (hW2.mono HB2.out.size))).mono ?_); rintro e w5 ⟨v5, rfl, o5, b5⟩); obtain ⟨A5, c5, rfl, hR5, _, _⟩ := rows_of_own wencS_len (by omega) o5; have hW2 := hW2.trans (b5.mono hW2.size); clear o5) | (go_at_call 47; ((with_reducible refine (CPC.out A5 c5 _ hR5).mono ?_); rintro e w6 ⟨v6, rfl, o6, b6⟩); obtain ⟨A6, c6, rfl, hR6, _, _⟩ := rows_of_own wencS_len (by omega) o6; have hW2 := hW2.trans (b6.mono hW2.size); clear o6 hR5) | (go_at_call 48; ((with_reducible refine (CST.out A5 c5 _ hR5).mono ?_); rintro e w7 ⟨v7, rfl, o7, b7⟩); obtain ⟨A7, c7, rfl⟩ := own_form o7; have hW2 := hW2.trans (b7.mono hW2.size); clear o7 hR5) | (go_at_call 24; ((with_reducible refine (CH.out _ (HB2.out.trans (hW2.mono HB2.out.size))).mono ?_); rintro e w8 ⟨rfl, b8⟩); have hW2 := hW2.trans (b8.mono hW2.size)) | (go_at_call 49; ((with_reducible refine (CY.out _).mono ?_); rintro e w9 ⟨rfl, hw9⟩); have hw9 := hw9.symm; subst hw9))
  refine hK.out _ _ (by with_reducible exact MK.out _ hW2) (fun hHeld => ?_)
  clear hK K
  go_simp
  refine wpAnyH_take (i := 5) (v := ?_) rfl (by kernel_rfl) (by kernel_rfl) (by kernel_rfl) (fun _ _ _ h => h) (Or.inl ⟨by rfl, ?_⟩) hHeld ?_
  rotate_left
  · intro w hSw; (try dsimp only at hSw); go_simp; try with_reducible rfl
  go_simp
  refine wpAnyH_done (by kernel_rfl) ?_ _
  refine NoPanic.normal ?_
  have HB6 := Lib.hid hW2
  have HP6 := Lib.hid hR6
  have HP3 := Lib.hid (HP2.out.below hW2)
  clear hR6 hW2 b4 b5 b6 HP2
  go_wp2_with fail
  go_loopg [22] M (fun g i wr => ∃ j : Nat, i = .int .i64 j ∧ j ≤ M ∧ M - j ≤ g ∧ Hid (Below w6.heap.size w6 wr))
  case atStart => exact ⟨0, rfl, by omega, by omega, Lib.hid (Below.refl _ _)⟩
  case round =>
    obtain ⟨j, rfl, j1, j2, hb⟩ := hrel
    by_cases hlt : j < M
    · have hjl : j < P.length := by rw [HPL.out]; exact hlt
      have hb6 := HB6.out
      obtain ⟨bA, off, rfl, hbA, d0, d1⟩ := wrowsS ((HP3.out.below (show Below w6.heap.size w6 w6 from Below.refl _ _)).below hb.out) hjl
      obtain ⟨bB, off2, rfl, hbB, e0, e1⟩ := wrowsS (HP6.out.below hb.out) hjl
      generalize P[j] = it at *
      obtain ⟨p1, p2⟩ := it
      simp only at d0 d1 e0 e1
      have i1 : (0 : Int) ≤ j := by omega
      have i2 : (j : Int) < M := by omega
      have k2 : decide ((M : Int) ≤ j) = false := decide_eq_false (by omega)
      have k3 : decide (M ≤ j) = false := decide_eq_false (by omega)
      have k4 : ¬ ((M : Int) ≤ j) := by omega
      have x3 : Below wr.heap.size wr (wr.alloc (.cells #[.int .i64 p1, .int .i64 p2] 96)) := (Below.refl _ _).alloc (Nat.le_refl _) _
      have R3 : RawAt 96 (wr.alloc (.cells #[.int .i64 p1, .int .i64 p2] 96)) wr.heap.size #[.int .i64 p1, .int .i64 p2] := heap_alloc_new wr _
      have HB3 := Lib.hid (hb.out.trans (x3.mono hb.out.size))
      have g0 : (wr.alloc (.cells #[.int .i64 p1, .int .i64 p2] 96)).cell? ⟨wr.heap.size, 0, none⟩ = some (.int .i64 p1) := RawAt.cell R3 0
      have g1 : (wr.alloc (.cells #[.int .i64 p1, .int .i64 p2] 96)).cell? ⟨wr.heap.size, 1, none⟩ = some (.int .i64 p2) := RawAt.cell R3 1
      have e0' := ((old_cells x3).1 _ (off2 + j * 2) hbB).trans e0
      have e1' := ((old_cells x3).1 _ (off2 + j * 2 + 1) hbB).trans e1
      clear x3 R3 hb hb6 HB6
      obtain ⟨W3, hW3⟩ : ∃ W3, W3 = wr.alloc (.cells #[.int .i64 p1, .int .i64 p2] 96) := ⟨_, rfl⟩
      rw [← hW3] at HB3 g0 g1 e0' e1'
      have HW3 := Lib.hid hW3
      clear hW3
      go_wp2_with fail
      rw [← HW3.out]
      go_quiet (fail)
      have HQ := Lib.hid (drewN_below HB3.out nq)
      clear HB3 g0 g1 e0' e1' d0 d1 e0 e1
      generalize W3.drewN nq = W4 at *
      go_wp2
      go_roundg (gk - 1)
      case measure => omega
      case rel => exact ⟨j + 1, by go_num, by omega, by omega, HQ⟩
    · obtain rfl : j = M := by omega
      have HB7 := Lib.hid (HB6.out.trans (hb.out.mono HB6.out.size))
      have HB8 := Lib.hid (HB2.out.trans (HB7.out.mono HB2.out.size))
      have CZ7 := Lib.hid (CZ.out _ HB8.out)
      clear hb
      go_wp2_with fail
      with_reducible refine (CZ7.out).mono ?_
      rintro e w8 ⟨rfl, b8⟩
      have HB9 := Lib.hid (HB7.out.trans (b8.mono HB7.out.size))
      clear b8 CZ7 CZ
      have hW2 : Below w2.heap.size w2 w8.drew := HB9.out.drew
      go_wp2_with fail
      refine wp_region_noPanic ?_
      refine wp_region_held_drew (S := (fun V => V.cell? ⟨w.heap.size, 0, none⟩ = some (.int .i64 n) ∧ V.cell? ⟨w.heap.size, 1, none⟩ = some (.slice A m c) ∧ V.cell? ⟨w.heap.size, 2, none⟩ = some (.slice B k d))) (by kernel_rfl) (MK.out _ hW2) (fun hHeld => ?_)
      refine wpAnyH_take (i := 0) (v := ?_) rfl (by kernel_rfl) (by kernel_rfl) (by kernel_rfl) (fun _ _ _ h => h) (Or.inl ⟨by rfl, ?_⟩) hHeld ?_
      rotate_left
      · intro w hSw; (try dsimp only at hSw); go_simp; try with_reducible rfl
      go_simp
      refine wpAnyH_take (i := 1) (v := ?_) rfl (by kernel_rfl) (by kernel_rfl) (by kernel_rfl) (fun _ _ _ h => h) (Or.inl ⟨by rfl, ?_⟩) hHeld ?_
      rotate_left
      · intro w hSw; (try dsimp only at hSw); go_simp; try with_reducible rfl
      go_simp
      refine wpAnyH_take (i := 2) (v := ?_) rfl (by kernel_rfl) (by kernel_rfl) (by kernel_rfl) (fun _ _ _ h => h) (Or.inl ⟨by rfl, ?_⟩) hHeld ?_
      rotate_left
      · intro w hSw; (try dsimp only at hSw); go_simp; try with_reducible rfl
      go_simp
      refine wpAnyH_take (i := 3) (v := ?_) rfl (by kernel_rfl) (by kernel_rfl) (by kernel_rfl) (fun _ _ _ h => h) (Or.inl ⟨by rfl, ?_⟩) hHeld ?_
      rotate_left
      · intro w hSw; (try dsimp only at hSw); go_simp; try with_reducible rfl
      go_simp
      refine wpAnyH_take (i := 4) (v := ?_) rfl (by kernel_rfl) (by kernel_rfl) (by kernel_rfl) (fun _ _ _ h => h) (Or.inl ⟨by rfl, ?_⟩) hHeld ?_
      rotate_left
      · intro w hSw; (try dsimp only at hSw); go_simp; try with_reducible rfl
      go_simp
      refine wpAnyH_take (i := 5) (v := ?_) rfl (by kernel_rfl) (by kernel_rfl) (by kernel_rfl) (fun _ _ _ h => h) (Or.inl ⟨by rfl, ?_⟩) hHeld ?_
      rotate_left
      · intro w hSw; (try dsimp only at hSw); go_simp; try with_reducible rfl
      go_simp
      refine wpAnyH_take (i := 6) (v := ?_) rfl (by kernel_rfl) (by kernel_rfl) (by kernel_rfl) (fun _ _ _ h => h) (Or.inl ⟨by rfl, ?_⟩) hHeld ?_
      rotate_left
      · intro w hSw; (try dsimp only at hSw); go_simp; try with_reducible rfl
      go_simp
      refine wpAnyH_take (i := 7) (v := ?_) rfl (by kernel_rfl) (by kernel_rfl) (by kernel_rfl) (fun _ _ _ h => h) (Or.inl ⟨by rfl, ?_⟩) hHeld ?_
      rotate_left
      · intro w hSw; (try dsimp only at hSw); go_simp; try with_reducible rfl
      go_simp
      refine wpAnyH_ready (rs := [8]) (by kernel_rfl) (by simp) ?_
      refine AllReadyH.cons rfl (fun K hK => ?_) ?_
      rotate_left
      · exact AllReadyH.nil
      go_simp
      go_wp2_with (first | (go_at_call 14; ((with_reducible refine (CSZ.out _ (HB2.out.trans (hW2.mono HB2.out.size))).mono ?_); rintro e w4 ⟨rfl, b4⟩); have hW2 := hW2.trans (b4.mono hW2.size)) | (go_at_call 15; ((with_reducible refine (CPL.out _ (HB2.out.trans (hW2.mono HB2.out.size))).mono ?_); rintro e w5 ⟨v5, rfl, o5, b5⟩); obtain ⟨A5, c5, rfl, hR5, _, _⟩ := rows_of_own wencS_len (by omega) o5; have hW2 := hW2.trans (b5.mono hW2.size); clear o5) | (go_at_call 47; ((with_reducible refine (CPC.out A5 c5 _ hR5).mono ?_); rintro e w6 ⟨v6, rfl, o6, b6⟩); obtain ⟨A6, c6, rfl, hR6, _, _⟩ := rows_of_own wencS_len (by omega) o6; have hW2 := hW2.trans (b6.mono hW2.size); clear o6 hR5) | (go_at_call 48; ((with_reducible refine (CST.out A5 c5 _ hR5).mono ?_); rintro e w7 ⟨v7, rfl, o7, b7⟩); obtain ⟨A7, c7, rfl⟩ := own_form o7; have hW2 := hW2.trans (b7.mono hW2.size); clear o7 hR5) | (go_at_call 24; ((with_reducible refine (CH.out _ (HB2.out.trans (hW2.mono HB2.out.size))).mono ?_); rintro e w8 ⟨rfl, b8⟩); have hW2 := hW2.trans (b8.mono hW2.size)) | (go_at_call 49; ((with_reducible refine (CY.out _).mono ?_); rintro e w9 ⟨rfl, hw9⟩); have hw9 := hw9.symm; subst hw9))
      refine hK.out _ _ (by with_reducible exact MK.out _ hW2) (fun hHeld => ?_)
      clear hK K
      go_simp
      refine wpAnyH_take (i := 9) (v := ?_) rfl (by kernel_rfl) (by kernel_rfl) (by kernel_rfl) (fun _ _ _ h => h) (Or.inl ⟨by rfl, ?_⟩) hHeld ?_
      rotate_left
      · intro w hSw; (try dsimp only at hSw); go_simp; try with_reducible rfl
      go_simp
      refine wpAnyH_take (i := 10) (v := ?_) rfl (by kernel_rfl) (by kernel_rfl) (by kernel_rfl) (fun _ _ _ h => h) (Or.inl ⟨by rfl, ?_⟩) hHeld ?_
      rotate_left
      · intro w hSw; (try dsimp only at hSw); go_simp; try with_reducible rfl
      go_simp
      refine wpAnyH_take (i := 11) (v := ?_) rfl (by kernel_rfl) (by kernel_rfl) (by kernel_rfl) (fun _ _ _ h => h) (Or.inl ⟨by rfl, ?_⟩) hHeld ?_
      rotate_left
      · intro w hSw; (try dsimp only at hSw); go_simp; try with_reducible rfl
      go_simp
      refine wpAnyH_take (i := 12) (v := ?_) rfl (by kernel_rfl) (by kernel_rfl) (by kernel_rfl) (fun _ _ _ h => h) (Or.inl ⟨by rfl, ?_⟩) hHeld ?_
      rotate_left
      · intro w hSw; (try dsimp only at hSw); go_simp; try with_reducible rfl
      go_simp
      refine wpAnyH_take (i := 13) (v := ?_) rfl (by kernel_rfl) (by kernel_rfl) (by kernel_rfl) (fun _ _ _ h => h) (Or.inl ⟨by rfl, ?_⟩) hHeld ?_
      rotate_left
      · intro w hSw; (try dsimp only at hSw); go_simp; try with_reducible rfl
      go_simp
      refine wpAnyH_take (i := 15) (v := ?_) rfl (by kernel_rfl) (by kernel_rfl) (by kernel_rfl) (fun _ _ _ h => h) (Or.inl ⟨by rfl, ?_⟩) hHeld ?_
      rotate_left
      · intro w hSw; (try dsimp only at hSw); go_simp; try with_reducible rfl
      go_simp
      refine wpAnyH_ready (rs := [14]) (by kernel_rfl) (by simp) ?_
      refine AllReadyH.cons rfl (fun K hK => ?_) ?_
      rotate_left
      · exact AllReadyH.nil
      go_simp
      go_wp2_with (first | (go_at_call 14; ((with_reducible refine (CSZ.out _ (HB2.out.trans (hW2.mono HB2.out.size))).mono ?_); rintro e w4 ⟨rfl, b4⟩); have hW2 := hW2.trans (b4.mono hW2.size)) | (go_at_call 15; ((with_reducible refine (CPL.out _ (HB2.out.trans (hW2.mono HB2.out.size))).mono ?_); rintro e w5 ⟨v5, rfl, o5, b5⟩); obtain ⟨A5, c5, rfl, hR5, _, _⟩ := rows_of_own wencS_len (by omega) o5; have hW2 := hW2.trans (b5.mono hW2.size); clear o5) | (go_at_call 47; ((with_reducible refine (CPC.out A5 c5 _ hR5).mono ?_); rintro e w6 ⟨v6, rfl, o6, b6⟩); obtain ⟨A6, c6, rfl, hR6, _, _⟩ := rows_of_own wencS_len (by omega) o6; have hW2 := hW2.trans (b6.mono hW2.size); clear o6 hR5) | (go_at_call 48; ((with_reducible refine (CST.out A5 c5 _ hR5).mono ?_); rintro e w7 ⟨v7, rfl, o7, b7⟩); obtain ⟨A7, c7, rfl⟩ := own_form o7; have hW2 := hW2.trans (b7.mono hW2.size); clear o7 hR5) | (go_at_call 24; ((with_reducible refine (CH.out _ (HB2.out.trans (hW2.mono HB2.out.size))).mono ?_); rintro e w8 ⟨rfl, b8⟩); have hW2 := hW2.trans (b8.mono hW2.size)) | (go_at_call 49; ((with_reducible refine (CY.out _).mono ?_); rintro e w9 ⟨rfl, hw9⟩); have hw9 := hw9.symm; subst hw9))
      refine hK.out _ _ (by with_reducible exact MK.out _ hW2) (fun hHeld => ?_)
      clear hK K
      go_simp
      refine wpAnyH_ready (rs := [16]) (by kernel_rfl) (by simp) ?_
      refine AllReadyH.cons rfl (fun K hK => ?_) ?_
      rotate_left
      · exact AllReadyH.nil
      go_simp
      go_wp2_with (first | (go_at_call 14; ((with_reducible refine (CSZ.out _ (HB2.out.trans (hW2.mono HB2.out.size))).mono ?_); rintro e w4 ⟨rfl, b4⟩); have hW2 := hW2.trans (b4.mono hW2.size)) | (go_at_call 15; ((with_reducible refine (CPL.out _ (HB2.out.trans (hW2.mono HB2.out.size))).mono ?_); rintro e w5 ⟨v5, rfl, o5, b5⟩); obtain ⟨A5, c5, rfl, hR5, _, _⟩ := rows_of_own wencS_len (by omega) o5; have hW2 := hW2.trans (b5.mono hW2.size); clear o5) | (go_at_call 47; ((with_reducible refine (CPC.out A5 c5 _ hR5).mono ?_); rintro e w6 ⟨v6, rfl, o6, b6⟩); obtain ⟨A6, c6, rfl, hR6, _, _⟩ := rows_of_own wencS_len (by omega) o6; have hW2 := hW2.trans (b6.mono hW2.size); clear o6 hR5) | (go_at_call 48; ((with_reducible refine (CST.out A5 c5 _ hR5).mono ?_); rintro e w7 ⟨v7, rfl, o7, b7⟩); obtain ⟨A7, c7, rfl⟩ := own_form o7; have hW2 := hW2.trans (b7.mono hW2.size); clear o7 hR5) | (go_at_call 24; ((with_reducible refine (CH.out _ (HB2.out.trans (hW2.mono HB2.out.size))).mono ?_); rintro e w8 ⟨rfl, b8⟩); have hW2 := hW2.trans (b8.mono hW2.size)) | (go_at_call 49; ((with_reducible refine (CY.out _).mono ?_); rintro e w9 ⟨rfl, hw9⟩); have hw9 := hw9.symm; subst hw9))
      refine hK.out _ _ (by with_reducible exact MK.out _ hW2) (fun hHeld => ?_)
      clear hK K
      go_simp
      refine wpAnyH_ready (rs := [17]) (by kernel_rfl) (by simp) ?_
      refine AllReadyH.cons rfl (fun K hK => ?_) ?_
      rotate_left
      · exact AllReadyH.nil
      go_simp
      go_wp2_with (first | (go_at_call 14; ((with_reducible refine (CSZ.out _ (HB2.out.trans (hW2.mono HB2.out.size))).mono ?_); rintro e w4 ⟨rfl, b4⟩); have hW2 := hW2.trans (b4.mono hW2.size)) | (go_at_call 15; ((with_reducible refine (CPL.out _ (HB2.out.trans (hW2.mono HB2.out.size))).mono ?_); rintro e w5 ⟨v5, rfl, o5, b5⟩); obtain ⟨A5, c5, rfl, hR5, _, _⟩ := rows_of_own wencS_len (by omega) o5; have hW2 := hW2.trans (b5.mono hW2.size); clear o5) | (go_at_call 47; ((with_reducible refine (CPC.out A5 c5 _ hR5).mono ?_); rintro e w6 ⟨v6, rfl, o6, b6⟩); obtain ⟨A6, c6, rfl, hR6, _, _⟩ := rows_of_own wencS_len (by omega) o6; have hW2 := hW2.trans (b6.mono hW2.size); clear o6 hR5) | (go_at_call 48; ((with_reducible refine (CST.out A5 c5 _ hR5).mono ?_); rintro e w7 ⟨v7, rfl, o7, b7⟩); obtain ⟨A7, c7, rfl⟩ := own_form o7; have hW2 := hW2.trans (b7.mono hW2.size); clear o7 hR5) | (go_at_call 24; ((with_reducible refine (CH.out _ (HB2.out.trans (hW2.mono HB2.out.size))).mono ?_); rintro e w8 ⟨rfl, b8⟩); have hW2 := hW2.trans (b8.mono hW2.size)) | (go_at_call 49; ((with_reducible refine (CY.out _).mono ?_); rintro e w9 ⟨rfl, hw9⟩); have hw9 := hw9.symm; subst hw9))
      refine hK.out _ _ (by with_reducible exact MK.out _ hW2) (fun hHeld => ?_)
      clear hK K
      go_simp
      refine wpAnyH_take (i := 18) (v := ?_) rfl (by kernel_rfl) (by kernel_rfl) (by kernel_rfl) (fun _ _ _ h => h) (Or.inl ⟨by rfl, ?_⟩) hHeld ?_
      rotate_left
      · intro w hSw; (try dsimp only at hSw); go_simp; try with_reducible rfl
      go_simp
      refine wpAnyH_take (i := 19) (v := ?_) rfl (by kernel_rfl) (by kernel_rfl) (by kernel_rfl) (fun _ _ _ h => h) (Or.inl ⟨by rfl, ?_⟩) hHeld ?_
      rotate_left
      · intro w hSw; (try dsimp only at hSw); go_simp; try with_reducible rfl
      go_simp
      refine wpAnyH_take (i := 20) (v := ?_) rfl (by kernel_rfl) (by kernel_rfl) (by kernel_rfl) (fun _ _ _ h => h) (Or.inl ⟨by rfl, ?_⟩) hHeld ?_
      rotate_left
      · intro w hSw; (try dsimp only at hSw); go_simp; try with_reducible rfl
      go_simp
      refine wpAnyH_take (i := 21) (v := ?_) rfl (by kernel_rfl) (by kernel_rfl) (by kernel_rfl) (fun _ _ _ h => h) (Or.inl ⟨by rfl, ?_⟩) hHeld ?_
      rotate_left
      · intro w hSw; (try dsimp only at hSw); go_simp; try with_reducible rfl
      go_simp
      refine wpAnyH_take (i := 22) (v := ?_) rfl (by kernel_rfl) (by kernel_rfl) (by kernel_rfl) (fun _ _ _ h => h) (Or.inl ⟨by rfl, ?_⟩) hHeld ?_
      rotate_left
      · intro w hSw; (try dsimp only at hSw); go_simp; try with_reducible rfl
      go_simp
      refine wpAnyH_take (i := 24) (v := ?_) rfl (by kernel_rfl) (by kernel_rfl) (by kernel_rfl) (fun _ _ _ h => h) (Or.inl ⟨by rfl, ?_⟩) hHeld ?_
      rotate_left
      · intro w hSw; (try dsimp only at hSw); go_simp; try with_reducible rfl
      go_simp
      refine wpAnyH_take (i := 25) (v := ?_) rfl (by kernel_rfl) (by kernel_rfl) (by kernel_rfl) (fun _ _ _ h => h) (Or.inl ⟨by rfl, ?_⟩) hHeld ?_
      rotate_left
      · intro w hSw; (try dsimp only at hSw); go_simp; try with_reducible rfl
      go_simp
      refine wpAnyH_ready (rs := [23]) (by kernel_rfl) (by simp) ?_
      refine AllReadyH.cons rfl (fun K hK => ?_) ?_
      rotate_left
      · exact AllReadyH.nil
      go_simp
      go_wp2_with (first | (go_at_call 14; ((with_reducible refine (CSZ.out _ (HB2.out.trans (hW2.mono HB2.out.size))).mono ?_); rintro e w4 ⟨rfl, b4⟩); have hW2 := hW2.trans (b4.mono hW2.size)) | (go_at_call 15; ((with_reducible refine (CPL.out _ (HB2.out.trans (hW2.mono HB2.out.size))).mono ?_); rintro e w5 ⟨v5, rfl, o5, b5⟩); obtain ⟨A5, c5, rfl, hR5, _, _⟩ := rows_of_own wencS_len (by omega) o5; have hW2 := hW2.trans (b5.mono hW2.size); clear o5) | (go_at_call 47; ((with_reducible refine (CPC.out A5 c5 _ hR5).mono ?_); rintro e w6 ⟨v6, rfl, o6, b6⟩); obtain ⟨A6, c6, rfl, hR6, _, _⟩ := rows_of_own wencS_len (by omega) o6; have hW2 := hW2.trans (b6.mono hW2.size); clear o6 hR5) | (go_at_call 48; ((with_reducible refine (CST.out A5 c5 _ hR5).mono ?_); rintro e w7 ⟨v7, rfl, o7, b7⟩); obtain ⟨A7, c7, rfl⟩ := own_form o7; have hW2 := hW2.trans (b7.mono hW2.size); clear o7 hR5) | (go_at_call 24; ((with_reducible refine (CH.out _ (HB2.out.trans (hW2.mono HB2.out.size))).mono ?_); rintro e w8 ⟨rfl, b8⟩); have hW2 := hW2.trans (b8.mono hW2.size)) | (go_at_call 49; ((with_reducible refine (CY.out _).mono ?_); rintro e w9 ⟨rfl, hw9⟩); have hw9 := hw9.symm; subst hw9))
      refine hK.out _ _ (by with_reducible exact MK.out _ hW2) (fun hHeld => ?_)
      clear hK K
      go_simp
      refine wpAnyH_ready (rs := [26]) (by kernel_rfl) (by simp) ?_
      refine AllReadyH.cons rfl (fun K hK => ?_) ?_
      rotate_left
      · exact AllReadyH.nil
      go_simp
      go_wp2_with (first | (go_at_call 14; ((with_reducible refine (CSZ.out _ (HB2.out.trans (hW2.mono HB2.out.size))).mono ?_); rintro e w4 ⟨rfl, b4⟩); have hW2 := hW2.trans (b4.mono hW2.size)) | (go_at_call 15; ((with_reducible refine (CPL.out _ (HB2.out.trans (hW2.mono HB2.out.size))).mono ?_); rintro e w5 ⟨v5, rfl, o5, b5⟩); obtain ⟨A5, c5, rfl, hR5, _, _⟩ := rows_of_own wencS_len (by omega) o5; have hW2 := hW2.trans (b5.mono hW2.size); clear o5) | (go_at_call 47; ((with_reducible refine (CPC.out A5 c5 _ hR5).mono ?_); rintro e w6 ⟨v6, rfl, o6, b6⟩); obtain ⟨A6, c6, rfl, hR6, _, _⟩ := rows_of_own wencS_len (by omega) o6; have hW2 := hW2.trans (b6.mono hW2.size); clear o6 hR5) | (go_at_call 48; ((with_reducible refine (CST.out A5 c5 _ hR5).mono ?_); rintro e w7 ⟨v7, rfl, o7, b7⟩); obtain ⟨A7, c7, rfl⟩ := own_form o7; have hW2 := hW2.trans (b7.mono hW2.size); clear o7 hR5) | (go_at_call 24; ((with_reducible refine (CH.out _ (HB2.out.trans (hW2.mono HB2.out.size))).mono ?_); rintro e w8 ⟨rfl, b8⟩); have hW2 := hW2.trans (b8.mono hW2.size)) | (go_at_call 49; ((with_reducible refine (CY.out _).mono ?_); rintro e w9 ⟨rfl, hw9⟩); have hw9 := hw9.symm; subst hw9))
      refine hK.out _ _ (by with_reducible exact MK.out _ hW2) (fun hHeld => ?_)
      clear hK K
      go_simp
      refine wpAnyH_take (i := 27) (v := ?_) rfl (by kernel_rfl) (by kernel_rfl) (by kernel_rfl) (fun _ _ _ h => h) (Or.inl ⟨by rfl, ?_⟩) hHeld ?_
      rotate_left
      · intro w hSw; (try dsimp only at hSw); go_simp; try with_reducible rfl
      go_simp
      refine wpAnyH_take (i := 28) (v := ?_) rfl (by kernel_rfl) (by kernel_rfl) (by kernel_rfl) (fun _ _ _ h => h) (Or.inl ⟨by rfl, ?_⟩) hHeld ?_
      rotate_left
      · intro w hSw; (try dsimp only at hSw); go_simp; try with_reducible rfl
      go_simp
      refine wpAnyH_done (by kernel_rfl) ?_ _
      refine NoPanic.normal ?_
      have HBX := Lib.hid (HB2.out.trans (hW2.mono HB2.out.size))
      clear hW2
      go_wp2
      go_ret
      exact ⟨rfl, HBX.out⟩
end
end Go.Proofs.YtjkmkobnfhepaaaGreat
