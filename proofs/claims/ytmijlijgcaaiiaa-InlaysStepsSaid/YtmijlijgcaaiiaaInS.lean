/- Inlays: the document's times; the law's changes. -/
import Derived.Test.YtmijlijgcaaiiaaInN
import Derived.Test.YtmijlijgcaaiiaaPtF
import Derived.Deep.AppendLies
namespace Go.Proofs.Ytmijlijgcaaiiaa
open Go.RowKit Go.Sort
set_option linter.unusedVariables false
set_option maxHeartbeats 4000000 in
set_option maxRecDepth 100000 in
theorem times13_any (x : Int) (A : Option Addr) (m c : Nat) (l : List Int) (w : World) (hA : IntsAt .i64 w A l) (hl : l.length = m) (hm : m ≤ 1000000) :
    Calls Try.prog 59 #[.int .i64 x, .slice A m c] w fun e w' => e = .returned (.int .i64 ((l.count x : Nat) : Int)) ∧ Below w.heap.size w w' := by
  have HA := Lib.hid hA
  have HL := Lib.hid hl
  clear hA hl
  go_enter Try.func59, Try.ntmps59
  go_wp2_with fail
  go_loopg [5, 10] m (fun g v i wr => ∃ (j k : Nat), i = .int .i64 j ∧ v = .int .i64 k ∧ j ≤ m ∧ m - j ≤ g ∧ k ≤ j ∧ Hid (k = (l.take j).count x) ∧ Hid (Below w.heap.size w wr))
  case atStart => exact ⟨0, 0, rfl, rfl, by omega, by omega, by omega, Lib.hid (by simp), Lib.hid (Below.refl _ _)⟩
  case round =>
    obtain ⟨j, k, rfl, rfl, h1, h2, h3, hk, hb⟩ := hrel
    by_cases hlt : j < m
    · have hjl : j < l.length := by rw [HL.out]; exact hlt
      obtain ⟨b, off, rfl, hbs, hce⟩ := (HA.out.below hb.out) (by omega)
      have q := hce j hjl
      have htk : l.take (j + 1) = l.take j ++ [nth l j] := inm_take hjl
      have HTK := Lib.hid htk
      clear hce htk
      generalize nth l j = z at *
      have i1 : (0 : Int) ≤ j := by omega
      have i2 : (j : Int) < m := by omega
      by_cases hz : z = x
      · have z1 : (z == x) = true := by simp [hz]
        have z2 : decide (z = x) = true := decide_eq_true hz
        have HK : Hid (k + 1 = (l.take (j + 1)).count x) := Lib.hid (by rw [HTK.out, List.count_append, ← hk.out, hz]; simp)
        clear hk hz
        go_wp2
        go_roundg (gk - 1)
        case measure => omega
        case rel => exact ⟨j + 1, k + 1, by go_num, by go_num, by omega, by omega, by omega, HK, hb⟩
      · have z1 : (z == x) = false := by simp [hz]
        have z2 : decide (z = x) = false := decide_eq_false hz
        have HK : Hid (k = (l.take (j + 1)).count x) := Lib.hid (by rw [HTK.out, List.count_append, ← hk.out, List.count_singleton, if_neg (by simp [hz])]; rfl)
        clear hk hz
        go_wp2
        go_roundg (gk - 1)
        case measure => omega
        case rel => exact ⟨j + 1, k, by go_num, rfl, by omega, by omega, by omega, HK, hb⟩
    · obtain rfl : j = m := by omega
      have e : l.take j = l := List.take_of_length_le (by rw [HL.out]; exact Nat.le_refl _)
      have hk2 := hk.out
      rw [e] at hk2
      subst hk2
      clear hk e
      go_wp2
      go_ret
      exact ⟨rfl, hb.out⟩
set_option maxHeartbeats 4000000 in
set_option maxRecDepth 100000 in
theorem ichg_any (A : Option Addr) (n cp : Nat) (l : List Ch) (w : World) (hA : ChsAt w A l) (hl : l.length = n) (hn : n ≤ 1000000) :
    Calls Try.prog 18 #[.slice A n cp] w fun e w' => ∃ A' c', e = .returned (.slice A' n c') ∧ ChsAt w' A' l ∧ Caps A' n c' ∧ Below w.heap.size w w' := by
  have HA := Lib.hid hA; clear hA
  have HL := Lib.hid hl; clear hl
  go_enter Try.func18, Try.ntmps18
  obtain ⟨i0, hi0, hz0, hz1, hz2⟩ := info_parts rchange_info
  go_wp2_with fail
  go_loopg [3, 8] n (fun g v i wr => ∃ (j : Nat), i = .int .i64 j ∧ j ≤ n ∧ n - j ≤ g ∧ Below w.heap.size w wr ∧ Hid (wr.ownsRow w.heap.size 103 4 v j (cflat (l.take j))))
  case atStart => exact ⟨0, rfl, by omega, by omega, Below.refl _ _, Lib.hid (World.ownsRow_nil _ _ _ _)⟩
  case round =>
    obtain ⟨j, rfl, j1, j2, hb, hown⟩ := hrel
    have hlt4 := hown.out.lt
    have hszw := hb.size
    by_cases hlt : j < n
    · have hjl : j < l.length := by rw [HL.out]; exact hlt
      obtain ⟨bA, off, rfl, hbA, d0, d1, d2, d3⟩ := (HA.out.below hb).at1 hjl
      have hsf := Lib.hid (show cflat (l.take (j + 1)) = cflat (l.take j) ++ [.int .i64 (cth l j).oa, .int .i64 (cth l j).ob, .int .i64 (cth l j).na, .int .i64 (cth l j).nb] from by rw [cth_take hjl, cflat_append]; rfl)
      generalize cth l j = c at *
      have i1 : (0 : Int) ≤ j := by omega
      have i2 : (j : Int) < n := by omega
      have x3 : Below wr.heap.size wr (wr.alloc (.cells #[.int .i64 c.oa, .int .i64 c.ob, .int .i64 c.na, .int .i64 c.nb] 79)) := (Below.refl _ _).alloc (Nat.le_refl _) _
      have a3 := hb.trans (x3.mono hb.size)
      have a4 := (hb.alloc hb.size (.cells #[.int .i64 c.oa, .int .i64 c.ob, .int .i64 c.na, .int .i64 c.nb] 79)).alloc (by simp; omega) (.cells #[.int .i64 c.oa, .int .i64 c.ob, .int .i64 c.na, .int .i64 c.nb] 103)
      go_wp2_with (at_builtin; refine wpList_append_own _ rfl (.tmp 12) (.tmp 18) _ rfl w.heap.size 103 i0 _ 4 32 Try.underlying40 hi0 hz0 hz1 hz2 rfl (by omega) _ j (cflat (l.take j)) rfl ((hown.out.alloc _).alloc _) ⟨wr.heap.size + 1, 0, none⟩ 1 1 [.int .i64 c.oa, .int .i64 c.ob, .int .i64 c.na, .int .i64 c.nb] rfl rfl (World.news_of_block (cs := #[.int .i64 c.oa, .int .i64 c.ob, .int .i64 c.na, .int .i64 c.nb]) (t := 103) (fr := (0, 0)) (heap_alloc2_new wr _ _)) (by simp [Value.oneCell']) (by simp only [maxLen]; omega) (by omega) (by simp; omega) ?_; intro v4 w4 hown4 hg4 hnil4; clear hnil4)
      have hb4 : Below w.heap.size w w4 := a4.grown hg4 (by simp; omega) (fun k hk => (hlt4 k hk).1)
      have HO4 := Lib.hid hown4
      clear hown4 hg4 a4 a3 x3
      go_wp2
      go_roundg (gk - 1)
      case measure => omega
      case rel => exact ⟨j + 1, by go_num, by omega, by omega, hb4, Lib.hid (by rw [hsf.out]; exact HO4.out)⟩
    · have hj : j = n := by omega
      subst hj
      obtain ⟨A7, c7, e7, hI7, hl7, hC7⟩ := chs_of_own (o := l) (by have := hown.out; rw [List.take_of_length_le (by rw [HL.out]; omega)] at this; exact this)
      have HI7 := Lib.hid hI7
      have HC7 := Lib.hid hC7
      subst e7
      clear hI7 hC7 hl7 hown
      go_wp2
      go_ret
      exact ⟨A7, c7, rfl, HI7.out, HC7.out, hb⟩
end Go.Proofs.Ytmijlijgcaaiiaa
