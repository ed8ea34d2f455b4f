/- Inlays: the document's times; the law's changes. -/
import Derived.Test.YtjkmkobnfhepaaaGreatInN
import Derived.Test.YtjkmkobnfhepaaaGreatPtF
import Derived.Deep.AppendLies
namespace Go.Proofs.YtjkmkobnfhepaaaGreat
open Go.RowKit Go.Sort
set_option linter.unusedVariables false
set_option maxHeartbeats 4000000 in
set_option maxRecDepth 100000 in
theorem times13_any (x : Int) (A : Option Addr) (m c : Nat) (l : List Int) (w : World) (hA : IntsAt .i64 w A l) (hl : l.length = m) (hm : m ≤ 1000000) :
    Calls Tryz.prog 29 #[.int .i64 x, .slice A m c] w fun e w' => e = .returned (.int .i64 ((l.count x : Nat) : Int)) ∧ Below w.heap.size w w' := by
  have HA := Lib.hid hA
  have HL := Lib.hid hl
  clear hA hl
  go_enter Tryz.func29, Tryz.ntmps29
  go_wp2_with fail
  go_loopg [5, 10] m (fun g v i wr => ∃ (j k : Nat), i = .int .i64 j ∧ v = .int .i64 k ∧ j ≤ m ∧ m - j ≤ g ∧ k ≤ j ∧ Hid (k = (l.take j).count x) ∧ Hid (Below w.heap.size w wr))
  case atStart => exact ⟨0, 0, rfl, rfl, by omega, by omega, by omega, Lib.hid (by simp), Lib.hid (Below.refl _ _)⟩
  case round =>
    obtain ⟨j, k, rfl, rfl, h1, h2, h3, hk, hb⟩ := hrel
    by_cases hlt : j < m
    · have hjl : j < l.length := by rw [HL.out]; exact hlt
      obtain ⟨b, off, rfl, hbs, hce⟩ := (HA.out.below hb.out) (by omega)
      have q := hce j hjl
      have htk : l.take (j + 1) = l.take j ++ [nth l j] := inm_take hjl
      have HTK := Lib.hid htk
      clear hce htk
      generalize nth l j = z at *
      have i1 : (0 : Int) ≤ j := by omega
      have i2 : (j : Int) < m := by omega
      by_cases hz : z = x
      · have z1 : (z == x) = true := by simp [hz]
        have z2 : decide (z = x) = true := decide_eq_true hz
        have HK : Hid (k + 1 = (l.take (j + 1)).count x) := Lib.hid (by rw [HTK.out, List.count_append, ← hk.out, hz]; simp)
        clear hk hz
        go_wp2
        go_roundg (gk - 1)
        case measure => omega
        case rel => exact ⟨j + 1, k + 1, by go_num, by go_num, by omega, by omega, by omega, HK, hb⟩
      · have z1 : (z == x) = false := by simp [hz]
        have z2 : decide (z = x) = false := decide_eq_false hz
        have HK : Hid (k = (l.take (j + 1)).count x) := Lib.hid (by rw [HTK.out, List.count_append, ← hk.out, List.count_singleton, if_neg (by simp [hz])]; rfl)
        clear hk hz
        go_wp2
        go_roundg (gk - 1)
        case measure => omega
        case rel => exact ⟨j + 1, k, by go_num, rfl, by omega, by omega, by omega, HK, hb⟩
    · obtain rfl : j = m := by omega
      have e : l.take j = l := List.take_of_length_le (by rw [HL.out]; exact Nat.le_refl _)
      have hk2 := hk.out
      rw [e] at hk2
      subst hk2
      clear hk e
      go_wp2
      go_ret
      exact ⟨rfl, hb.out⟩
end Go.Proofs.YtjkmkobnfhepaaaGreat
