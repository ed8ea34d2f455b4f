/- Plain facts on runes and how many bytes they have: nothing of the program. -/
import Derived.Test.YtaemndioleofjaaGreatBase
import Derived.Lib.MapLaws
import Derived.Lib.ValidLaws
import Derived.OpenShut
namespace Go.Proofs.YtaemndioleofjaaGreat
open Go.RowKit
/-- Has a number a right encoding? -/
def hasR (r : Int) : Bool := decide (0 ≤ r ∧ r ≤ 1114111 ∧ (r < 55296 ∨ 57343 < r))
/-- The number itself, or the one for what has none. -/
def cleanR (r : Int) : Int := if hasR r then r else 65533
/-- The encodings of runes, one behind the other. -/
def encAll (l : List Int) : List UInt8 := l.flatMap Lib.encodeRune
theorem encAll_snoc {l : List Int} {j : Nat} (h : j < l.length) : encAll (l.take (j + 1)) = encAll (l.take j) ++ Lib.encodeRune (nth l j) := by
  unfold encAll
  rw [List.take_succ_eq_append_getElem h, List.flatMap_append]
  have e : nth l j = l[j] := by simp [nth, List.getD, h]
  rw [e]
  simp
theorem encAll_len (l : List Int) : (encAll l).length ≤ 4 * l.length := by
  induction l with
  | nil => simp [encAll]
  | cons r l ih =>
    simp only [encAll, List.flatMap_cons, List.length_append, List.length_cons] at ih ⊢
    have := (Lib.encodeRuneZ_length r).2
    have e : (Lib.encodeRune r).length = (Lib.encodeRuneZ r).length := by simp [Lib.encodeRune]
    omega
/-- Numbers that fit in a rune. -/
def Fit (l : List Int) : Prop := ∀ x ∈ l, (Lit.int .i32 x).wf = true
theorem Fit.nth_ {l : List Int} (h : Fit l) {j : Nat} (hj : j < l.length) : -2147483648 ≤ nth l j ∧ nth l j ≤ 2147483647 := by
  have e : nth l j = l[j] := by simp [nth, List.getD, hj]
  rw [e]
  exact bounds_i32 (h _ (List.getElem_mem hj))
/-- How many bytes a rune has. -/
def uSize (r : Int) : Int := ((Lib.encodeRuneZ r).length : Int)
theorem uSize_len (r : Int) : 0 < Lib.runeLen r → uSize r = Lib.runeLen r := by
  unfold uSize Lib.runeLen Lib.encodeRuneZ
  repeat' split
  all_goals first
    | (intro h; omega)
    | (intro h; simp; done)
    | (intro h; exfalso; omega)
theorem uSize_bad (r : Int) : ¬ 0 < Lib.runeLen r → uSize r = 3 := by
  unfold uSize Lib.runeLen Lib.encodeRuneZ
  repeat' split
  all_goals first
    | (intro h; simp; done)
    | (intro h; exfalso; omega)
theorem uSize_bd (r : Int) : 1 ≤ uSize r ∧ uSize r ≤ 4 := by
  have := Lib.encodeRuneZ_length r
  unfold uSize
  omega
theorem enc_sum (l : List Int) : ((encAll l).length : Int) = (l.map uSize).sum := by
  induction l with
  | nil => rfl
  | cons r l ih =>
    have e : (Lib.encodeRune r).length = (Lib.encodeRuneZ r).length := by simp [Lib.encodeRune]
    simp only [encAll, List.flatMap_cons, List.length_append, List.map_cons, List.sum_cons] at ih ⊢
    rw [← ih]
    unfold uSize
    omega
theorem usum_bd (l : List Int) : ∀ k, k ≤ l.length → 0 ≤ sumTo uSize l k ∧ sumTo uSize l k ≤ 4 * k
  | 0, _ => by simp [sumTo_zero]
  | k + 1, h => by
    have := usum_bd l k (by omega)
    have := uSize_bd (nth l k)
    rw [sumTo_succ _ l (by omega)]
    omega
end Go.Proofs.YtaemndioleofjaaGreat
