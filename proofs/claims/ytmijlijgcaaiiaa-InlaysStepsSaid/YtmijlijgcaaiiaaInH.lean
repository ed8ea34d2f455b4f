/- Inlays: the law's long; the document's ahead and wrong. -/
import Derived.Test.YtmijlijgcaaiiaaDec10
import Derived.Test.YtmijlijgcaaiiaaPlN
import Derived.Test.YtmijlijgcaaiiaaInC
import Derived.Test.YtmijlijgcaaiiaaRDec
namespace Go.Proofs.Ytmijlijgcaaiiaa
open Go.RowKit Go.Sort
set_option linter.unusedVariables false
def ShortI (l : List In) : Prop := l.length ≤ 100 ∧ ∀ x ∈ l, x.tx.size ≤ 400
set_option maxHeartbeats 4000000 in
set_option maxRecDepth 100000 in
theorem long13_any (A : Option Addr) (n c : Nat) (l : List In) (b : Bool) (w : World) (hA : RowsAt encI 5 w A l) (hl : l.length = n) (hn : n ≤ maxLen) (ht : ∀ x ∈ l, x.tx.size ≤ maxLen) (hb : b = true ↔ ¬ ShortI l) :
    Calls Try.prog 11 #[.slice A n c] w fun e w' => e = .returned (.bool b) ∧ Below w.heap.size w w' := by
  unfold maxLen at hn ht
  have HA := Lib.hid hA
  have HL := Lib.hid hl
  have HTX := Lib.hid ht
  have BT : Hid (¬ ShortI l → b = true) := Lib.hid hb.2
  have BF : Hid (ShortI l → b = false) := Lib.hid fun h => by cases b; rfl; exact absurd h (hb.1 rfl)
  clear hA hl hb ht
  by_cases g1 : 100 < n
  · have k1 : decide ((100 : Int) < (n : Int)) = true := decide_eq_true (by omega)
    have k2 : decide (100 < n) = true := decide_eq_true g1
    have hbt : b = true := BT.out fun h => by have := h.1; rw [HL.out] at this; omega
    subst hbt
    go_enter Try.func11, Try.ntmps11
    go_wp2
    go_ret
    exact ⟨rfl, Below.refl _ _⟩
  · have k1 : decide ((100 : Int) < (n : Int)) = false := decide_eq_false (by omega)
    have k2 : decide (100 < n) = false := decide_eq_false g1
    go_enter Try.func11, Try.ntmps11
    go_wp2_with fail
    go_loopg [4, 10] n (fun g x i wr => ∃ (j : Nat), i = .int .i64 j ∧ j ≤ n ∧ n - j ≤ g ∧ Hid (∀ x ∈ l.take j, x.tx.size ≤ 400) ∧ Hid (Below w.heap.size w wr))
    case atStart => exact ⟨0, rfl, by omega, by omega, Lib.hid (fun x hx => absurd hx (by simp)), Lib.hid (Below.refl _ _)⟩
    case round =>
      obtain ⟨j, rfl, h1, h2, hs, hb⟩ := hrel
      by_cases hlt : j < n
      · have hjl : j < l.length := by rw [HL.out]; exact hlt
        obtain ⟨bA, off, rfl, hbA, d0, d1, d2, d3, d4⟩ := (HA.out.below hb.out).in5 hjl
        have HTK := Lib.hid (List.take_succ_eq_append_getElem hjl)
        have HBAD : Hid (¬ (l[j].tx.size ≤ 400) → b = true) := Lib.hid fun h => BT.out fun hS => h (hS.2 _ (List.getElem_mem hjl))
        have hsz := HTX.out _ (List.getElem_mem hjl)
        generalize l[j] = o at *
        have i1 : (0 : Int) ≤ j := by omega
        have i2 : (j : Int) < n := by omega
        have HB3 := Lib.hid (hb.out.trans (((Below.refl wr.heap.size wr).alloc (Nat.le_refl _) (.cells #[.int .i64 o.id, .int .i64 o.pl, .int .i64 o.bi, .int .i64 o.ky, .string o.tx] 46)).mono hb.out.size))
        clear hb
        by_cases q : 400 < o.tx.size
        · have hbt : b = true := HBAD.out (by omega)
          subst hbt
          have k3 : decide ((400 : Int) < (o.tx.size : Int)) = true := decide_eq_true (by omega)
          have k4 : decide (400 < o.tx.size) = true := decide_eq_true q
          go_wp2
          go_ret
          exact ⟨rfl, HB3.out⟩
        · have k3 : decide ((400 : Int) < (o.tx.size : Int)) = false := decide_eq_false (by omega)
          have k4 : decide (400 < o.tx.size) = false := decide_eq_false q
          have HS2 : Hid (∀ x ∈ l.take (j + 1), x.tx.size ≤ 400) := Lib.hid (by
            rw [HTK.out]
            intro x hx
            rcases List.mem_append.1 hx with hx | hx
            · exact hs.out x hx
            · rw [List.mem_singleton.1 hx]; omega)
          clear hs HBAD
          go_wp2
          go_roundg (gk - 1)
          case measure => omega
          case rel => exact ⟨j + 1, by go_num, by omega, by omega, HS2, HB3⟩
      · obtain rfl : j = n := by omega
        have h5 := hs.out
        rw [List.take_of_length_le (by rw [HL.out]; exact Nat.le_refl _)] at h5
        have hbt : b = false := BF.out ⟨by rw [HL.out]; omega, h5⟩
        subst hbt
        clear h5 hs
        go_wp2
        go_ret
        exact ⟨rfl, hb.out⟩
/-- What is wrong with an inlay, by the document, ahead of which some stand. -/
def wr13 (n : Int) (seen : List In) (x : In) : Int := if iwr n x ≠ 0 then iwr n x else if seen.any (fun b => b.id == x.id) then 8 else 0
end Go.Proofs.Ytmijlijgcaaiiaa
