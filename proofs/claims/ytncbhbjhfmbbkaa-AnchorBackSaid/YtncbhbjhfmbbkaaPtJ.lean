/- Patches: what between has of the pieces so far: the contract of its closure. -/
import Derived.Test.YtncbhbjhfmbbkaaOnT
import Derived.Test.YtncbhbjhfmbbkaaPatQ
import Derived.Test.YtncbhbjhfmbbkaaPtB
import Derived.Deep.AppendLies
import Derived.Deep.RegionHeld3
namespace Go.Proofs.Ytncbhbjhfmbbkaa
open Go.RowKit
set_option maxHeartbeats 2000000 in
theorem psize_w (a b : Int) (w : World) (h1 : -1000000000000000 ≤ a) (h2 : a ≤ 1000000000000000) (h3 : -1000000000000000 ≤ b) (h4 : b ≤ 1000000000000000) : Calls Try.prog 90 #[.agg #[.int .i64 a, .int .i64 b]] w fun e w' => e = .returned (.int .i64 (b - a)) ∧ Below w.heap.size w w' := by
  have w1 : IntKind.i64.wrap (b - a) = b - a := IntWalk.i64_in _ (by omega)
  go_enter Try.func90, Try.ntmps90
  go_wp2
  go_ret
  exact ⟨by simp, (Below.refl _ _).alloc (Nat.le_refl _) _⟩
set_option maxHeartbeats 2000000 in
theorem pnothing_w (c : Ch) (w : World) (r : Bool) (h1 : 0 ≤ c.oa ∧ c.oa ≤ c.ob ∧ c.ob ≤ 1000000000000000) (h2 : 0 ≤ c.na ∧ c.na ≤ c.nb ∧ c.nb ≤ 1000000000000000) (hr : r = true ↔ c.oa = c.ob ∧ c.na = c.nb) : Calls Try.prog 89 #[.agg #[.int .i64 c.oa, .int .i64 c.ob, .int .i64 c.na, .int .i64 c.nb]] w fun e w' => e = .returned (.bool r) ∧ Below w.heap.size w w' := by
  have HF := Lib.hid hr; clear hr
  obtain ⟨a, b, x, y⟩ := c
  dsimp only at *
  obtain ⟨a1, a2, a3⟩ := h1
  obtain ⟨b1, b2, b3⟩ := h2
  have CO := Lib.hid fun W => psize_w a b W (by omega) (by omega) (by omega) (by omega)
  have CN := Lib.hid fun W => psize_w x y W (by omega) (by omega) (by omega) (by omega)
  obtain ⟨z1, hz1⟩ : ∃ z, z = b - a := ⟨_, rfl⟩
  obtain ⟨z2, hz2⟩ : ∃ z, z = y - x := ⟨_, rfl⟩
  rw [← hz1] at CO
  rw [← hz2] at CN
  have x3 : Below w.heap.size w (w.alloc (.cells #[.int .i64 a, .int .i64 b, .int .i64 x, .int .i64 y] 51)) := (Below.refl _ _).alloc (Nat.le_refl _) _
  have R3 : RawAt 51 (w.alloc (.cells #[.int .i64 a, .int .i64 b, .int .i64 x, .int .i64 y] 51)) w.heap.size #[.int .i64 a, .int .i64 b, .int .i64 x, .int .i64 y] := heap_alloc_new w _
  have HR3 := Lib.hid R3
  clear R3
  by_cases g1 : a = b
  · obtain rfl : z1 = 0 := by omega
    by_cases g2 : x = y
    · have HX := Lib.hid (bt HF.out ⟨g1, g2⟩)
      obtain rfl : z2 = 0 := by omega
      clear g1 g2 hz1 hz2
      go_enter Try.func89, Try.ntmps89
      go_wp2_with fail
      refine (CO.out _).mono ?_
      rintro e w4 ⟨rfl, hb4⟩
      have R4 := RawAt.below HR3.out hb4 (RawAt.lt HR3.out)
      have q2 := RawAt.cell R4 2
      have q3 := RawAt.cell R4 3
      simp at q2 q3
      clear R4
      go_wp2_with fail
      refine (CN.out _).mono ?_
      rintro e w5 ⟨rfl, hb5⟩
      go_wp2
      go_ret
      exact ⟨ret_bool (by first | exact HX.out | exact (beq_eq_false_iff_ne.2 k2).trans HX.out | exact (beq_eq_false_iff_ne.2 k1).trans HX.out), (x3.trans (hb4.mono x3.size)).trans (hb5.mono (x3.trans (hb4.mono x3.size)).size)⟩
    · have HX := Lib.hid (bf HF.out (fun h => g2 h.2))
      have k2 : ¬ z2 = 0 := by omega
      clear g1 g2 hz1 hz2
      go_enter Try.func89, Try.ntmps89
      go_wp2_with fail
      refine (CO.out _).mono ?_
      rintro e w4 ⟨rfl, hb4⟩
      have R4 := RawAt.below HR3.out hb4 (RawAt.lt HR3.out)
      have q2 := RawAt.cell R4 2
      have q3 := RawAt.cell R4 3
      simp at q2 q3
      clear R4
      go_wp2_with fail
      refine (CN.out _).mono ?_
      rintro e w5 ⟨rfl, hb5⟩
      go_wp2
      go_ret
      exact ⟨ret_bool (by first | exact HX.out | exact (beq_eq_false_iff_ne.2 k2).trans HX.out | exact (beq_eq_false_iff_ne.2 k1).trans HX.out), (x3.trans (hb4.mono x3.size)).trans (hb5.mono (x3.trans (hb4.mono x3.size)).size)⟩
  · have HX := Lib.hid (bf HF.out (fun h => g1 h.1))
    have k1 : ¬ z1 = 0 := by omega
    clear g1 hz1 hz2
    go_enter Try.func89, Try.ntmps89
    go_wp2_with fail
    refine (CO.out _).mono ?_
    rintro e w4 ⟨rfl, hb4⟩
    have R4 := RawAt.below HR3.out hb4 (RawAt.lt HR3.out)
    have q2 := RawAt.cell R4 2
    have q3 := RawAt.cell R4 3
    simp at q2 q3
    clear R4
    go_wp2
    go_ret
    exact ⟨ret_bool (by first | exact HX.out | exact (decide_eq_false (by omega)).trans HX.out), x3.trans (hb4.mono x3.size)⟩
/-- How long a piece is at most that is kept at the end. -/
def LL : Int := 2199023255552
/-- Pieces that rise, with numbers that are not too large. -/
structure Bd (tot : List Pc) : Prop where
  srt : srt 0 0 tot
  nums : ∀ x ∈ tot, x.o ≤ 4398046511104 ∧ x.w ≤ 4398046511104 ∧ x.n ≤ 4398046511104
  len : tot.length ≤ 1000000
theorem chg_len : ∀ (p q : Int) (xs : List Pc), (chg p q xs).length ≤ xs.length
  | _, _, [] => Nat.le_refl _
  | p, q, x :: xs => by
    have ih := chg_len (x.o + x.n) (x.w + x.n) xs
    unfold chg
    rw [List.length_append, List.length_cons]
    split <;> simp <;> omega
/-- What the closure of between has: behind the pieces d of all, the changes so far, and the change that is open. -/
structure JAt (w0 : World) (tot d : List Pc) (W : World) : Prop where
  ex : ∃ r out p q x y v, d ++ r = tot ∧ out ++ chg p q r = chg 0 0 tot ∧ srt p q r ∧ 0 ≤ p ∧ p ≤ 10000000000000 ∧ 0 ≤ q ∧ q ≤ 10000000000000 ∧
    RawAt 43 W w0.heap.size #[v] ∧ RawAt 51 W (w0.heap.size + 1) #[.int .i64 p, .int .i64 x, .int .i64 q, .int .i64 y] ∧ W.ownsRow (w0.heap.size + 2) 51 4 v out.length (cflat out)
  below : Below w0.heap.size w0 W
end Go.Proofs.Ytncbhbjhfmbbkaa
