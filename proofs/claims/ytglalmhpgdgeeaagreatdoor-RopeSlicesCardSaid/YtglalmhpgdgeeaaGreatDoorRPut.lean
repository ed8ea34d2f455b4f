/- The document's text with others in the place of some: the contracts of bodkinref07.Inside, Put. -/
import Derived.Test.YtglalmhpgdgeeaaGreatDoorRef7
namespace Go.Proofs.YtglalmhpgdgeeaaGreatDoor
open Go.RowKit
theorem IntsAt.take7 {kd : IntKind} {w : World} {A : Option Addr} {l : List Int} (h : IntsAt kd w A l) (k : Nat) : IntsAt kd w A (l.take k) := by
  intro hp
  have hl : (l.take k).length ≤ l.length := by rw [List.length_take]; omega
  obtain ⟨b, off, rfl, hb, hc⟩ := h (by omega)
  refine ⟨b, off, rfl, hb, fun j hj => ?_⟩
  have hj' : j < min k l.length := by simpa [List.length_take] using hj
  rw [hc j (by omega)]
  have e : nth (l.take k) j = nth l j := by
    unfold nth
    simp only [List.getD, List.getElem?_take]
    rw [if_pos (by omega)]
  rw [e]
theorem Caps.cut7 {A : Option Addr} {n c : Nat} (h : Caps A n c) (y : Nat) (hy : y ≤ n) : Caps (cutA A c y) (n - y) (c - y) := by
  obtain ⟨h1, h2⟩ := h
  refine ⟨by omega, fun e => ?_⟩
  unfold cutA at e
  by_cases hc : c = y
  · omega
  · rw [if_neg hc] at e
    cases A with
    | none => have := h2 rfl; omega
    | some a => simp at e
set_option maxHeartbeats 2000000 in
theorem inside_any (n x y : Int) (w : World) (sb : Bool) (hsb : sb = true ↔ 0 ≤ x ∧ x ≤ y ∧ y ≤ n) : Calls Tryz.prog 9 #[.int .i64 n, .int .i64 x, .int .i64 y] w fun e w' => e = .returned (.bool sb) ∧ w' = w := by
  have HF := Lib.hid hsb; clear hsb
  by_cases g1 : 0 ≤ x
  · by_cases g2 : x ≤ y
    · by_cases g3 : y ≤ n
      · have HX := Lib.hid (ab_yes HF.out ⟨g1, g2, g3⟩)
        go_enter Tryz.func9, Tryz.ntmps9
        go_wp2
        go_ret
        exact ⟨ret_bool (by first | exact HX.out | simpa using HX.out), rfl⟩
      · have HX := Lib.hid (ab_no HF.out (fun h => g3 h.2.2))
        go_enter Tryz.func9, Tryz.ntmps9
        go_wp2
        go_ret
        exact ⟨ret_bool (by first | exact HX.out | exact (decide_eq_false (by omega)).trans HX.out), rfl⟩
    · have HX := Lib.hid (ab_no HF.out (fun h => g2 h.2.1))
      go_enter Tryz.func9, Tryz.ntmps9
      go_wp2
      go_ret
      exact ⟨ret_bool (by first | exact HX.out | exact (decide_eq_false (by omega)).trans HX.out), rfl⟩
  · have HX := Lib.hid (ab_no HF.out (fun h => g1 h.1))
    go_enter Tryz.func9, Tryz.ntmps9
    go_wp2
    go_ret
    exact ⟨ret_bool (by first | exact HX.out | exact (decide_eq_false (by omega)).trans HX.out), rfl⟩
end Go.Proofs.YtglalmhpgdgeeaaGreatDoor
