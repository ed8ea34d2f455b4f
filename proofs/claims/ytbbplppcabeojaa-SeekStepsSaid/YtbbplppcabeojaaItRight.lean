/- The contract of bodkinref04.Right. -/
import Derived.Test.YtbbplppcabeojaaItBase
namespace Go.Proofs.Ytbbplppcabeojaa
open Go.RowKit
theorem rb_no {rb : Bool} {i : I7} (h : rb = true ↔ Oki i) (hn : ¬ Oki i) : false = rb := by
  cases rb
  · rfl
  · exact absurd (h.1 rfl) hn
set_option maxHeartbeats 4000000 in
theorem right_any (i : I7) (rb : Bool) (hrb : rb = true ↔ Oki i) (w : World) : Calls Try.prog 45 #[.agg (ics i)] w fun e w' => e = .returned (.bool rb) ∧ Below w.heap.size w w' := by
  have HRB := Lib.hid hrb; clear hrb
  obtain ⟨tag, id, d0, d1, d2, mx, tx⟩ := i
  unfold ics
  go_enter Try.func45, Try.ntmps45
  go_wp2
  have hb0 : Below w.heap.size w (w.alloc (.cells #[.int .i64 tag, .int .i64 id, .int .i64 d0, .int .i64 d1, .int .i64 d2, .int .i64 mx, .string tx] 75)) := (Below.refl _ _).alloc (Nat.le_refl _) _
  have hr0 : RawAt 75 (w.alloc (.cells #[.int .i64 tag, .int .i64 id, .int .i64 d0, .int .i64 d1, .int .i64 d2, .int .i64 mx, .string tx] 75)) w.heap.size (ics ⟨tag, id, d0, d1, d2, mx, tx⟩) := heap_alloc_new w _
  generalize (w.alloc (.cells #[.int .i64 tag, .int .i64 id, .int .i64 d0, .int .i64 d1, .int .i64 d2, .int .i64 mx, .string tx] 75)) = W1 at *
  obtain ⟨_, _, q0, q1, q2, q3, _⟩ := raw_ics hr0
  simp only at q0 q1 q2 q3
  clear hr0
  go_loopg [3] 3 (fun k v wr => ∃ j : Nat, v = .int .i64 j ∧ j ≤ 3 ∧ 3 - j ≤ k ∧ wr = W1 ∧ Hid ((1 ≤ j → Okn d0) ∧ (2 ≤ j → Okn d1) ∧ (3 ≤ j → Okn d2)))
  case atStart => exact ⟨0, rfl, by omega, by omega, rfl, ⟨fun h => absurd h (by omega), fun h => absurd h (by omega), fun h => absurd h (by omega)⟩⟩
  case round =>
    obtain ⟨j, rfl, h1, h2, rfl, hk⟩ := hrel
    obtain rfl | rfl | rfl | rfl : j = 0 ∨ j = 1 ∨ j = 2 ∨ j = 3 := by omega
    · by_cases g1 : d0 < 0
      · have HF := Lib.hid g1
        go_wp2
        go_ret
        exact ⟨ret_bool (rb_no HRB.out (fun h => by have := (h.1.1).1; have := HF.out; simp only at *; omega)), hb0⟩
      · by_cases g2 : 1099511627776 < d0
        · have HF := Lib.hid g2
          go_wp2
          go_ret
          exact ⟨ret_bool (rb_no HRB.out (fun h => by have := (h.1.1).2; have := HF.out; simp only at *; omega)), hb0⟩
        · have HF := Lib.hid (show 0 ≤ d0 ∧ d0 ≤ 1099511627776 from ⟨by omega, by omega⟩)
          go_wp2
          go_roundg (gk - 1)
          case measure => omega
          case rel => exact ⟨1, rfl, by omega, by omega, rfl, ⟨fun _ => HF.out, fun h => absurd h (by omega), fun h => absurd h (by omega)⟩⟩
    · by_cases g1 : d1 < 0
      · have HF := Lib.hid g1
        go_wp2
        go_ret
        exact ⟨ret_bool (rb_no HRB.out (fun h => by have := (h.1.2.1).1; have := HF.out; simp only at *; omega)), hb0⟩
      · by_cases g2 : 1099511627776 < d1
        · have HF := Lib.hid g2
          go_wp2
          go_ret
          exact ⟨ret_bool (rb_no HRB.out (fun h => by have := (h.1.2.1).2; have := HF.out; simp only at *; omega)), hb0⟩
        · have HF := Lib.hid (show 0 ≤ d1 ∧ d1 ≤ 1099511627776 from ⟨by omega, by omega⟩)
          go_wp2
          go_roundg (gk - 1)
          case measure => omega
          case rel => exact ⟨2, rfl, by omega, by omega, rfl, ⟨fun _ => hk.out.1 (by omega), fun _ => HF.out, fun h => absurd h (by omega)⟩⟩
    · by_cases g1 : d2 < 0
      · have HF := Lib.hid g1
        go_wp2
        go_ret
        exact ⟨ret_bool (rb_no HRB.out (fun h => by have := (h.1.2.2).1; have := HF.out; simp only at *; omega)), hb0⟩
      · by_cases g2 : 1099511627776 < d2
        · have HF := Lib.hid g2
          go_wp2
          go_ret
          exact ⟨ret_bool (rb_no HRB.out (fun h => by have := (h.1.2.2).2; have := HF.out; simp only at *; omega)), hb0⟩
        · have HF := Lib.hid (show 0 ≤ d2 ∧ d2 ≤ 1099511627776 from ⟨by omega, by omega⟩)
          go_wp2
          go_roundg (gk - 1)
          case measure => omega
          case rel => exact ⟨3, rfl, by omega, by omega, rfl, ⟨fun _ => hk.out.1 (by omega), fun _ => hk.out.2.1 (by omega), fun _ => HF.out⟩⟩
    · have HD := Lib.hid (show Okd ⟨tag, id, d0, d1, d2, mx, tx⟩ from ⟨hk.out.1 (by omega), hk.out.2.1 (by omega), hk.out.2.2 (by omega)⟩)
      by_cases g1 : mx < 0
      · have HF := Lib.hid g1
        go_wp2
        go_ret
        exact ⟨ret_bool (rb_no HRB.out (fun h => by have := (h.2).1; have := HF.out; simp only at *; omega)), hb0⟩
      · by_cases g2 : 1099511627776 < mx
        · have HF := Lib.hid g2
          go_wp2
          go_ret
          exact ⟨ret_bool ((decide_eq_false (by have := HF.out; omega)).trans (rb_no HRB.out (fun h => by have := (h.2).2; have := HF.out; simp only at *; omega))), hb0⟩
        · have HF := Lib.hid (show 0 ≤ mx ∧ mx ≤ 1099511627776 from ⟨by omega, by omega⟩)
          go_wp2
          go_ret
          exact ⟨ret_bool ((HRB.out.2 ⟨HD.out, HF.out⟩).symm), hb0⟩
end Go.Proofs.Ytbbplppcabeojaa
