/- The small case of the laws on lines. -/
import Derived.Test.YtaemndioleofjaaLnC
import Derived.Test.YtaemndioleofjaaRWide
namespace Go.Proofs.Ytaemndioleofjaa
open Go.RowKit
theorem two_dec : dec ⟨#[97, 98, 10, 99]⟩ = [97, 98, 10, 99] := by decide
theorem two_ah1 : AheadIs [97, 98, 10, 99] 2 1 3 := ⟨by decide, fun i hi => by
  have : i = 0 ∨ i = 1 ∨ i = 2 := by omega
  rcases this with rfl | rfl | rfl <;> decide, by decide⟩
theorem ah_zero (l : List Int) : AheadIs l 2 0 0 := ⟨Nat.zero_le _, fun i hi => by omega, by rw [List.take_zero, szl_nil]; exact Int.le_refl _⟩
theorem two_place : PlaceIs [97, 98, 10, 99] 1 1 4 0 := ⟨3, 4, 0, .inr ⟨by decide, by decide, rfl, 3, two_ah1, rfl, .inl ⟨by decide, rfl⟩⟩, .inr (.inr ⟨rfl, by decide, by decide, rfl, rfl⟩)⟩
theorem two_clip : ClipIs [97, 98, 10, 99] 0 9 0 2 := .inr (.inr ⟨by decide, by decide, 0, 2, .inr ⟨by decide, by decide, rfl, 0, ah_zero _, rfl, .inr ⟨by decide, 3, two_ah1, rfl⟩⟩, rfl, by decide⟩)
set_option maxHeartbeats 4000000 in
set_option maxRecDepth 100000 in
theorem two_any (w : World) : Calls Try.prog 26 #[] w fun e w' => e = .returned (.bool true) ∧ Below w.heap.size w w' := by
  have CN := Lib.hid (rnew_any ⟨#[97, 98, 10, 99]⟩ w (by decide) (by rw [two_dec]; decide))
  go_enter Try.func26, Try.ntmps26
  go_wp2_with fail
  refine CN.out.mono ?_
  rintro e w1 ⟨b, ps, h, rfl, hR, hf, hb1⟩
  rw [two_dec] at hf
  have C1 := Lib.hid fun (W : World) (hW : Below w1.heap.size w1 W) => (lplace_any (hR.below hW) 1 1 (by decide) (by decide)).mono fun e w' ⟨n, d, hi, he, hb⟩ => (by rw [hf] at hi; obtain ⟨rfl, rfl⟩ := hi.unique two_place; exact ⟨he, hb⟩ : e = Ending.returned (.tuple #[.int .i64 4, .int .i64 0]) ∧ Below W.heap.size W w')
  have C2 := Lib.hid fun (W : World) (hW : Below w1.heap.size w1 W) => (lclip_any (hR.below hW) 0 9 (by decide) (by decide)).mono fun e w' ⟨n, d, hi, he, hb⟩ => (by rw [hf] at hi; obtain ⟨rfl, rfl⟩ := hi.unique two_clip; exact ⟨he, hb⟩ : e = Ending.returned (.agg #[.int .i64 0, .int .i64 2]) ∧ Below W.heap.size W w')
  have C3 := Lib.hid fun (W : World) (hW : Below w1.heap.size w1 W) => (by have := lrows_any (hR.below hW); rwa [hf] at this : Calls Try.prog 24 #[.pointer (some ⟨b, 0, none⟩)] W fun e w' => e = .returned (.int .i64 2) ∧ Below W.heap.size W w')
  clear hR hf
  go_wp2_with fail
  refine (C1.out _ (Below.refl _ _)).mono ?_
  rintro e w2 ⟨rfl, hb2⟩
  go_wp2_with fail
  refine (C2.out _ hb2).mono ?_
  rintro e w3 ⟨rfl, hb3⟩
  have a3 := hb2.trans (hb3.mono hb2.size)
  go_wp2_with fail
  refine (C3.out _ a3).mono ?_
  rintro e w4 ⟨rfl, hb4⟩
  have a4 := a3.trans (hb4.mono a3.size)
  go_wp2_with fail
  go_ret
  exact ⟨rfl, hb1.trans (a4.mono hb1.size)⟩
end Go.Proofs.Ytaemndioleofjaa
