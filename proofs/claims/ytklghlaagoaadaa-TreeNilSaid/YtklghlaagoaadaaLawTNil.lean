/- The walk of the law on the nil tree, over any tree's contracts. -/
import Derived.Test.YtklghlaagoaadaaLawTSlices
import Derived.Deep.RegionHeld3
import Derived.Test.YtklghlaagoaadaaLawTFinds
namespace Go.Proofs.Ytklghlaagoaadaa
open Go.RowKit
/-- What the law asks of a tree that is nil. -/
structure TreeN (T : World → Addr → List I7 → Nat → Prop) : Prop where
  at_ : ∀ (w : World) (i : Int), Calls Try.prog 18 #[.pointer none, .int .i64 i] w fun e w' => e = .returned (.tuple #[.agg (ics ⟨0, 0, 0, 0, 0, 0, ⟨#[]⟩⟩), .int .i64 1]) ∧ Below w.heap.size w w'
  slice : ∀ (w : World), Calls Try.prog 19 #[.pointer none, .int .i64 0, .int .i64 0] w fun e w' => ∃ a' h', e = .returned (.tuple #[.pointer (some a'), .int .i64 0]) ∧ T w' a' [] h' ∧ Below w.heap.size w w'
  find : ∀ (w : World), Calls Try.prog 23 #[.pointer none, .int .i64 3, .int .i64 0, .int .i64 0] w fun e w' => e = .returned (.tuple #[.agg (vcs 0 s0 0), .int .i64 0]) ∧ Below w.heap.size w w'
  join : ∀ (w : World), Calls Try.prog 20 #[.pointer none, .pointer none] w fun e w' => ∃ a' h', e = .returned (.tuple #[.pointer (some a'), .int .i64 0]) ∧ T w' a' [] h' ∧ Below w.heap.size w w'
  height : ∀ (w : World), Calls Try.prog 27 #[.pointer none] w fun e w' => e = .returned (.int .i64 0) ∧ Below w.heap.size w w'
  sum : ∀ (w : World), Calls Try.prog 29 #[.pointer none] w fun e w' => e = .returned (.agg (scs s0)) ∧ Below w.heap.size w w'
  sound : ∀ (w : World), Calls Try.prog 30 #[.pointer none] w fun e w' => e = .returned (.bool true) ∧ Below w.heap.size w w'
section
variable {T : World → Addr → List I7 → Nat → Prop}
set_option maxHeartbeats 4000000 in
set_option maxRecDepth 100000 in
theorem treeNil_any (K : TreeC T) (M : TreeN T) (i : Int) (w : World) :
    Calls Try.prog 8 #[.int .i64 i] w fun e w' => e = .returned (.bool true) ∧ Below w.heap.size w w' := by
  have HEQ := eq3
  have T3 := Lib.hid fun (W : World) => three_yes K W
  go_enter Try.func8, Try.ntmps8
  go_wp2_with fail
  refine (M.at_ _ i).mono ?_
  rintro e w1 ⟨rfl, hb1⟩
  have a1 := hb1.alloc hb1.size (.cells (ics ⟨0, 0, 0, 0, 0, 0, ⟨#[]⟩⟩) 34)
  unfold ics
  go_wp2_with fail
  refine (M.slice _).mono ?_
  rintro e w2 ⟨a, h, rfl, hT, hb2⟩
  have a2 := a1.trans (hb2.mono a1.size)
  have HT := Lib.hid hT; clear hT
  go_wp2_with fail
  refine (M.find _).mono ?_
  rintro e w3 ⟨rfl, hb3⟩
  have a3 := a2.trans (hb3.mono a2.size)
  have a4 := a3.alloc a3.size (.cells (vcs 0 s0 0) 52)
  have q4 : Below w3.heap.size w3 (w3.alloc (.cells (vcs 0 s0 0) 52)) := (Below.refl _ _).alloc (Nat.le_refl _) _
  have P4 := Lib.hid (show RawAt 52 (w3.alloc (.cells (vcs 0 s0 0) 52)) w3.heap.size (vcs 0 s0 0) from heap_alloc_new w3 _)
  have HT4 := Lib.hid (K.below HT.out (hb3.trans (q4.mono hb3.size)))
  unfold vcs s0
  go_wp2_with fail
  change Calls _ _ _ (w3.alloc (.cells (vcs 0 s0 0) 52)) _
  generalize (w3.alloc (.cells (vcs 0 s0 0) 52)) = W0 at *
  generalize w3.heap.size = bp at P4 ⊢
  refine (M.join _).mono ?_
  rintro e W1 ⟨b, k, rfl, hU, hb5⟩
  have a5 := a4.trans (hb5.mono a4.size)
  obtain rfl : k = 0 := (K.ok hU).2.2.1.2 rfl
  have HU := Lib.hid hU; clear hU
  have HT5 := Lib.hid (K.below HT4.out hb5)
  have P5 := Lib.hid (RawAt.below P4.out hb5 (RawAt.lt P4.out))
  have CI : Hid (∀ W : World, Below W1.heap.size W1 W → Calls Try.prog 28 #[.pointer (some a)] W fun e w' => ∃ A c, e = .returned (.slice A 0 c) ∧ Below W.heap.size W w' ∧ ItsAt w' A [] ∧ Caps A 0 c) := fun W hW => K.items W a [] h (K.below HT5.out hW)
  have CH : Hid (∀ W : World, Below W1.heap.size W1 W → Calls Try.prog 27 #[.pointer (some b)] W fun e w' => e = .returned (.int .i64 0) ∧ Below W.heap.size W w') := fun W hW => K.height W b [] 0 (K.below HU.out hW)
  have CN := Lib.hid fun W : World => M.height W
  have CS : Hid (∀ W : World, Calls Try.prog 29 #[.pointer none] W fun e w' => e = .returned (.agg #[.int .i64 0, .int .i64 0, .int .i64 0, .int .i64 0, .int .i64 0, .int .i64 0]) ∧ Below W.heap.size W w') := fun W => M.sum W
  have CO := Lib.hid fun W : World => M.sound W
  clear hb1 hb2 hb3 hb5 a2 a3 a4 q4 P4
  have hW2 : Below W1.heap.size W1 W1 := Below.refl _ _
  go_wp2_with fail
  refine (CI.out _ hW2).mono ?_
  rintro e w5 ⟨A, c, rfl, hb2, _, _⟩
  have hW2 := hW2.trans (hb2.mono hW2.size)
  clear hb2
  go_wp2_with fail
  refine (CH.out _ hW2).mono ?_
  rintro e w6 ⟨rfl, hb2⟩
  have hW2 := hW2.trans (hb2.mono hW2.size)
  clear hb2
  obtain ⟨r0, r1, r2, r3, r4, r5, r6, r7⟩ := raw_vcs (RawAt.below P5.out hW2 (RawAt.lt P5.out))
  simp only [s0] at r1 r2 r3 r4 r5 r6
  go_wp2_with fail
  refine (CN.out _).mono ?_
  rintro e w7 ⟨rfl, hb2⟩
  have hW2 := hW2.trans (hb2.mono hW2.size)
  clear hb2 r0 r1 r2 r3 r4 r5 r6 r7
  go_wp2_with fail
  refine (CS.out _).mono ?_
  rintro e w8 ⟨rfl, hb2⟩
  have hW2 := hW2.trans (hb2.mono hW2.size)
  clear hb2
  go_wp2_with fail
  refine (CO.out _).mono ?_
  rintro e w9 ⟨rfl, hb2⟩
  have hW2 := hW2.trans (hb2.mono hW2.size)
  clear hb2
  go_wp2_with fail
  refine (T3.out _).mono ?_
  rintro e w10 ⟨rfl, hb2⟩
  have hW2 := hW2.trans (hb2.mono hW2.size)
  clear hb2
  go_wp2_with fail
  go_ret
  exact ⟨rfl, a5.trans (hW2.mono a5.size)⟩
end
end Go.Proofs.Ytklghlaagoaadaa
