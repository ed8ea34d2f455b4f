/- The walk of the law on every text's sum. -/
import Derived.Test.YtajjodooojhhcaaRefOf
import Derived.Test.YtajjodooojhhcaaEndRef
namespace Go.Proofs.Ytajjodooojhhcaa
open Go.RowKit
set_option maxHeartbeats 4000000 in
set_option maxRecDepth 100000 in
theorem sumsOf_walk (A : Option Addr) (n c : Nat) (l : List Int) (w : World) (hA : IntsAt .i32 w A l) (hl : l.length = n) (_ : n ≤ maxLen) (_ : Caps A n c) (_ : ∀ x ∈ l, (Lit.int .i32 x).wf = true) :
    Calls Try.prog 3 #[.slice A n c] w fun e w' => e = .returned (.bool true) ∧ Below w.heap.size w w' := by
  have HA := Lib.hid hA; clear hA
  have HL := Lib.hid hl; clear hl
  by_cases hk : 2000 < n
  · go_enter Try.func3, Try.ntmps3
    go_wp2_with fail
    refine (two_any _).mono ?_
    rintro e w1 ⟨rfl, hb1⟩
    go_wp2_with fail
    go_ret
    exact ⟨rfl, hb1⟩
  · have C1 := Lib.hid fun (W : World) (hW : Below w.heap.size w W) => of_any A n c l W (HA.out.below hW) HL.out (by omega)
    have C2 := Lib.hid fun (W : World) (hW : Below w.heap.size w W) => rof_any A n c l W (HA.out.below hW) HL.out (by omega)
    generalize qof l = q at *
    obtain ⟨q1, q2, q3, q4, q5, q6, q7⟩ := q
    have C3 := Lib.hid fun W => ref_any ⟨q1, q2, q3, q4, q5, q6, q7⟩ W
    have C4 := Lib.hid fun W => end_any ⟨q1, q2, q3, q4, q5, q6, q7⟩ W
    unfold qv qcs at C1 C2 C3 C4
    simp only at C1 C2 C3 C4
    go_enter Try.func3, Try.ntmps3
    go_wp2_with fail
    refine (C1.out _ (Below.refl _ _)).mono ?_
    rintro e w1 ⟨rfl, hb1⟩
    go_wp2_with fail
    have hraw : RawAt 25 (w1.alloc (.cells #[.int .i64 q1, .int .i64 q2, .int .i64 q3, .int .i64 q4, .int .i64 q5, .int .i64 q6, .int .i64 q7] 25)) w1.heap.size #[.int .i64 q1, .int .i64 q2, .int .i64 q3, .int .i64 q4, .int .i64 q5, .int .i64 q6, .int .i64 q7] := heap_alloc_new w1 _
    have hbW : Below w.heap.size w (w1.alloc (.cells #[.int .i64 q1, .int .i64 q2, .int .i64 q3, .int .i64 q4, .int .i64 q5, .int .i64 q6, .int .i64 q7] 25)) := hb1.alloc hb1.size _
    clear hb1
    generalize (w1.alloc (.cells #[.int .i64 q1, .int .i64 q2, .int .i64 q3, .int .i64 q4, .int .i64 q5, .int .i64 q6, .int .i64 q7] 25)) = W1 at *
    generalize w1.heap.size = b at *
    have hlt := RawAt.lt hraw
    obtain ⟨c0, c1, c2, c3, c4, c5, c6⟩ := QAt.cells (q := ⟨q1, q2, q3, q4, q5, q6, q7⟩) hraw
    simp only at c0 c1 c2 c3 c4 c5 c6
    have MK := Lib.hid fun (W : World) (hW : Below W1.heap.size W1 W) => (⟨(hW.cell (p := ⟨b, 0, none⟩) hlt).trans c0, (hW.cell (p := ⟨b, 1, none⟩) hlt).trans c1, (hW.cell (p := ⟨b, 2, none⟩) hlt).trans c2, (hW.cell (p := ⟨b, 3, none⟩) hlt).trans c3, (hW.cell (p := ⟨b, 4, none⟩) hlt).trans c4, (hW.cell (p := ⟨b, 5, none⟩) hlt).trans c5, (hW.cell (p := ⟨b, 6, none⟩) hlt).trans c6, hW⟩ : W.cell? ⟨b, 0, none⟩ = some (.int .i64 q1) ∧ W.cell? ⟨b, 1, none⟩ = some (.int .i64 q2) ∧ W.cell? ⟨b, 2, none⟩ = some (.int .i64 q3) ∧ W.cell? ⟨b, 3, none⟩ = some (.int .i64 q4) ∧ W.cell? ⟨b, 4, none⟩ = some (.int .i64 q5) ∧ W.cell? ⟨b, 5, none⟩ = some (.int .i64 q6) ∧ W.cell? ⟨b, 6, none⟩ = some (.int .i64 q7) ∧ Below W1.heap.size W1 W)
    have hW2 : Below W1.heap.size W1 W1.drew := (Below.refl _ _).drew
    go_wp2_with fail
    go_region_held3 (fun W => W.cell? ⟨b, 0, none⟩ = some (.int .i64 q1) ∧ W.cell? ⟨b, 1, none⟩ = some (.int .i64 q2) ∧ W.cell? ⟨b, 2, none⟩ = some (.int .i64 q3) ∧ W.cell? ⟨b, 3, none⟩ = some (.int .i64 q4) ∧ W.cell? ⟨b, 4, none⟩ = some (.int .i64 q5) ∧ W.cell? ⟨b, 5, none⟩ = some (.int .i64 q6) ∧ W.cell? ⟨b, 6, none⟩ = some (.int .i64 q7) ∧ Below W1.heap.size W1 W) (first | (with_reducible exact MK.out _ hW2) | (with_reducible exact MK.out _ (Below.refl _ _)) | go_keep)
      (first
        | (go_at_call 13; refine (C3.out _).mono ?_; rintro e w2 ⟨rfl, hb2⟩; have hW2 := hW2.trans (hb2.mono hW2.size))
        | (go_at_call 14; refine (C2.out _ (hbW.trans (hW2.mono hbW.size))).mono ?_; rintro e w2 ⟨rfl, hb2⟩; have hW2 := hW2.trans (hb2.mono hW2.size))
        | (go_at_call 15; refine (C4.out _).mono ?_; rintro e w2 ⟨rfl, hb2⟩; have hW2 := hW2.trans (hb2.mono hW2.size))
        | (go_at_call 11; refine (two_any _).mono ?_; rintro e w2 ⟨rfl, hb2⟩; have hW2 := hW2.trans (hb2.mono hW2.size)))
    go_wp2
    go_ret
    exact ⟨rfl, hbW.trans (hW2.mono hbW.size)⟩
end Go.Proofs.Ytajjodooojhhcaa
