/- The walk of the law on which items have a tree, over any tree's contracts. -/
import Derived.Test.YtklghlaagoaadaaLawTSlices
namespace Go.Proofs.Ytklghlaagoaadaa
open Go.RowKit
section
variable {T : World → Addr → List I7 → Nat → Prop}
set_option maxHeartbeats 4000000 in
set_option maxRecDepth 100000 in
theorem treeNew_any (K : TreeC T) (A0 : Option Addr) (n0 c0 : Nat) (l0 : List I7) (x : Int) (w : World) (hA0 : ItsAt w A0 l0) (hl0 : l0.length = n0) (hn0 : n0 ≤ maxLen) (hC0 : Caps A0 n0 c0) :
    Calls Try.prog 3 #[.slice A0 n0 c0, .int .i64 x] w fun e w' => e = .returned (.bool true) ∧ Below w.heap.size w w' := by
  have HA := Lib.hid hA0; clear hA0
  have HL := Lib.hid hl0; clear hl0
  have HC := Lib.hid hC0; clear hC0
  have T3 := Lib.hid fun (W : World) => three_yes K W
  have HEQ := eq3
  by_cases p : 30000 < n0
  · have N := Lib.hid fun (W : World) (hW : Below w.heap.size w W) => K.newFull A0 n0 c0 l0 W (HA.out.below hW) HL.out HC.out hn0 p
    go_enter Try.func3, Try.ntmps3
    go_wp2_with fail
    refine (N.out _ (Below.refl _ _)).mono ?_
    rintro e w1 ⟨rfl, hb1⟩
    go_wp2_with fail
    refine (T3.out _).mono ?_
    rintro e wz ⟨rfl, hbz⟩
    go_wp2_with fail
    go_ret
    exact ⟨rfl, hb1.trans (hbz.mono hb1.size)⟩
  by_cases q : 600 < n0
  · by_cases k : Okl l0
    · have N := Lib.hid fun (W : World) (hW : Below w.heap.size w W) => K.new A0 n0 c0 l0 W (HA.out.below hW) HL.out HC.out (by omega) k
      clear k
      go_enter Try.func3, Try.ntmps3
      go_wp2_with fail
      refine (N.out _ (Below.refl _ _)).mono ?_
      rintro e w1 ⟨a, h, rfl, _, hb1⟩
      go_wp2_with fail
      refine (T3.out _).mono ?_
      rintro e wz ⟨rfl, hbz⟩
      go_wp2_with fail
      go_ret
      exact ⟨rfl, hb1.trans (hbz.mono hb1.size)⟩
    · have N := Lib.hid fun (W : World) (hW : Below w.heap.size w W) => K.newBad A0 n0 c0 l0 W (HA.out.below hW) HL.out HC.out (by omega) k
      clear k
      go_enter Try.func3, Try.ntmps3
      go_wp2_with fail
      refine (N.out _ (Below.refl _ _)).mono ?_
      rintro e w1 ⟨rfl, hb1⟩
      go_wp2_with fail
      refine (T3.out _).mono ?_
      rintro e wz ⟨rfl, hbz⟩
      go_wp2_with fail
      go_ret
      exact ⟨rfl, hb1.trans (hbz.mono hb1.size)⟩
  have q2 : n0 ≤ 600 := by omega
  clear p q
  by_cases k : Okl l0
  rotate_left
  · have N := Lib.hid fun (W : World) (hW : Below w.heap.size w W) => K.newBad A0 n0 c0 l0 W (HA.out.below hW) HL.out HC.out (by omega) k
    have R := Lib.hid fun (W : World) (hW : Below w.heap.size w W) => right5_no A0 n0 c0 l0 W (HA.out.below hW) HL.out hn0 (fun h => k h.2)
    clear k
    go_enter Try.func3, Try.ntmps3
    go_wp2_with fail
    refine (N.out _ (Below.refl _ _)).mono ?_
    rintro e w1 ⟨rfl, hb1⟩
    go_wp2_with fail
    refine (R.out _ hb1).mono ?_
    rintro e w2 ⟨rfl, hb2⟩
    have a2 := hb1.trans (hb2.mono hb1.size)
    go_wp2_with fail
    refine (T3.out _).mono ?_
    rintro e wz ⟨rfl, hbz⟩
    go_wp2_with fail
    go_ret
    exact ⟨rfl, a2.trans (hbz.mono a2.size)⟩
  have N := Lib.hid fun (W : World) (hW : Below w.heap.size w W) => K.new A0 n0 c0 l0 W (HA.out.below hW) HL.out HC.out (by omega) k
  have R := Lib.hid fun (W : World) (hW : Below w.heap.size w W) => right5_yes A0 n0 c0 l0 W (HA.out.below hW) HL.out hn0 ⟨q2, k⟩
  clear k
  by_cases g : 0 ≤ x ∧ x < (n0 : Int)
  · obtain ⟨g1, g2⟩ := g
    obtain ⟨x, rfl⟩ : ∃ k : Nat, x = (k : Int) := ⟨x.toNat, by omega⟩
    have hx : x < n0 := by omega
    go_enter Try.func3, Try.ntmps3
    go_wp2_with fail
    refine (N.out _ (Below.refl _ _)).mono ?_
    rintro e w1 ⟨a, h, rfl, hT, hb1⟩
    have HT := Lib.hid hT; clear hT
    go_wp2_with fail
    refine (R.out _ hb1).mono ?_
    rintro e w2 ⟨rfl, hb2⟩
    have a2 := hb1.trans (hb2.mono hb1.size)
    go_wp2_with fail
    refine (refs5_any A0 n0 c0 l0 _ (HA.out.below a2) HL.out (by omega)).mono ?_
    rintro e w3 ⟨A3, c3, rfl, hb3, hI3, _⟩
    have a3 := a2.trans (hb3.mono a2.size)
    have b3 := hb2.trans (hb3.mono hb2.size)
    go_wp2_with fail
    refine (is_yes K a l0 h A3 n0 c3 _ (K.below HT.out b3) hI3 HL.out).mono ?_
    rintro e w4 ⟨rfl, hb4⟩
    have a4 := a3.trans (hb4.mono a3.size)
    have b4 := b3.trans (hb4.mono b3.size)
    have HT4 := Lib.hid (K.below HT.out b4)
    go_wp2_with fail
    refine (K.at_ _ a l0 h x HT4.out (by rw [HL.out]; exact hx)).mono ?_
    rintro e w5 ⟨rfl, hb5⟩
    have a5 := a4.trans (hb5.mono a4.size)
    obtain ⟨b, off, rfl, hbs, hc⟩ := HA.out.below a5 (by rw [HL.out]; omega)
    obtain ⟨e0, e1, e2, e3, e4, e5, e6⟩ := hc x (by rw [HL.out]; exact hx)
    clear hc
    generalize ith l0 x = i at *
    have a6 := a5.alloc a5.size (.cells (ics i) 34)
    have q6 : Below w5.heap.size w5 (w5.alloc (.cells (ics i) 34)) := (Below.refl _ _).alloc (Nat.le_refl _) _
    have X6 := Lib.hid (show RawAt 34 (w5.alloc (.cells (ics i) 34)) w5.heap.size (ics i) from heap_alloc_new w5 _)
    have hbs6 := Nat.lt_of_lt_of_le hbs q6.size
    obtain ⟨H1, _⟩ := old_cells q6
    rw [← H1 _ _ hbs] at e0 e1 e2 e3 e4 e5 e6
    clear H1 hb1 hb2 hb3 hb4 hb5 a2 a3 a4 b3 b4 q6
    have hx1 : (x : Int) < (n0 : Int) := by omega
    have hx0 : (0 : Int) ≤ (x : Int) := by omega
    unfold ics
    go_wp2_with fail
    change Code.wp _ _ _ _ (w5.alloc (.cells (ics i) 34))
    generalize (w5.alloc (.cells (ics i) 34)) = W1 at *
    generalize w5.heap.size = bx at X6 ⊢
    have MK := Lib.hid fun (W : World) (hW : Below W1.heap.size W1 W) => (by
        obtain ⟨r0, r1, r2, r3, r4, r5, r6⟩ := raw_ics (RawAt.below X6.out hW (RawAt.lt X6.out))
        have H := (old_cells hW).1
        exact ⟨r0, r1, r2, r3, r4, r5, r6, (H _ _ hbs6).trans e0, (H _ _ hbs6).trans e1, (H _ _ hbs6).trans e2, (H _ _ hbs6).trans e3, (H _ _ hbs6).trans e4, (H _ _ hbs6).trans e5, (H _ _ hbs6).trans e6, hW⟩ : (fun W => W.cell? ⟨bx, 0, none⟩ = some (.int .i64 i.tag) ∧ W.cell? ⟨bx, 1, none⟩ = some (.int .i64 i.id) ∧ W.cell? ⟨bx, 2, none⟩ = some (.int .i64 i.d0) ∧ W.cell? ⟨bx, 3, none⟩ = some (.int .i64 i.d1) ∧ W.cell? ⟨bx, 4, none⟩ = some (.int .i64 i.d2) ∧ W.cell? ⟨bx, 5, none⟩ = some (.int .i64 i.mx) ∧ W.cell? ⟨bx, 6, none⟩ = some (.string i.tx) ∧ W.cell? ⟨b, off + x * 7, none⟩ = some (.int .i64 i.tag) ∧ W.cell? ⟨b, off + x * 7 + 1, none⟩ = some (.int .i64 i.id) ∧ W.cell? ⟨b, off + x * 7 + 2, none⟩ = some (.int .i64 i.d0) ∧ W.cell? ⟨b, off + x * 7 + 3, none⟩ = some (.int .i64 i.d1) ∧ W.cell? ⟨b, off + x * 7 + 4, none⟩ = some (.int .i64 i.d2) ∧ W.cell? ⟨b, off + x * 7 + 5, none⟩ = some (.int .i64 i.mx) ∧ W.cell? ⟨b, off + x * 7 + 6, none⟩ = some (.string i.tx) ∧ Below W1.heap.size W1 W) W)
    have hW2 : Below W1.heap.size W1 W1.drew := (Below.refl _ _).drew
    clear e0 e1 e2 e3 e4 e5 e6 X6
    go_wp2_with fail
    go_region_held3 (fun W => W.cell? ⟨bx, 0, none⟩ = some (.int .i64 i.tag) ∧ W.cell? ⟨bx, 1, none⟩ = some (.int .i64 i.id) ∧ W.cell? ⟨bx, 2, none⟩ = some (.int .i64 i.d0) ∧ W.cell? ⟨bx, 3, none⟩ = some (.int .i64 i.d1) ∧ W.cell? ⟨bx, 4, none⟩ = some (.int .i64 i.d2) ∧ W.cell? ⟨bx, 5, none⟩ = some (.int .i64 i.mx) ∧ W.cell? ⟨bx, 6, none⟩ = some (.string i.tx) ∧ W.cell? ⟨b, off + x * 7, none⟩ = some (.int .i64 i.tag) ∧ W.cell? ⟨b, off + x * 7 + 1, none⟩ = some (.int .i64 i.id) ∧ W.cell? ⟨b, off + x * 7 + 2, none⟩ = some (.int .i64 i.d0) ∧ W.cell? ⟨b, off + x * 7 + 3, none⟩ = some (.int .i64 i.d1) ∧ W.cell? ⟨b, off + x * 7 + 4, none⟩ = some (.int .i64 i.d2) ∧ W.cell? ⟨b, off + x * 7 + 5, none⟩ = some (.int .i64 i.mx) ∧ W.cell? ⟨b, off + x * 7 + 6, none⟩ = some (.string i.tx) ∧ Below W1.heap.size W1 W) (first | (with_reducible exact MK.out _ hW2) | (with_reducible exact MK.out _ (Below.refl _ _)) | go_keep)
      (first
        | (go_at_call 14; refine (T3.out _).mono ?_; rintro e w2 ⟨rfl, hb2⟩; have hW2 := hW2.trans (hb2.mono hW2.size)))
    go_wp2
    go_ret
    exact ⟨rfl, a6.trans (hW2.mono a6.size)⟩
  · have G := Lib.hid g
    by_cases g1 : x < 0
    · clear g
      go_enter Try.func3, Try.ntmps3
      go_wp2_with fail
      refine (N.out _ (Below.refl _ _)).mono ?_
      rintro e w1 ⟨a, h, rfl, hT, hb1⟩
      have HT := Lib.hid hT; clear hT
      go_wp2_with fail
      refine (R.out _ hb1).mono ?_
      rintro e w2 ⟨rfl, hb2⟩
      have a2 := hb1.trans (hb2.mono hb1.size)
      go_wp2_with fail
      refine (refs5_any A0 n0 c0 l0 _ (HA.out.below a2) HL.out (by omega)).mono ?_
      rintro e w3 ⟨A3, c3, rfl, hb3, hI3, _⟩
      have a3 := a2.trans (hb3.mono a2.size)
      have b3 := hb2.trans (hb3.mono hb2.size)
      go_wp2_with fail
      refine (is_yes K a l0 h A3 n0 c3 _ (K.below HT.out b3) hI3 HL.out).mono ?_
      rintro e w4 ⟨rfl, hb4⟩
      have a4 := a3.trans (hb4.mono a3.size)
      have b4 := b3.trans (hb4.mono b3.size)
      have HT4 := Lib.hid (K.below HT.out b4)
      go_wp2_with fail
      refine (K.atBad _ a l0 h x HT4.out (by rw [HL.out]; exact G.out)).mono ?_
      rintro e w5 ⟨rfl, hb5⟩
      have a5 := a4.trans (hb5.mono a4.size)
      have a6 := a5.alloc a5.size (.cells (ics ⟨0, 0, 0, 0, 0, 0, ⟨#[]⟩⟩) 34)
      unfold ics
      go_wp2_with fail
      refine (T3.out _).mono ?_
      rintro e wz ⟨rfl, hbz⟩
      go_wp2_with fail
      go_ret
      exact ⟨rfl, a6.trans (hbz.mono a6.size)⟩
    · have g2 : (n0 : Int) ≤ x := by omega
      clear g
      go_enter Try.func3, Try.ntmps3
      go_wp2_with fail
      refine (N.out _ (Below.refl _ _)).mono ?_
      rintro e w1 ⟨a, h, rfl, hT, hb1⟩
      have HT := Lib.hid hT; clear hT
      go_wp2_with fail
      refine (R.out _ hb1).mono ?_
      rintro e w2 ⟨rfl, hb2⟩
      have a2 := hb1.trans (hb2.mono hb1.size)
      go_wp2_with fail
      refine (refs5_any A0 n0 c0 l0 _ (HA.out.below a2) HL.out (by omega)).mono ?_
      rintro e w3 ⟨A3, c3, rfl, hb3, hI3, _⟩
      have a3 := a2.trans (hb3.mono a2.size)
      have b3 := hb2.trans (hb3.mono hb2.size)
      go_wp2_with fail
      refine (is_yes K a l0 h A3 n0 c3 _ (K.below HT.out b3) hI3 HL.out).mono ?_
      rintro e w4 ⟨rfl, hb4⟩
      have a4 := a3.trans (hb4.mono a3.size)
      have b4 := b3.trans (hb4.mono b3.size)
      have HT4 := Lib.hid (K.below HT.out b4)
      go_wp2_with fail
      refine (K.atBad _ a l0 h x HT4.out (by rw [HL.out]; exact G.out)).mono ?_
      rintro e w5 ⟨rfl, hb5⟩
      have a5 := a4.trans (hb5.mono a4.size)
      have a6 := a5.alloc a5.size (.cells (ics ⟨0, 0, 0, 0, 0, 0, ⟨#[]⟩⟩) 34)
      unfold ics
      go_wp2_with fail
      refine (T3.out _).mono ?_
      rintro e wz ⟨rfl, hbz⟩
      go_wp2_with fail
      go_ret
      exact ⟨rfl, a6.trans (hbz.mono a6.size)⟩
end
end Go.Proofs.Ytklghlaagoaadaa
