/- The walk of the law on slices of a tree, over any tree's contracts. -/
import Derived.Test.YtklghlaagoaadaaTreeSpec
import Derived.Test.YtklghlaagoaadaaItCut
namespace Go.Proofs.Ytklghlaagoaadaa
open Go.RowKit
section
variable {T : World → Addr → List I7 → Nat → Prop}
theorem right5_yes (A : Option Addr) (n c : Nat) (l : List I7) (w : World) (hA : ItsAt w A l) (hl : l.length = n) (hn : n ≤ maxLen) (h : n ≤ 600 ∧ Okl l) :
    Calls Try.prog 15 #[.slice A n c] w fun e w' => e = .returned (.bool true) ∧ Below w.heap.size w w' :=
  right5_any A n c l w hA hl (by unfold maxLen at hn; omega) true ⟨fun _ => h, fun _ => rfl⟩
theorem right5_no (A : Option Addr) (n c : Nat) (l : List I7) (w : World) (hA : ItsAt w A l) (hl : l.length = n) (hn : n ≤ maxLen) (h : ¬ (n ≤ 600 ∧ Okl l)) :
    Calls Try.prog 15 #[.slice A n c] w fun e w' => e = .returned (.bool false) ∧ Below w.heap.size w w' :=
  right5_any A n c l w hA hl (by unfold maxLen at hn; omega) false ⟨fun e => absurd e (by simp), fun e => absurd e h⟩
set_option maxHeartbeats 4000000 in
set_option maxRecDepth 100000 in
theorem treeSlices_any (K : TreeC T) (A0 : Option Addr) (n0 c0 : Nat) (l0 : List I7) (x y : Int) (w : World) (hA0 : ItsAt w A0 l0) (hl0 : l0.length = n0) (hn0 : n0 ≤ maxLen) (hC0 : Caps A0 n0 c0) :
    Calls Try.prog 4 #[.slice A0 n0 c0, .int .i64 x, .int .i64 y] w fun e w' => e = .returned (.bool true) ∧ Below w.heap.size w w' := by
  obtain ⟨i0, hi0, _, _, _⟩ := info_parts item_info
  have HA := Lib.hid hA0; clear hA0
  have HL := Lib.hid hl0; clear hl0
  have HC := Lib.hid hC0; clear hC0
  have T3 := Lib.hid fun (W : World) => three_yes K W
  by_cases k0 : n0 ≤ 600 ∧ Okl l0
  rotate_left
  · have R := Lib.hid (right5_no A0 n0 c0 l0 w HA.out HL.out hn0 k0)
    clear k0
    go_enter Try.func4, Try.ntmps4
    go_wp2_with fail
    refine R.out.mono ?_
    rintro e w1 ⟨rfl, hb1⟩
    go_wp2_with fail
    refine (T3.out _).mono ?_
    rintro e w2 ⟨rfl, hb2⟩
    go_wp2_with fail
    go_ret
    exact ⟨rfl, hb1.trans (hb2.mono hb1.size)⟩
  obtain ⟨k1, k2⟩ := k0
  have R := Lib.hid (right5_yes A0 n0 c0 l0 w HA.out HL.out hn0 ⟨k1, k2⟩)
  have N := Lib.hid fun (W : World) (hW : Below w.heap.size w W) => K.new A0 n0 c0 l0 W (HA.out.below hW) HL.out HC.out (by omega) k2
  have HK := Lib.hid k2; clear k2
  by_cases g : 0 ≤ x ∧ x ≤ y ∧ y ≤ (n0 : Int)
  · obtain ⟨g1, g2, g3⟩ := g
    obtain ⟨x, rfl⟩ : ∃ k : Nat, x = (k : Int) := ⟨x.toNat, by omega⟩
    obtain ⟨y, rfl⟩ : ∃ k : Nat, y = (k : Int) := ⟨y.toNat, by omega⟩
    have hxy : x ≤ y := by omega
    have hyn : y ≤ n0 := by omega
    have s1 := fun W : World => cut_both7 (P := Try.prog) Try.underlying22 hi0 (by kernel_rfl) A0 n0 c0 x y hxy (by have := HC.out.1; omega) W
    have HCut := Lib.hid fun (W : World) (hW : Below w.heap.size w W) => ((HA.out.cut HL.out HC.out.1 x (y - x) (by omega)).below hW)
    have HLc := Lib.hid (show ((l0.drop x).take (y - x)).length = y - x from by rw [List.length_take, List.length_drop, HL.out]; omega)
    generalize hLL : (l0.drop x).take (y - x) = L at *
    have HLL := Lib.hid hLL; clear hLL
    generalize hAA : cutI A0 c0 x = AA at *
    have HAA := Lib.hid hAA; clear hAA
    generalize hcc : c0 - x = cc at *
    have HCC := Lib.hid hcc; clear hcc
    generalize hnn : y - x = nn at *
    have hnn2 : nn ≤ 600 := by omega
    have HNN := Lib.hid hnn; clear hnn
    go_enter Try.func4, Try.ntmps4
    go_wp2_with fail
    refine R.out.mono ?_
    rintro e w1 ⟨rfl, hb1⟩
    go_wp2_with fail
    refine (N.out _ hb1).mono ?_
    rintro e w2 ⟨a, h, rfl, hT, hb2⟩
    have a2 := hb1.trans (hb2.mono hb1.size)
    have HT := Lib.hid hT; clear hT
    go_wp2_with fail
    refine (K.slice _ a l0 h x y HT.out hxy (by rw [HL.out]; exact hyn)).mono ?_
    rintro e w3 ⟨a', h', rfl, hT', hb3⟩
    rw [HNN.out, HLL.out] at hT'
    have HT' := Lib.hid hT'; clear hT'
    have a3 := a2.trans (hb3.mono a2.size)
    go_wp2_with fail
    refine (refs5_any AA nn cc L _ (HCut.out _ a3) HLc.out (by omega)).mono ?_
    rintro e w4 ⟨A4, c4, rfl, hb4, hI4, _⟩
    have a4 := a3.trans (hb4.mono a3.size)
    go_wp2_with fail
    refine (is_yes K a' L h' A4 nn c4 _ (K.below HT'.out hb4) hI4 HLc.out).mono ?_
    rintro e w5 ⟨rfl, hb5⟩
    have a5 := a4.trans (hb5.mono a4.size)
    have b5 := (hb3.trans (hb4.mono hb3.size)).trans (hb5.mono (hb3.trans (hb4.mono hb3.size)).size)
    go_wp2_with fail
    refine (refs5_any A0 n0 c0 l0 _ (HA.out.below a5) HL.out (by omega)).mono ?_
    rintro e w6 ⟨A6, c6, rfl, hb6, hI6, _⟩
    have a6 := a5.trans (hb6.mono a5.size)
    have b6 := b5.trans (hb6.mono b5.size)
    go_wp2_with fail
    refine (is_yes K a l0 h A6 n0 c6 _ (K.below HT.out b6) hI6 HL.out).mono ?_
    rintro e w7 ⟨rfl, hb7⟩
    have a7 := a6.trans (hb7.mono a6.size)
    go_wp2_with fail
    refine (T3.out _).mono ?_
    rintro e w8 ⟨rfl, hb8⟩
    go_wp2_with fail
    go_ret
    exact ⟨rfl, a7.trans (hb8.mono a7.size)⟩
  · have G := Lib.hid g
    by_cases g1 : x < 0
    · clear g
      go_enter Try.func4, Try.ntmps4
      go_wp2_with fail
      refine R.out.mono ?_
      rintro e w1 ⟨rfl, hb1⟩
      go_wp2_with fail
      refine (N.out _ hb1).mono ?_
      rintro e w2 ⟨a, h, rfl, hT, hb2⟩
      have a2 := hb1.trans (hb2.mono hb1.size)
      have HT := Lib.hid hT; clear hT
      go_wp2_with fail
      refine (K.sliceBad _ a l0 h x y HT.out (by rw [HL.out]; exact G.out)).mono ?_
      rintro e w3 ⟨rfl, hb3⟩
      have a3 := a2.trans (hb3.mono a2.size)
      go_wp2_with fail
      refine (T3.out _).mono ?_
      rintro e w4 ⟨rfl, hb4⟩
      go_wp2_with fail
      go_ret
      exact ⟨rfl, a3.trans (hb4.mono a3.size)⟩
    · by_cases g2 : y < x
      · clear g
        go_enter Try.func4, Try.ntmps4
        go_wp2_with fail
        refine R.out.mono ?_
        rintro e w1 ⟨rfl, hb1⟩
        go_wp2_with fail
        refine (N.out _ hb1).mono ?_
        rintro e w2 ⟨a, h, rfl, hT, hb2⟩
        have a2 := hb1.trans (hb2.mono hb1.size)
        have HT := Lib.hid hT; clear hT
        go_wp2_with fail
        refine (K.sliceBad _ a l0 h x y HT.out (by rw [HL.out]; exact G.out)).mono ?_
        rintro e w3 ⟨rfl, hb3⟩
        have a3 := a2.trans (hb3.mono a2.size)
        go_wp2_with fail
        refine (T3.out _).mono ?_
        rintro e w4 ⟨rfl, hb4⟩
        go_wp2_with fail
        go_ret
        exact ⟨rfl, a3.trans (hb4.mono a3.size)⟩
      · have g3 : (n0 : Int) < y := by omega
        clear g
        go_enter Try.func4, Try.ntmps4
        go_wp2_with fail
        refine R.out.mono ?_
        rintro e w1 ⟨rfl, hb1⟩
        go_wp2_with fail
        refine (N.out _ hb1).mono ?_
        rintro e w2 ⟨a, h, rfl, hT, hb2⟩
        have a2 := hb1.trans (hb2.mono hb1.size)
        have HT := Lib.hid hT; clear hT
        go_wp2_with fail
        refine (K.sliceBad _ a l0 h x y HT.out (by rw [HL.out]; exact G.out)).mono ?_
        rintro e w3 ⟨rfl, hb3⟩
        have a3 := a2.trans (hb3.mono a2.size)
        go_wp2_with fail
        refine (T3.out _).mono ?_
        rintro e w4 ⟨rfl, hb4⟩
        go_wp2_with fail
        go_ret
        exact ⟨rfl, a3.trans (hb4.mono a3.size)⟩
end
end Go.Proofs.Ytklghlaagoaadaa
