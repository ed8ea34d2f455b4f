/- The small case that each law of widths asks: the contract of three. -/
import Derived.Test.YtapamkefcfnbpaaDoorPlain
namespace Go.Proofs.YtapamkefcfnbpaaDoor
open Go.RowKit
theorem IntsAt.of_block {kd : IntKind} {w : World} {g : Nat} {l : List Int} {cs : Array Value} {t : TypeId} {fz : Nat × Nat} (h : w.heap[g]? = some (.cells cs t fz)) (hc : cs.toList = l.map (.int kd)) : IntsAt kd w (some ⟨g, 0, none⟩) l := by
  intro _
  refine ⟨g, 0, rfl, block_lt h, fun k hk => ?_⟩
  rw [cell_of_row w g _ cs t fz h, ← Array.getElem?_toList, hc, Nat.zero_add]
  simp [nth, List.getD, hk]
set_option maxHeartbeats 400000 in
theorem three_any (w : World) (h : Tabs w) : Calls Tryd.prog 28 #[] w fun e w' => e = .returned (.bool true) ∧ Below w.heap.size w w' := by
  have H := Lib.hid h; clear h
  go_enter Tryd.func28, Tryd.ntmps28
  go_wp2_with fail
  refine (plain_any _ H.out).mono ?_
  rintro e w1 ⟨tb, rfl, hb1, ht1⟩
  go_wp2_with fail
  refine (of_any tb zeroL wideL 97 _ ht1).mono ?_
  rintro e w2 ⟨rfl, hb2⟩
  rw [show wid zeroL wideL 97 = 1 from by decide]
  go_wp2_with fail
  refine (of_any tb zeroL wideL 19968 _ (ht1.below hb2)).mono ?_
  rintro e w3 ⟨rfl, hb3⟩
  rw [show wid zeroL wideL 19968 = 2 from by decide]
  go_wp2_with fail
  refine (of_any tb zeroL wideL 769 _ ((ht1.below hb2).below hb3)).mono ?_
  rintro e w4 ⟨rfl, hb4⟩
  rw [show wid zeroL wideL 769 = 0 from by decide]
  go_wp2_with fail
  have ht4 := ((ht1.below hb2).below hb3).below hb4
  refine (sum_any tb zeroL wideL (some ⟨w4.heap.size, 0, none⟩) 3 3 [97, 19968, 769] _ (ht4.below ((Below.refl _ _).alloc (Nat.le_refl _) _)) (IntsAt.of_block (heap_alloc_new w4 _) rfl) rfl (by omega)).mono ?_
  rintro e w5 ⟨rfl, hb5⟩
  rw [show (([97, 19968, 769] : List Int).map (wid zeroL wideL)).sum = 3 from by decide]
  go_wp2_with fail
  go_ret
  have a2 := hb1.trans (hb2.mono hb1.size)
  have a3 := a2.trans (hb3.mono a2.size)
  have a4 := a3.trans (hb4.mono a3.size)
  have a5 := a4.alloc a4.size (.cells #[.int .i32 97, .int .i32 19968, .int .i32 769] 21)
  exact ⟨rfl, a5.trans (hb5.mono a5.size)⟩
end Go.Proofs.YtapamkefcfnbpaaDoor
