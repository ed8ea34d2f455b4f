/- The small case of the laws on stops. -/
import Derived.Test.YtbalafgoengppaaDoorStS
namespace Go.Proofs.YtbalafgoengppaaDoor
open Go.RowKit
set_option linter.unusedVariables false
theorem TabV.of {w : World} {tb : Nat} {zs ws : List (Int × Int)} (h : TabAt w tb zs ws) : TabV w (.pointer (some ⟨tb, 0, none⟩)) (wid zs ws) := .inl ⟨tb, zs, ws, rfl, rfl, h⟩
theorem i32_of {w : World} {b : Nat} {l : List Int} {cs : Array Value} {t : TypeId} (h : RawAt t w b cs) (hc : cs.toList = l.map (.int .i32)) : IntsAt .i32 w (some ⟨b, 0, none⟩) l := IntsAt.of_block h hc
theorem i64_of {w : World} {b : Nat} {l : List Int} {cs : Array Value} {t : TypeId} (h : RawAt t w b cs) (hc : cs.toList = l.map (.int .i64)) : IntsAt .i64 w (some ⟨b, 0, none⟩) l := IntsAt.of_block h hc
theorem tab_szs : szs (wid zeroL wideL) 4 0 [97, 9, 98] = [1, 3, 1] := by decide
theorem tab_pl {e : Ending} (h : PlRes [1, 3, 1] 2 e) : e = .returned (.tuple #[.int .i64 1, .int .i64 1, .int .i64 0]) := by
  rcases h with ⟨h | h, _⟩ | ⟨_, _, p, hp, he⟩
  · exact absurd h (by decide)
  · exact absurd h (by decide)
  · have h1 : PlaceIs [1, 3, 1] 2 1 := ⟨by decide, by decide, fun i h1 h2 => by
      have : i = 2 ∨ i = 3 := by simp at h2; omega
      rcases this with rfl | rfl <;> decide⟩
    obtain rfl := hp.unique h1
    exact he
set_option maxHeartbeats 4000000 in
set_option maxRecDepth 100000 in
theorem stTab_any (w : World) (h : Tabs w) : Calls Tryd.prog 13 #[] w fun e w' => e = .returned (.bool true) ∧ Below w.heap.size w w' := by
  have CP := Lib.hid fun W (hb : Below w.heap.size w W) => plain_any W (h.below hb)
  have CI := Lib.hid fun A B c d W hA hB => pints_any A B 3 c d [1, 3, 1] W hA hB rfl (by omega)
  clear h
  go_enter Tryd.func13, Tryd.ntmps13
  go_wp2_with fail
  with_reducible refine (CP.out _ (Below.refl _ _)).mono ?_
  rintro e w1 ⟨tb, rfl, hb1, ht1⟩
  have x2 : Below w1.heap.size w1 (w1.alloc (.cells #[.int .i32 97, .int .i32 9, .int .i32 98] 21)) := (Below.refl _ _).alloc (Nat.le_refl _) _
  have R2 : RawAt 21 (w1.alloc (.cells #[.int .i32 97, .int .i32 9, .int .i32 98] 21)) w1.heap.size #[.int .i32 97, .int .i32 9, .int .i32 98] := heap_alloc_new w1 _
  have CS := Lib.hid (sSizes_any _ _ (some ⟨w1.heap.size, 0, none⟩) 3 3 [97, 9, 98] 4 _ (TabV.of (ht1.below x2)) (i32_of R2 rfl) rfl (by omega) (by omega) (by omega))
  rw [tab_szs] at CS
  have HB2 := Lib.hid (hb1.trans (x2.mono hb1.size))
  clear x2 R2 ht1 hb1
  go_wp2_with fail
  with_reducible refine (CS.out).mono ?_
  rintro e w3 ⟨v3, rfl, o3, hb3⟩
  obtain ⟨A3, c3, rfl, I3, _, _⟩ := IntsAt.of_own o3
  have HI3 := Lib.hid I3
  have HB3 := Lib.hid (HB2.out.trans (hb3.mono HB2.out.size))
  clear o3 hb3 I3 CS HB2
  go_wp2_with fail
  with_reducible refine (CP.out _ HB3.out).mono ?_
  rintro e w4 ⟨tb4, rfl, hb4, ht4⟩
  have x5 : Below w4.heap.size w4 (w4.alloc (.cells #[.int .i32 97, .int .i32 9, .int .i32 98] 21)) := (Below.refl _ _).alloc (Nat.le_refl _) _
  have R5 : RawAt 21 (w4.alloc (.cells #[.int .i32 97, .int .i32 9, .int .i32 98] 21)) w4.heap.size #[.int .i32 97, .int .i32 9, .int .i32 98] := heap_alloc_new w4 _
  have CQ := Lib.hid (sPlace_any _ _ (some ⟨w4.heap.size, 0, none⟩) 3 3 [97, 9, 98] 4 2 _ (TabV.of (ht4.below x5)) (i32_of R5 rfl) rfl (by omega) (by omega) (by omega))
  rw [tab_szs] at CQ
  have HB5 := Lib.hid (hb4.trans (x5.mono hb4.size))
  clear x5 R5 ht4 hb4
  go_wp2_with fail
  with_reducible refine (CQ.out).mono ?_
  rintro e w6 ⟨hpl, hb6⟩
  obtain rfl := tab_pl hpl
  have q6 := HB5.out.trans (hb6.mono HB5.out.size)
  have x7 : Below w6.heap.size w6 (w6.alloc (.cells #[.int .i64 1, .int .i64 3, .int .i64 1] 3)) := (Below.refl _ _).alloc (Nat.le_refl _) _
  have R7 : RawAt 3 (w6.alloc (.cells #[.int .i64 1, .int .i64 3, .int .i64 1] 3)) w6.heap.size #[.int .i64 1, .int .i64 3, .int .i64 1] := heap_alloc_new w6 _
  have q7 := q6.trans (x7.mono q6.size)
  have CI7 := Lib.hid (CI.out A3 (some ⟨w6.heap.size, 0, none⟩) c3 3 _ (HI3.out.below q7) (i64_of R7 rfl))
  have HB7 := Lib.hid (HB3.out.trans (q7.mono HB3.out.size))
  clear hpl hb6 q6 x7 R7 q7 CQ CI
  go_wp2_with fail
  with_reducible refine (CI7.out).mono ?_
  rintro e w8 ⟨rfl, hb8⟩
  have HB8 := Lib.hid (HB7.out.trans (hb8.mono HB7.out.size))
  clear hb8
  go_wp2
  go_ret
  exact ⟨rfl, HB8.out⟩
end Go.Proofs.YtbalafgoengppaaDoor
