/- The walk of the law on the sum of any right items. -/
import Derived.Test.YtajjodooojhhcaaItLaw
import Derived.Test.YtajjodooojhhcaaItSum
import Derived.Deep.RegionHeld3
namespace Go.Proofs.Ytajjodooojhhcaa
open Go.RowKit
theorem its_new (w : World) (t : TypeId) (x : I7) : ItsAt (w.alloc (.cells (ics x) t)) (some ⟨w.heap.size, 0, none⟩) [x] :=
  ItsAt.of_cells (by simp) (fun j u hu => by
    rw [cell_of_row _ _ _ _ _ _ (heap_alloc_new w _), ← Array.getElem?_toList, Nat.zero_add]
    exact hu)
set_option maxHeartbeats 4000000 in
set_option maxRecDepth 100000 in
theorem itemSums_walk (A0 : Option Addr) (n0 c0 : Nat) (l0 : List I7) (w : World) (hA0 : ItsAt w A0 l0) (hl0 : l0.length = n0) (hn0 : n0 ≤ maxLen) (_ : Caps A0 n0 c0) :
    Calls Try.prog 8 #[.slice A0 n0 c0] w fun e w' => e = .returned (.bool true) ∧ Below w.heap.size w w' := by
  unfold maxLen at hn0
  have HEQ := eq3
  have HA := Lib.hid hA0; clear hA0
  have HL := Lib.hid hl0; clear hl0
  by_cases hok : n0 ≤ 1000 ∧ Okl l0
  · obtain ⟨hk, ho⟩ := hok
    have CR := Lib.hid (rightl_any A0 n0 c0 l0 w HA.out HL.out (by omega) true ⟨fun _ => ⟨hk, ho⟩, fun _ => rfl⟩)
    have CA := Lib.hid fun (W : World) (hW : Below w.heap.size w W) => iall_any A0 n0 c0 l0 W (HA.out.below hW) HL.out (by omega) ho
    have CS := Lib.hid fun (W : World) (hW : Below w.heap.size w W) => isum_any A0 n0 c0 l0 W (HA.out.below hW) HL.out (by omega) ho
    have CF := Lib.hid fun (W : World) => srefs_any (sall l0) W
    have HO := Lib.hid ho; clear ho
    unfold scs at CA CS CF
    generalize sall l0 = u at *
    go_enter Try.func8, Try.ntmps8
    go_wp2_with fail
    refine CR.out.mono ?_
    rintro e w1 ⟨rfl, hb1⟩
    go_wp2_with fail
    go_loopg [11] n0 (fun k i wr => ∃ j : Nat, i = .int .i64 j ∧ j ≤ n0 ∧ n0 - j ≤ k ∧ Below w.heap.size w wr)
    case atStart => exact ⟨0, rfl, by omega, by omega, hb1⟩
    case round =>
      obtain ⟨j, rfl, h1, h2, hb⟩ := hrel
      by_cases hlt : j < n0
      · have hm : j < l0.length := by rw [HL.out]; exact hlt
        obtain ⟨b, off, rfl, hbs, hc⟩ := HA.out (by omega)
        obtain ⟨e0, e1, e2, e3, e4, e5, e6⟩ := hc j hm
        clear hc
        obtain ⟨H1, H2⟩ := old_cells hb
        have hox := HO.out _ (ith_mem l0 hm)
        generalize ith l0 j = x at *
        have DO : Hid (∀ (W : World), Calls Try.prog 23 #[.agg #[.int .i64 x.tag, .int .i64 x.id, .int .i64 x.d0, .int .i64 x.d1, .int .i64 x.d2, .int .i64 x.mx, .string x.tx]] W fun e w' => e = .returned (.agg #[.int .i64 (sof x).n, .int .i64 (sof x).d0, .int .i64 (sof x).d1, .int .i64 (sof x).d2, .int .i64 (sof x).mx, .int .i64 (sof x).pl]) ∧ Below W.heap.size W w') := fun W => iof_any x W
        have DF : Hid (∀ (W : World), Calls Try.prog 22 #[.agg #[.int .i64 (sof x).n, .int .i64 (sof x).d0, .int .i64 (sof x).d1, .int .i64 (sof x).d2, .int .i64 (sof x).mx, .int .i64 (sof x).pl]] W fun e w' => e = .returned (.agg #[.int .i64 (sof x).n, .int .i64 (sof x).d0, .int .i64 (sof x).d1, .int .i64 (sof x).d2, .int .i64 (sof x).mx, .int .i64 (sof x).pl]) ∧ Below W.heap.size W w') := fun W => srefs_any (sof x) W
        have DS : Hid (∀ (W : World) (A : Option Addr), ItsAt W A [x] → Calls Try.prog 24 #[.slice A 1 1] W fun e w' => e = .returned (.agg #[.int .i64 (sof x).n, .int .i64 (sof x).d0, .int .i64 (sof x).d1, .int .i64 (sof x).d2, .int .i64 (sof x).mx, .int .i64 (sof x).pl]) ∧ Below W.heap.size W w') := fun W A hA => isum_any A 1 1 [x] W hA rfl (by omega) (fun i hi => by rw [List.mem_singleton.1 hi]; exact hox)
        clear hox
        generalize sof x = y at *
        have hxb := hb.alloc hb.size (.cells (ics x) 41)
        have hx1 : RawAt 41 (wr.alloc (.cells (ics x) 41)) wr.heap.size (ics x) := heap_alloc_new wr _
        go_wp2_with fail
        change Code.wp _ _ _ _ (wr.alloc (.cells (ics x) 41))
        generalize (wr.alloc (.cells (ics x) 41)) = W1 at *
        generalize wr.heap.size = bx at hx1 ⊢
        clear hb H1 H2 e0 e1 e2 e3 e4 e5 e6
        have HX := Lib.hid hx1; clear hx1
        have MK := Lib.hid fun (W : World) (hW : Below W1.heap.size W1 W) => (raw_ics (RawAt.below HX.out hW (RawAt.lt HX.out)) : (fun W => W.cell? ⟨bx, 0, none⟩ = some (.int .i64 x.tag) ∧ W.cell? ⟨bx, 1, none⟩ = some (.int .i64 x.id) ∧ W.cell? ⟨bx, 2, none⟩ = some (.int .i64 x.d0) ∧ W.cell? ⟨bx, 3, none⟩ = some (.int .i64 x.d1) ∧ W.cell? ⟨bx, 4, none⟩ = some (.int .i64 x.d2) ∧ W.cell? ⟨bx, 5, none⟩ = some (.int .i64 x.mx) ∧ W.cell? ⟨bx, 6, none⟩ = some (.string x.tx)) W)
        have hW2 : Below W1.heap.size W1 W1.drew := (Below.refl _ _).drew
        have NA := Lib.hid (its_new W1.drew 41 x)
        go_region_held3 (fun W => W.cell? ⟨bx, 0, none⟩ = some (.int .i64 x.tag) ∧ W.cell? ⟨bx, 1, none⟩ = some (.int .i64 x.id) ∧ W.cell? ⟨bx, 2, none⟩ = some (.int .i64 x.d0) ∧ W.cell? ⟨bx, 3, none⟩ = some (.int .i64 x.d1) ∧ W.cell? ⟨bx, 4, none⟩ = some (.int .i64 x.d2) ∧ W.cell? ⟨bx, 5, none⟩ = some (.int .i64 x.mx) ∧ W.cell? ⟨bx, 6, none⟩ = some (.string x.tx)) (first | (with_reducible exact MK.out _ hW2) | (with_reducible exact MK.out _ (Below.refl _ _)) | (with_reducible exact MK.out _ ((Below.refl _ _).alloc (Nat.le_refl _) _).drew) | (with_reducible exact MK.out _ (hW2.alloc hW2.size _)) | go_keep)
          (first
            | (go_at_call 23; ((with_reducible refine (DO.out _).mono ?_); rintro e w2 ⟨rfl, hb2⟩); have hW2 : Below W1.heap.size W1 w2 := (by first | exact hW2.trans (hb2.mono hW2.size) | exact (hW2.alloc hW2.size _).trans (hb2.mono (Nat.le_trans hW2.size (by simp)))); have NB := Lib.hid (its_new w2 41 x))
            | (go_at_call 22; ((with_reducible refine (DF.out _).mono ?_); rintro e w3 ⟨rfl, hb3⟩); have hW2 : Below W1.heap.size W1 w3 := (by first | exact hW2.trans (hb3.mono hW2.size) | exact (hW2.alloc hW2.size _).trans (hb3.mono (Nat.le_trans hW2.size (by simp)))); have NC := Lib.hid (its_new w3 41 x))
            | (go_at_call 24; refine (DS.out _ _ (by first | exact NC.out | exact NB.out.below hb3 | exact (NA.out.below hb2).below hb3)).mono ?_; rintro e w4 ⟨rfl, hb4⟩; have hW2 : Below W1.heap.size W1 w4 := (by first | exact hW2.trans (hb4.mono hW2.size) | exact (hW2.alloc hW2.size _).trans (hb4.mono (Nat.le_trans hW2.size (by simp))))))
        all_goals
          have hf := hxb.trans (hW2.mono hxb.size)
          go_wp2
          go_roundg (gk - 1)
          case measure => omega
          case rel => exact ⟨j + 1, by go_num, by omega, by omega, hf⟩
      · have hj : n0 ≤ j := by omega
        have HJ := Lib.hid hj; clear hj
        go_wp2_with fail
        refine (CA.out _ hb).mono ?_
        rintro e w2 ⟨rfl, hb2⟩
        have a2 := hb.trans (hb2.mono hb.size)
        go_wp2_with fail
        refine (CF.out _).mono ?_
        rintro e w3 ⟨rfl, hb3⟩
        have a3 := a2.trans (hb3.mono a2.size)
        go_wp2_with fail
        refine (CS.out _ a3).mono ?_
        rintro e w4 ⟨rfl, hb4⟩
        have a4 := a3.trans (hb4.mono a3.size)
        go_wp2_with fail
        refine (both_any _).mono ?_
        rintro e w5 ⟨rfl, hb5⟩
        go_wp2_with fail
        go_ret
        exact ⟨rfl, a4.trans (hb5.mono a4.size)⟩
  · have CR := Lib.hid (rightl_any A0 n0 c0 l0 w HA.out HL.out (by omega) false ⟨fun h => absurd h (by simp), fun h => absurd h hok⟩)
    clear hok
    go_enter Try.func8, Try.ntmps8
    go_wp2_with fail
    refine CR.out.mono ?_
    rintro e w1 ⟨rfl, hb1⟩
    go_wp2_with fail
    refine (both_any _).mono ?_
    rintro e w2 ⟨rfl, hb2⟩
    go_wp2_with fail
    go_ret
    exact ⟨rfl, hb1.trans (hb2.mono hb1.size)⟩
end Go.Proofs.Ytajjodooojhhcaa
