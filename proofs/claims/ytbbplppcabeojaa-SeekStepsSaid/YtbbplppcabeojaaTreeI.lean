/- Methods of trees: Items, At, spans, Sound. -/
import Derived.Test.YtbbplppcabeojaaTreeT
import Derived.Deep.RegionWith
namespace Go.Proofs.Ytbbplppcabeojaa
open Go.RowKit
theorem tsum_n (p : Option Addr) (l : List I7) (h : Nat) (w : World) (ht : TP w p l h) :
    Calls Try.prog 28 #[.pointer p] w fun e w' => e = .returned (.agg #[.int .i64 l.length, .int .i64 (sall l).d0, .int .i64 (sall l).d1, .int .i64 (sall l).d2, .int .i64 (sall l).mx, .int .i64 (sall l).pl]) ∧ Below w.heap.size w w' := by
  have := tsum_any p l h w ht
  unfold scs at this
  rwa [sall_n _ ht.okl.1] at this
theorem root_nil (w : World) : Calls Try.prog 54 #[.pointer none] w fun e w' => e = .returned .nilIface ∧ w' = w := by
  go_enter Try.func54, Try.ntmps54
  go_wp2
  go_ret
  exact ⟨rfl, rfl⟩
theorem root_some (b : Nat) (v : Value) (w : World) (e0 : w.cell? ⟨b, 0, none⟩ = some v) : Calls Try.prog 54 #[.pointer (some ⟨b, 0, none⟩)] w fun e w' => e = .returned v ∧ w' = w := by
  go_enter Try.func54, Try.ntmps54
  go_wp2
  go_ret
  exact ⟨rfl, rfl⟩
theorem root_fix {p : Option Addr} {l : List I7} {h : Nat} {w : World} (ht : TP w p l h) : ∃ v, Top w v l h ∧ ∀ W, Below w.heap.size w W → Calls Try.prog 54 #[.pointer p] W fun e w' => e = .returned v ∧ w' = W := by
  rcases ht with ⟨rfl, rfl, rfl⟩ | ⟨b, v, rfl, h2, h3, _⟩
  · exact ⟨_, .inl ⟨rfl, rfl, rfl⟩, fun W _ => root_nil W⟩
  · exact ⟨v, h3, fun W hW => root_some b v W (RawAt.cell (h2.below hW h2.lt) 0)⟩
theorem make_items (N : Nat) (hN : N ≤ 1000000) : ∃ M : Array Value, M.size = N * 7 ∧ ∀ W : World, (Instr.makeSlice 22 (.int .i64 0) (.int .i64 N)).run Try.prog W = .ok (.slice (some ⟨W.heap.size, 0, none⟩) 0 N) (W.alloc (.cells M 54)) := by
  obtain ⟨i0, hi0, hz0, hz1, hz2⟩ := info_parts item_info
  refine ⟨madeCells (Value.agg #[.int .i64 0, .int .i64 0, .int .i64 0, .int .i64 0, .int .i64 0, .int .i64 0, .string ⟨#[]⟩]).cells (N * i0.size), by rw [size_madeCells, hz1], fun W => ?_⟩
  have := run_make (P := Try.prog) W 22 54 i0 _ Try.underlying22 hi0 hz0 .i64 .i64 0 (N : Int) (by omega) (by omega) (by rw [hz2]; omega) (by omega)
  simpa only [Int.toNat_zero, Int.toNat_natCast] using this
theorem own_make (w : World) (N : Nat) (hN : N ≤ 1000000) (M : Array Value) (hM : M.size = N * 7) : (w.alloc (.cells M 54)).ownsRow w.heap.size 54 7 (.slice (some ⟨w.heap.size, 0, none⟩) 0 N) 0 [] :=
  ⟨by simp, .inr ⟨w.heap.size, N, _, rfl, Nat.le_refl _, heap_alloc_new w _, Nat.zero_le _, by unfold maxLen; omega, hM, by simp⟩⟩
set_option maxHeartbeats 4000000 in
set_option maxRecDepth 100000 in
theorem titems_any (p : Option Addr) (l : List I7) (h : Nat) (w : World) (ht : TP w p l h) :
    Calls Try.prog 57 #[.pointer p] w fun e w' => ∃ A c, e = .returned (.slice A l.length c) ∧ Below w.heap.size w w' ∧ ItsAt w' A l ∧ Caps A l.length c := by
  have C1 := Lib.hid fun (W : World) (hW : Below w.heap.size w W) => tsum_n p l h W (ht.below hW)
  obtain ⟨v, hT, hroot⟩ := root_fix ht
  have C2 := Lib.hid hroot
  have HT := Lib.hid hT
  obtain ⟨ho, hz⟩ := ht.okl
  have tf := fld_n
  clear hroot hT ht ho
  have C3 := Lib.hid fun (u : Value) (W : World) (base : Nat) (hb : Below w.heap.size w W) (h0 : w.heap.size ≤ base) (h1 : base ≤ W.heap.size) (hown : W.ownsRow base 54 7 u 0 []) => gather_any v l h u base w W HT.out hb h0 h1 hown (by omega)
  generalize hN : l.length = N at *
  clear hN
  obtain ⟨M, hM, mk⟩ := make_items N (by omega)
  go_enter Try.func57, Try.ntmps57
  go_wp2_with fail
  have hW2 : Below w.heap.size w w.drew := (Below.refl _ _).drew
  go_region_with (first
    | (go_at_call 28; ((with_reducible refine (C1.out _ hW2).mono ?_); rintro e w1 ⟨rfl, hb1⟩); have hW2 := hW2.trans (hb1.mono hW2.size); have hA0 := hW2.alloc hW2.size (.cells M 54))
    | (go_at_call 54; ((with_reducible refine (C2.out _ (by first | (with_reducible exact hW2) | (with_reducible exact hA0))).mono ?_); rintro e w2 ⟨rfl, hw2⟩); have hw2 := hw2.symm; subst hw2)
    | (go_at_call 96; ((with_reducible refine (C3.out _ _ w1.heap.size hA0 hW2.size (by simp) (own_make w1 N (by omega) M hM)).mono ?_); rintro e w3 ⟨A3, c3, rfl, hb3, hI3, hC3⟩)))
  all_goals
    have HI3 := Lib.hid hI3
    have HC3 := Lib.hid hC3
    clear hI3 hC3
    go_wp2
    go_ret
    exact ⟨A3, c3, rfl, hb3, HI3.out, HC3.out⟩
set_option maxHeartbeats 4000000 in
set_option maxRecDepth 100000 in
theorem spans_any (p : Option Addr) (l : List I7) (h : Nat) (x y : Int) (w : World) (ht : TP w p l h) (sb : Bool) (hsb : sb = true ↔ 0 ≤ x ∧ x ≤ y ∧ y ≤ l.length) :
    Calls Try.prog 52 #[.pointer p, .int .i64 x, .int .i64 y] w fun e w' => e = .returned (.bool sb) ∧ Below w.heap.size w w' := by
  have C1 := Lib.hid (tsum_n p l h w ht)
  have tf := fld_n
  have HF := Lib.hid hsb; clear hsb
  clear ht
  by_cases g1 : x < 0
  · have HX := Lib.hid (ab_no HF.out (fun h => by omega))
    go_enter Try.func52, Try.ntmps52
    go_wp2_with fail
    go_ret
    exact ⟨ret_bool HX.out, Below.refl _ _⟩
  · by_cases g2 : y < x
    · have HX := Lib.hid (ab_no HF.out (fun h => by omega))
      go_enter Try.func52, Try.ntmps52
      go_wp2_with fail
      go_ret
      exact ⟨ret_bool HX.out, Below.refl _ _⟩
    · by_cases g3 : y ≤ l.length
      · have HX := Lib.hid (ab_yes HF.out ⟨by omega, by omega, g3⟩)
        go_enter Try.func52, Try.ntmps52
        go_wp2_with fail
        refine C1.out.mono ?_
        rintro e w1 ⟨rfl, hb1⟩
        go_wp2_with fail
        go_ret
        exact ⟨ret_bool (by simpa using HX.out), hb1⟩
      · have HX := Lib.hid (ab_no HF.out (fun h => by omega))
        go_enter Try.func52, Try.ntmps52
        go_wp2_with fail
        refine C1.out.mono ?_
        rintro e w1 ⟨rfl, hb1⟩
        go_wp2_with fail
        go_ret
        exact ⟨ret_bool (by first | exact HX.out | exact (decide_eq_false (by omega)).trans HX.out), hb1⟩
end Go.Proofs.Ytbbplppcabeojaa
