/- Creases: the document's Starts. -/
import Derived.Test.YtdpmimlhchghlaaGreatCrR
namespace Go.Proofs.YtdpmimlhchghlaaGreat
open Go.RowKit
set_option linter.unusedVariables false
def encZ (x : Int) : List Value := [.int .i64 x]
theorem encZ_len (x : Int) : (encZ x).length = 1 := rfl
theorem encZ_one (x : Int) : ∀ v ∈ encZ x, v.oneCell' = true := by intro v hv; simp [encZ] at hv; subst hv; rfl
theorem cint_info : (Tryz.prog.info? 3).map (fun i => (i.zero, i.size, i.bytes)) = some (some (.int .i64 0), 1, 8) := by kernel_rfl
theorem cint_slt : SlT Tryz.prog 41 3 1 8 := slt_of Tryz.underlying41 cint_info rfl (by kernel_rfl)
def cstS (l : List (Int × Int)) (j : Nat) : List Int := (rng 0 j).filter (cbeg l)
theorem cstS_succ (l : List (Int × Int)) (j : Nat) : cstS l (j + 1) = cstS l j ++ (if cbeg l (j : Int) = true then [(j : Int)] else []) := by
  unfold cstS
  rw [rng_snoc, List.filter_append, Int.zero_add]
  by_cases h : cbeg l (j : Int) = true
  · rw [if_pos h, List.filter_cons_of_pos h]; rfl
  · rw [if_neg h, List.filter_cons_of_neg h]; rfl
theorem cstS_len (l : List (Int × Int)) : ∀ j, (cstS l j).length ≤ j := fun j => by
  have := List.length_filter_le (cbeg l) (rng 0 j)
  rw [rng_len] at this
  exact this
set_option maxHeartbeats 8000000 in
set_option maxRecDepth 100000 in
theorem rStarts16 (n : Nat) (A : Option Addr) (m c : Nat) (l : List (Int × Int)) (w : World) (hA : RowsAt wencS 2 w A l) (hl : l.length = m) (hm : m ≤ 1000000) (hn : n ≤ 1000000) :
    Calls Tryz.prog 20 #[.int .i64 n, .slice A m c] w fun e w' => ∃ v, e = .returned v ∧ w'.ownsRow w.heap.size 3 1 v (cstS l n).length (kfl encZ (cstS l n)) ∧ Below w.heap.size w w' := by
  have ST := cint_slt
  have HA := Lib.hid hA
  have HL := Lib.hid hl
  have HLE := Lib.hid (cstS_len l)
  have CH := Lib.hid fun (W : World) (hW : Below w.heap.size w W) (p : Int) => rHides16 A m c l p W (hA.below hW) hl hm
  clear hA hl
  go_enter Tryz.func20, Tryz.ntmps20
  go_wp2_with fail
  go_loopg [5, 6] n (fun g v i wr => ∃ (j : Nat) (u : Value), u = v ∧ i = .int .i64 j ∧ j ≤ n ∧ n - j ≤ g ∧ Hid (Below w.heap.size w wr) ∧ Hid (wr.ownsRow w.heap.size 3 1 u (cstS l j).length (kfl encZ (cstS l j))))
  case atStart => exact ⟨0, _, rfl, rfl, by omega, by omega, Lib.hid (Below.refl _ _), Lib.hid (World.ownsRow_nil _ _ _ _)⟩
  case round =>
    obtain ⟨j, u, rfl, rfl, j1, j2, hb, hown⟩ := hrel
    obtain ⟨A3, c3, rfl⟩ := own_form hown.out
    have hle := HLE.out j
    by_cases hlt : j < n
    · have k1 : decide ((j : Int) < (n : Int)) = true := decide_eq_true (by omega)
      have HSU := Lib.hid (cstS_succ l j)
      obtain ⟨N, hN⟩ : ∃ N, N = (cstS l j).length := ⟨_, rfl⟩
      rw [← hN] at hown hle
      rw [← hN]
      have HN := Lib.hid hN
      clear hN
      go_wp2_with fail
      with_reducible refine (CH.out _ hb.out j).mono ?_
      rintro e w4 ⟨r, rfl, hr, b4⟩
      have HB4 := Lib.hid (hb.out.trans (b4.mono hb.out.size))
      have HO4 := Lib.hid (own_below hown.out b4)
      clear b4 hb hown
      rcases hr with ⟨rfl, hc⟩ | ⟨i, hi, rfl, hc⟩
      · have hbe : cbeg l (j : Int) = true := by unfold cbeg; rw [hc]
        have HSN : Hid (cstS l (j + 1) = cstS l j ++ [(j : Int)]) := Lib.hid (by rw [HSU.out, if_pos hbe])
        clear hbe hc HSU
        have x9 : Below w4.heap.size w4 (w4.alloc (.cells #[.int .i64 (j : Int)] 3)) := (Below.refl _ _).alloc (Nat.le_refl _) _
        have S9 := Lib.hid (rows_of_block (enc := encZ) (k := 1) encZ_len (heap_alloc_new w4 _ : RawAt 3 (w4.alloc (.cells #[.int .i64 (j : Int)] 3)) w4.heap.size #[.int .i64 (j : Int)]) (l := [(j : Int)]) rfl)
        have O9 := Lib.hid (own_below HO4.out x9)
        have B9 := Lib.hid (HB4.out.trans (x9.mono HB4.out.size))
        have lt9 := O9.out.lt
        clear x9
        go_wp2_with (at_builtin; refine wpList_appK (enc := encZ) ST encZ_len (by omega) rfl (.tmp 27) (.tmp 29) rfl (base := w.heap.size) (v := .slice A3 N c3) rfl O9.out _ 1 1 [(j : Int)] rfl S9.out ⟨Nat.le_refl _, fun h => by cases h⟩ rfl (kfl_one' encZ_one _) (by simp only [maxLen]; omega) (by omega) (by have := B9.out.size; omega) ?_; intro v9 w9 hown9 hg9 hor9; have HB9 := Lib.hid (B9.out.grown hg9 B9.out.size (fun j hj => by have := (lt9 j hj).1; omega)); have HO9 := Lib.hid hown9; clear hown9 hg9 hor9 O9 B9 S9 lt9)
        have HOX : Hid (w9.ownsRow w.heap.size 3 1 v9 (cstS l (j + 1)).length (kfl encZ (cstS l (j + 1)))) := Lib.hid (by rw [HSN.out, List.length_append, List.length_singleton, ← HN.out, kfl_append]; exact HO9.out)
        go_roundg (gk - 1)
        case measure => omega
        case rel => exact ⟨j + 1, _, rfl, by go_num, by omega, by omega, HB9, HOX⟩
      · have hbe : cbeg l (j : Int) = decide (l[i].1 = (j : Int)) := by unfold cbeg; rw [hc]
        obtain ⟨bA, off, hAe, hbA, d0, d1⟩ := wrowsS (HA.out.below HB4.out) hi
        subst hAe
        have him : i < m := by rw [← HL.out]; exact hi
        have i1 : (0 : Int) ≤ i := by omega
        have i2 : (i : Int) < m := by omega
        have k2 : decide ((i : Int) < 0) = false := decide_eq_false (by omega)
        have HBE := Lib.hid hbe
        clear hbe hc
        generalize l[i] = x at *
        obtain ⟨x1, x2⟩ := x
        simp only at *
        by_cases g : x1 = (j : Int)
        · have k3 : (x1 == (j : Int)) = true := by simpa using g
          have HSN : Hid (cstS l (j + 1) = cstS l j ++ [(j : Int)]) := Lib.hid (by rw [HSU.out, if_pos (by rw [HBE.out]; exact decide_eq_true g)])
          clear HBE HSU g
          have x9 : Below w4.heap.size w4 (w4.alloc (.cells #[.int .i64 (j : Int)] 3)) := (Below.refl _ _).alloc (Nat.le_refl _) _
          have S9 := Lib.hid (rows_of_block (enc := encZ) (k := 1) encZ_len (heap_alloc_new w4 _ : RawAt 3 (w4.alloc (.cells #[.int .i64 (j : Int)] 3)) w4.heap.size #[.int .i64 (j : Int)]) (l := [(j : Int)]) rfl)
          have O9 := Lib.hid (own_below HO4.out x9)
          have B9 := Lib.hid (HB4.out.trans (x9.mono HB4.out.size))
          have lt9 := O9.out.lt
          clear x9
          go_wp2_with (at_builtin; refine wpList_appK (enc := encZ) ST encZ_len (by omega) rfl (.tmp 27) (.tmp 29) rfl (base := w.heap.size) (v := .slice A3 N c3) rfl O9.out _ 1 1 [(j : Int)] rfl S9.out ⟨Nat.le_refl _, fun h => by cases h⟩ rfl (kfl_one' encZ_one _) (by simp only [maxLen]; omega) (by omega) (by have := B9.out.size; omega) ?_; intro v9 w9 hown9 hg9 hor9; have HB9 := Lib.hid (B9.out.grown hg9 B9.out.size (fun j hj => by have := (lt9 j hj).1; omega)); have HO9 := Lib.hid hown9; clear hown9 hg9 hor9 O9 B9 S9 lt9)
          have HOX : Hid (w9.ownsRow w.heap.size 3 1 v9 (cstS l (j + 1)).length (kfl encZ (cstS l (j + 1)))) := Lib.hid (by rw [HSN.out, List.length_append, List.length_singleton, ← HN.out, kfl_append]; exact HO9.out)
          go_roundg (gk - 1)
          case measure => omega
          case rel => exact ⟨j + 1, _, rfl, by go_num, by omega, by omega, HB9, HOX⟩
        · have k3 : (x1 == (j : Int)) = false := by simpa using g
          have HSN : Hid (cstS l (j + 1) = cstS l j) := Lib.hid (by rw [HSU.out, if_neg (by rw [HBE.out]; simpa using g), List.append_nil])
          clear HBE HSU g
          have HOX : Hid (w4.ownsRow w.heap.size 3 1 (.slice A3 N c3) (cstS l (j + 1)).length (kfl encZ (cstS l (j + 1)))) := Lib.hid (by rw [HSN.out, ← HN.out]; exact HO4.out)
          go_wp2
          go_roundg (gk - 1)
          case measure => omega
          case rel => exact ⟨j + 1, _, rfl, by go_num, by omega, by omega, HB4, HOX⟩
    · obtain rfl : j = n := by omega
      have k1 : decide ((j : Int) < (j : Int)) = false := decide_eq_false (by omega)
      have HO := hown
      clear hown
      go_wp2
      go_ret
      exact ⟨_, rfl, HO.out, hb.out⟩
end Go.Proofs.YtdpmimlhchghlaaGreat
