/- Cells: how wide all are; which are blank; which are stops. -/
import Derived.Test.YtnlhpbnonmdkdaaClO
import Derived.Test.YtnlhpbnonmdkdaaMid
import Derived.Deep.RegionHeld3
namespace Go.Proofs.Ytnlhpbnonmdkdaa
open Go.RowKit
set_option linter.unusedVariables false
theorem cell_info : (Try.prog.info? 35).map (fun i => (i.zero, i.size, i.bytes)) = some (some (.agg #[.int .i32 0, .int .i64 0, .int .i64 0, .int .i64 0]), 4, 32) := by kernel_rfl
theorem cell_slt : SlT Try.prog 22 35 4 32 := slt_of Try.underlying22 cell_info rfl (by kernel_rfl)
theorem bool_info : (Try.prog.info? 4).map (fun i => (i.zero, i.size, i.bytes)) = some (some (.bool false), 1, 1) := by kernel_rfl
theorem own_setM {w : World} {base : Nat} {e : TypeId} {size g cap n : Nat} {xs : List Value} (h : w.ownsRow base e size (.slice (some ⟨g, 0, none⟩) n cap) n xs) (i : Nat) (u : Value) : (w.setCell ⟨g, i, none⟩ u).ownsRow base e size (.slice (some ⟨g, 0, none⟩) n cap) n (xs.set i u) := by
  refine ⟨by rw [List.length_set]; exact h.1, .inr ?_⟩
  rcases h.2 with ⟨h2, _⟩ | ⟨g', cap', cur, hv, hB, c, h3, h4, h5, h6⟩
  · cases h2
  · injection hv with hv1 hv2 hv3
    injection hv1 with hv1
    injection hv1 with hv1
    subst hv1
    subst hv3
    refine ⟨g, cap, cur.setIfInBounds i u, rfl, hB, RawAt.set_ (t := e) c i u, h3, h4, by rw [Array.size_setIfInBounds]; exact h5, ?_⟩
    rw [Array.toList_setIfInBounds, List.take_set, h6]
theorem own_freeM {w : World} {base : Nat} {e : TypeId} {size g cap n : Nat} {xs : List Value} (h : w.ownsRow base e size (.slice (some ⟨g, 0, none⟩) n cap) n xs) (i : Nat) : w.frozen? ⟨g, i, none⟩ = false := by
  rcases h.2 with ⟨h2, _⟩ | ⟨g', cap', cur, hv, hB, c, h3, h4, h5, h6⟩
  · cases h2
  · injection hv with hv1 hv2 hv3
    injection hv1 with hv1
    injection hv1 with hv1
    subst hv1
    exact RawAt.free (t := e) c i
theorem wsum_take {l : List Cl} {j : Nat} (h : j < l.length) : wsum (l.take (j + 1)) = wsum (l.take j) + l[j].wd := by
  rw [List.take_succ_eq_append_getElem h, wsum_append]; simp [wsum]
theorem wsum_bd : ∀ (l : List Cl), (∀ x ∈ l, 0 ≤ x.wd ∧ x.wd ≤ 1099511627776) → 0 ≤ wsum l ∧ wsum l ≤ 1099511627776 * l.length
  | [], _ => by simp [wsum]
  | x :: l, h => by
    have ih := wsum_bd l (fun y hy => h y (by simp [hy]))
    have := h x (by simp)
    simp only [wsum, List.map_cons, List.sum_cons, List.length_cons] at ih ⊢
    omega
theorem RowsAt.cell4 {w : World} {A : Option Addr} {l : List Cl} (h : RowsAt encC 4 w A l) {j : Nat} (hj : j < l.length) : ∃ b off, A = some ⟨b, off, none⟩ ∧ b < w.heap.size ∧
    w.cell? ⟨b, off + j * 4, none⟩ = some (.int .i32 l[j].r) ∧ w.cell? ⟨b, off + j * 4 + 1, none⟩ = some (.int .i64 l[j].k) ∧ w.cell? ⟨b, off + j * 4 + 2, none⟩ = some (.int .i64 l[j].wd) ∧ w.cell? ⟨b, off + j * 4 + 3, none⟩ = some (.int .i64 l[j].p) := by
  obtain ⟨b, off, e, hb, hc⟩ := h.at1 hj
  exact ⟨b, off, e, hb, hc 0 (by omega), hc 1 (by omega), hc 2 (by omega), hc 3 (by omega)⟩
set_option maxHeartbeats 4000000 in
set_option maxRecDepth 100000 in
theorem cWidth_any (A : Option Addr) (n c : Nat) (l : List Cl) (w : World) (hA : RowsAt encC 4 w A l) (hl : l.length = n) (hn : n ≤ 1000000) (hb : ∀ x ∈ l, 0 ≤ x.wd ∧ x.wd ≤ 1099511627776) :
    Calls Try.prog 36 #[.slice A n c] w fun e w' => e = .returned (.int .i64 (wsum l)) ∧ Below w.heap.size w w' := by
  have HA := Lib.hid hA
  have HL := Lib.hid hl
  have HB := Lib.hid hb
  clear hA hl hb
  go_enter Try.func36, Try.ntmps36
  go_wp2_with fail
  go_loopg [3, 8] n (fun g s i wr => ∃ (j : Nat) (t : Int), i = .int .i64 j ∧ s = .int .i64 t ∧ j ≤ n ∧ n - j ≤ g ∧ Hid (t = wsum (l.take j)) ∧ Hid (Below w.heap.size w wr))
  case atStart => exact ⟨0, 0, rfl, rfl, by omega, by omega, Lib.hid (by simp [wsum]), Lib.hid (Below.refl _ _)⟩
  case round =>
    obtain ⟨j, t, rfl, rfl, h1, h2, ht, hb⟩ := hrel
    by_cases hlt : j < n
    · have hjl : j < l.length := by rw [HL.out]; exact hlt
      obtain ⟨bA, off, rfl, hbA, d0, d1, d2, d3⟩ := (HA.out.below hb.out).cell4 hjl
      have hw := wsum_take hjl
      rw [← ht.out] at hw
      have hx := HB.out _ (List.getElem_mem hjl)
      have ht1 := wsum_bd (l.take j) (fun x hx => HB.out x (List.mem_of_mem_take hx))
      rw [← ht.out, List.length_take, HL.out] at ht1
      have b1 : 0 ≤ t := ht1.1
      have b2 : t ≤ 1099511627776 * n := by have := ht1.2; omega
      clear ht1 ht
      have HW := Lib.hid hw.symm
      clear hw
      generalize l[j] = o at *
      obtain ⟨x1, x2⟩ := hx
      have i1 : (0 : Int) ≤ j := by omega
      have i2 : (j : Int) < n := by omega
      have R3 : RawAt 35 (wr.alloc (.cells #[.int .i32 o.r, .int .i64 o.k, .int .i64 o.wd, .int .i64 o.p] 35)) wr.heap.size #[.int .i32 o.r, .int .i64 o.k, .int .i64 o.wd, .int .i64 o.p] := heap_alloc_new wr _
      have e2 := RawAt.cell R3 2
      simp at e2
      have HB3 := Lib.hid (hb.out.trans (((Below.refl _ _).alloc (Nat.le_refl _) (.cells #[.int .i32 o.r, .int .i64 o.k, .int .i64 o.wd, .int .i64 o.p] 35)).mono hb.out.size))
      clear R3 hb
      go_wp2_with fail
      go_roundg (gk - 1)
      case measure => omega
      case rel => exact ⟨j + 1, t + o.wd, by go_num, rfl, by omega, by omega, HW, HB3⟩
    · obtain rfl : j = n := by omega
      have h5 := ht.out
      rw [List.take_of_length_le (by rw [HL.out]; omega)] at h5
      subst h5
      go_wp2
      go_ret
      exact ⟨rfl, hb.out⟩
set_option maxHeartbeats 4000000 in
theorem cBlank_any (o : Cl) (b : Bool) (hb : b = true ↔ o.r = 32 ∨ o.r = 9) (w : World) :
    Calls Try.prog 46 #[.agg #[.int .i32 o.r, .int .i64 o.k, .int .i64 o.wd, .int .i64 o.p]] w fun e w' => e = .returned (.bool b) ∧ Below w.heap.size w w' := by
  have R3 : RawAt 35 (w.alloc (.cells #[.int .i32 o.r, .int .i64 o.k, .int .i64 o.wd, .int .i64 o.p] 35)) w.heap.size #[.int .i32 o.r, .int .i64 o.k, .int .i64 o.wd, .int .i64 o.p] := heap_alloc_new w _
  have x3 : Below w.heap.size w (w.alloc (.cells #[.int .i32 o.r, .int .i64 o.k, .int .i64 o.wd, .int .i64 o.p] 35)) := (Below.refl _ _).alloc (Nat.le_refl _) _
  have e0 := RawAt.cell R3 0
  simp at e0
  have HX := Lib.hid x3
  clear R3 x3
  have HB := Lib.hid hb
  clear hb
  generalize o.r = r at *
  by_cases h1 : r = 32
  · subst h1
    have hbt : b = true := HB.out.2 (.inl rfl)
    subst hbt
    go_enter Try.func46, Try.ntmps46
    go_wp2
    go_ret
    exact ⟨rfl, HX.out⟩
  · have k1 : (r == 32) = false := by simpa using h1
    by_cases h2 : r = 9
    · subst h2
      have hbt : b = true := HB.out.2 (.inr rfl)
      subst hbt
      clear k1
      go_enter Try.func46, Try.ntmps46
      go_wp2
      go_ret
      exact ⟨rfl, HX.out⟩
    · have k2 : (r == 9) = false := by simpa using h2
      have hbt : b = false := by
        cases b
        · rfl
        · rcases HB.out.1 rfl with h | h
          · exact absurd h h1
          · exact absurd h h2
      subst hbt
      clear h1 h2
      go_enter Try.func46, Try.ntmps46
      go_wp2
      go_ret
      exact ⟨rfl, HX.out⟩
end Go.Proofs.Ytnlhpbnonmdkdaa
