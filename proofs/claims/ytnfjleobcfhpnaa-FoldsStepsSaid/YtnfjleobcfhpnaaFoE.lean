/- Folds: Hidden of any set and of none; Over. -/
import Derived.Test.YtnfjleobcfhpnaaFoD
namespace Go.Proofs.Ytnfjleobcfhpnaa
open Go.RowKit Go.Sort
set_option linter.unusedVariables false
theorem fHidden_any {sb : Nat} {n : Int} {o : List Fo} {w : World} (h : FSet w sb n o) (ho : o.length ≤ 100000) : Calls Try.prog 23 #[.pointer (some ⟨sb, 0, none⟩)] w fun e w' => ∃ v, e = .returned v ∧ w'.ownsRow w.heap.size 33 2 v (hidL o).length (kfl encF (hidL o)) ∧ Below w.heap.size w w' := by
  obtain ⟨v, h1, h2⟩ := h
  obtain ⟨A, c, rfl, hR, _, _⟩ := rows_of_own encF_len (by omega) h2
  exact fHidden_rows _ A c n hR ho (fKept_any h1)
theorem fHidden_nil (w : World) : Calls Try.prog 23 #[.pointer none] w fun e w' => ∃ v, e = .returned v ∧ w'.ownsRow w.heap.size 33 2 v 0 [] ∧ Below w.heap.size w w' :=
  fHidden_rows (o := []) _ none 0 0 (fun h => absurd h (by simp)) (by simp) (fKept_nil w)
/-- The first span that has a place in it. -/
def ovL (h : List Fo) (at_ : Int) : Option Fo := h.find? fun x => decide (x.f < at_ ∧ at_ < x.t)
theorem ovL_step {h : List Fo} {k : Nat} {at_ : Int} (hk : k < h.length) : ovL (h.drop k) at_ = if h[k].f < at_ ∧ at_ < h[k].t then some h[k] else ovL (h.drop (k + 1)) at_ := by
  unfold ovL
  rw [List.drop_eq_getElem_cons hk, List.find?_cons]
  by_cases g : h[k].f < at_ ∧ at_ < h[k].t <;> simp [g]
/-- What Over answers. -/
def ovA (r : Option Fo) : Fo := match r with | some x => x | none => ⟨0, 0⟩
set_option maxHeartbeats 16000000 in
set_option maxRecDepth 100000 in
theorem fOver_rows {w : World} (q : Value) (at_ : Int) (hs : List Fo) (hl : hs.length ≤ 100000)
    (CH0 : ∀ W, Below w.heap.size w W → Calls Try.prog 23 #[q] W fun e w' => ∃ v, e = .returned v ∧ w'.ownsRow W.heap.size 33 2 v hs.length (kfl encF hs) ∧ Below W.heap.size W w') :
    Calls Try.prog 14 #[q, .int .i64 at_] w fun e w' => e = .returned (.tuple #[.agg #[.int .i64 (ovA (ovL hs at_)).f, .int .i64 (ovA (ovL hs at_)).t], .bool (ovL hs at_).isSome]) ∧ Below w.heap.size w w' := by
  obtain ⟨m, hm⟩ : ∃ m, m = hs.length := ⟨_, rfl⟩
  have HM := Lib.hid hm
  rw [← hm] at hl CH0
  obtain ⟨r, hr⟩ : ∃ r, r = ovL hs at_ := ⟨_, rfl⟩
  have HR := Lib.hid hr
  rw [← hr]
  have x0 : Below w.heap.size w (w.alloc (.cells #[.int .i64 0, .int .i64 0] 33)) := (Below.refl _ _).alloc (Nat.le_refl _) _
  have r0 : RawAt 33 (w.alloc (.cells #[.int .i64 0, .int .i64 0] 33)) w.heap.size #[.int .i64 0, .int .i64 0] := heap_alloc_new w _
  have CH := Lib.hid (CH0 _ x0)
  have X0 := Lib.hid x0
  have R0 := Lib.hid r0
  clear CH0 hr hm x0 r0
  go_enter Try.func14, Try.ntmps14
  go_wp2_with fail
  with_reducible refine (CH.out).mono ?_
  rintro e1 w1 ⟨v1, rfl, o1, b1⟩
  have o1' := o1
  rw [HM.out] at o1'
  obtain ⟨A1, c1, e1, hR1, _, _⟩ := rows_of_own encF_len (by omega) o1'
  rw [← HM.out] at e1
  subst e1
  have HR1 := Lib.hid hR1
  have HB1 := Lib.hid (X0.out.trans (b1.mono X0.out.size))
  have HZ1 := Lib.hid (RawAt.below R0.out b1 R0.out.lt)
  clear o1 o1' hR1 b1 CH R0 X0
  go_wp2_with fail
  go_loopg [11] m (fun g i wr => ∃ (k : Nat), i = .int .i64 k ∧ k ≤ m ∧ m - k ≤ g ∧ Hid (Below w.heap.size w wr) ∧ Hid (Below w1.heap.size w1 wr) ∧ Hid (r = ovL (hs.drop k) at_))
  case atStart => exact ⟨0, rfl, by omega, by omega, HB1, Lib.hid (Below.refl _ _), Lib.hid (by simpa using HR.out)⟩
  case round =>
    clear HB1 HR
    obtain ⟨k, rfl, h1, h2, hb, hb1, hr⟩ := hrel
    have u0 := RawAt.below HZ1.out hb1.out HZ1.out.lt
    have q0 := RawAt.cell u0 0
    have q1 := RawAt.cell u0 1
    have f0 := RawAt.free u0 0
    have f1 := RawAt.free u0 1
    simp at q0 q1
    by_cases hlt : k < m
    · have hkl : k < hs.length := by rw [← HM.out]; exact hlt
      obtain ⟨bA, off, rfl, hbA, hce⟩ := (HR1.out.below hb1.out).at1 hkl
      have d0 := hce 0 (by omega)
      have d1 := hce 1 (by omega)
      rw [Nat.add_zero] at d0
      have hst := hr.out
      rw [ovL_step hkl] at hst
      have HST := Lib.hid hst
      clear hst hce hr
      generalize hs[k] = x at *
      simp [encF] at d0 d1
      have i1 : (0 : Int) ≤ k := by omega
      have i2 : (k : Int) < m := by omega
      have x3 : Below wr.heap.size wr (wr.alloc (.cells #[.int .i64 x.f, .int .i64 x.t] 33)) := (Below.refl _ _).alloc (Nat.le_refl _) _
      have R3 : RawAt 33 (wr.alloc (.cells #[.int .i64 x.f, .int .i64 x.t] 33)) wr.heap.size #[.int .i64 x.f, .int .i64 x.t] := heap_alloc_new wr _
      have c0 := RawAt.cell R3 0
      have c1 := RawAt.cell R3 1
      simp at c0 c1
      have HB3 := Lib.hid (hb.out.trans (x3.mono hb.out.size))
      have HB13 := Lib.hid (hb1.out.trans (x3.mono hb1.out.size))
      have u3 := RawAt.below u0 x3 u0.lt
      have HU3 := Lib.hid u3
      have y0 := RawAt.cell u3 0
      have y1 := RawAt.cell u3 1
      have y2 := RawAt.free u3 0
      have y3 := RawAt.free u3 1
      simp at y0 y1
      have hlw : w.heap.size < wr.heap.size := u0.lt
      have HU0 := Lib.hid u0
      have HB0 := Lib.hid hb.out
      clear R3 hb hb1 u0 u3
      by_cases g1 : x.f < at_
      · have k1 : decide (x.f < at_) = true := decide_eq_true g1
        by_cases g2 : at_ < x.t
        · have k2 : decide (at_ < x.t) = true := decide_eq_true g2
          have e : r = some x := by rw [HST.out, if_pos ⟨g1, g2⟩]
          subst e
          clear HST g1 g2
          have t00 := (HU0.out.set_ 0 (.int .i64 x.f)).set_ 1 (.int .i64 x.t)
          have hbz := (HB0.out.setCell (p := ⟨w.heap.size, 0, none⟩) (Nat.le_refl _) (.int .i64 x.f)).setCell (p := ⟨w.heap.size, 1, none⟩) (Nat.le_refl _) (.int .i64 x.t)
          have x5 : Below ((wr.setCell ⟨w.heap.size, 0, none⟩ (.int .i64 x.f)).setCell ⟨w.heap.size, 1, none⟩ (.int .i64 x.t)).heap.size ((wr.setCell ⟨w.heap.size, 0, none⟩ (.int .i64 x.f)).setCell ⟨w.heap.size, 1, none⟩ (.int .i64 x.t)) (((wr.setCell ⟨w.heap.size, 0, none⟩ (.int .i64 x.f)).setCell ⟨w.heap.size, 1, none⟩ (.int .i64 x.t)).alloc (.cells #[.int .i64 x.f, .int .i64 x.t] 33)) := (Below.refl _ _).alloc (Nat.le_refl _) _
          have t0 := RawAt.below t00 x5 t00.lt
          have HBZ := Lib.hid (hbz.trans (x5.mono hbz.size))
          have z0 := RawAt.cell t0 0
          have z1 := RawAt.cell t0 1
          simp at z0 z1
          clear t00 hbz x5
          clear t0
          go_wp2
          refine bodyPost_ret (v := .tuple #[.agg #[.int .i64 x.f, .int .i64 x.t], .bool true]) (by simp [results, Try.results14, go_sem, z0, z1]) rfl ⟨rfl, HBZ.out⟩
        · have k2 : decide (at_ < x.t) = false := decide_eq_false g2
          have HN : Hid (r = ovL (hs.drop (k + 1)) at_) := Lib.hid (by rw [HST.out, if_neg (fun h => g2 h.2)])
          clear HST g1 g2
          go_wp2
          go_roundg (gk - 1)
          case measure => omega
          case rel => exact ⟨k + 1, by go_num, by omega, by omega, HB3, HB13, HN⟩
      · have k1 : decide (x.f < at_) = false := decide_eq_false g1
        have HN : Hid (r = ovL (hs.drop (k + 1)) at_) := Lib.hid (by rw [HST.out, if_neg (fun h => g1 h.1)])
        clear HST g1
        go_wp2
        go_roundg (gk - 1)
        case measure => omega
        case rel => exact ⟨k + 1, by go_num, by omega, by omega, HB3, HB13, HN⟩
    · obtain rfl : m = k := by omega
      have hr2 := hr.out
      rw [List.drop_of_length_le (by rw [← HM.out]; exact Nat.le_refl _)] at hr2
      have e : r = none := by rw [hr2]; rfl
      subst e
      have t0 := (u0.set_ 0 (.int .i64 0)).set_ 1 (.int .i64 0)
      have z0 := RawAt.cell t0 0
      have z1 := RawAt.cell t0 1
      simp at z0 z1
      have HBZ := Lib.hid ((hb.out.setCell (p := ⟨w.heap.size, 0, none⟩) (Nat.le_refl _) (.int .i64 0)).setCell (p := ⟨w.heap.size, 1, none⟩) (Nat.le_refl _) (.int .i64 0))
      clear t0 hr hr2 hb hb1 u0
      go_wp2
      refine bodyPost_ret (v := .tuple #[.agg #[.int .i64 0, .int .i64 0], .bool false]) (by simp [results, Try.results14, go_sem, z0, z1]) rfl ⟨rfl, HBZ.out⟩
end Go.Proofs.Ytnfjleobcfhpnaa
