/- Methods of trees: At, Sound. -/
import Derived.Test.YtbbplppcabeojaaTreeI
namespace Go.Proofs.Ytbbplppcabeojaa
open Go.RowKit
set_option maxHeartbeats 4000000 in
set_option maxRecDepth 100000 in
theorem tat_bad (p : Option Addr) (l : List I7) (h : Nat) (i : Int) (w : World) (ht : TP w p l h) (hi : ¬ (0 ≤ i ∧ i < l.length)) :
    Calls Try.prog 67 #[.pointer p, .int .i64 i] w fun e w' => e = .returned (.tuple #[.agg (ics ⟨0, 0, 0, 0, 0, 0, ⟨#[]⟩⟩), .int .i64 1]) ∧ Below w.heap.size w w' := by
  have C1 := Lib.hid fun (W : World) (hW : Below w.heap.size w W) => tsum_n p l h W (ht.below hW)
  have tf := fld_n
  clear ht
  have hb1 : Below w.heap.size w (w.alloc (.cells #[.int .i64 0, .int .i64 0, .int .i64 0, .int .i64 0, .int .i64 0, .int .i64 0, .string ⟨#[]⟩] 54)) := (Below.refl _ _).alloc (Nat.le_refl _) _
  have r1 : RawAt 54 (w.alloc (.cells #[.int .i64 0, .int .i64 0, .int .i64 0, .int .i64 0, .int .i64 0, .int .i64 0, .string ⟨#[]⟩] 54)) w.heap.size (ics ⟨0, 0, 0, 0, 0, 0, ⟨#[]⟩⟩) := heap_alloc_new w _
  obtain ⟨W1, hW1⟩ : ∃ W1, W1 = w.alloc (.cells #[.int .i64 0, .int .i64 0, .int .i64 0, .int .i64 0, .int .i64 0, .int .i64 0, .string ⟨#[]⟩] 54) := ⟨_, rfl⟩
  rw [← hW1] at hb1 r1
  have HR1 := Lib.hid r1; clear r1
  by_cases g1 : i < 0
  · have r2 := HR1.out
    have f0 := r2.free 0
    have f1 := r2.free 1
    have f2 := r2.free 2
    have f3 := r2.free 3
    have f4 := r2.free 4
    have f5 := r2.free 5
    have f6 := r2.free 6
    obtain ⟨c0, c1, c2, c3, c4, c5, c6⟩ := raw_ics r2
    clear r2
    go_enter Try.func67, Try.ntmps67
    go_wp2_with fail
    rw [← hW1]
    clear hW1
    go_wp2
    refine bodyPost_ret (v := .tuple #[.agg #[.int .i64 0, .int .i64 0, .int .i64 0, .int .i64 0, .int .i64 0, .int .i64 0, .string ⟨#[]⟩], .int .i64 1]) (by simp [results, Try.results67, go_sem, c0, c1, c2, c3, c4, c5, c6]) rfl ⟨rfl, ?_⟩
    (repeat' (first | (with_reducible exact hb1) | (with_reducible refine Below.setCell ?_ ?_ _) | (with_reducible refine Below.drew ?_))) <;> first | exact Nat.le_refl _ | (simp; done) | (simp; omega)
  · have g2 : (l.length : Int) ≤ i := by omega
    go_enter Try.func67, Try.ntmps67
    go_wp2_with fail
    rw [← hW1]
    clear hW1
    refine (C1.out _ hb1).mono ?_
    rintro e w1 ⟨rfl, hb2⟩
    have a2 := hb1.trans (hb2.mono hb1.size)
    have r2 := HR1.out.below hb2 HR1.out.lt
    have f0 := r2.free 0
    have f1 := r2.free 1
    have f2 := r2.free 2
    have f3 := r2.free 3
    have f4 := r2.free 4
    have f5 := r2.free 5
    have f6 := r2.free 6
    obtain ⟨c0, c1, c2, c3, c4, c5, c6⟩ := raw_ics r2
    clear r2
    go_wp2
    refine bodyPost_ret (v := .tuple #[.agg #[.int .i64 0, .int .i64 0, .int .i64 0, .int .i64 0, .int .i64 0, .int .i64 0, .string ⟨#[]⟩], .int .i64 1]) (by simp [results, Try.results67, go_sem, c0, c1, c2, c3, c4, c5, c6]) rfl ⟨rfl, ?_⟩
    (repeat' (first | (with_reducible exact a2) | (with_reducible refine Below.setCell ?_ ?_ _) | (with_reducible refine Below.drew ?_))) <;> first | exact Nat.le_refl _ | (simp; done) | (simp; omega)
set_option maxHeartbeats 4000000 in
set_option maxRecDepth 100000 in
theorem tat_any (p : Option Addr) (l : List I7) (h i : Nat) (w : World) (ht : TP w p l h) (hi : i < l.length) :
    Calls Try.prog 67 #[.pointer p, .int .i64 i] w fun e w' => e = .returned (.tuple #[.agg (ics (ith l i)), .int .i64 0]) ∧ Below w.heap.size w w' := by
  have C1 := Lib.hid fun (W : World) (hW : Below w.heap.size w W) => tsum_n p l h W (ht.below hW)
  obtain ⟨v, hT, hroot⟩ := root_fix ht
  have C2 := Lib.hid hroot
  obtain ⟨_, hz⟩ := ht.okl
  have tf := fld_n
  have C3 : Hid (∀ W : World, Below w.heap.size w W → Calls Try.prog 99 #[v, .int .i64 i] W fun e w' => e = .returned (.agg (ics (ith l i))) ∧ Below W.heap.size W w') := by
    rcases hT with ⟨_, _, rfl⟩ | ⟨c, hk, _⟩
    · exact absurd hi (by simp)
    · exact fun W hW => pick_any h ⟨v, l, c⟩ W i (hk.below hW) hi (by show l.length ≤ _; omega)
  clear ht hT hroot
  have g1 : (i : Int) < (l.length : Int) := by omega
  have g2 : ¬ ((i : Int) < 0) := by omega
  generalize hx : ith l i = x at *
  have HX := Lib.hid hx; clear hx
  unfold ics at C3
  have hb1 : Below w.heap.size w (w.alloc (.cells #[.int .i64 0, .int .i64 0, .int .i64 0, .int .i64 0, .int .i64 0, .int .i64 0, .string ⟨#[]⟩] 54)) := (Below.refl _ _).alloc (Nat.le_refl _) _
  have r1 : RawAt 54 (w.alloc (.cells #[.int .i64 0, .int .i64 0, .int .i64 0, .int .i64 0, .int .i64 0, .int .i64 0, .string ⟨#[]⟩] 54)) w.heap.size (ics ⟨0, 0, 0, 0, 0, 0, ⟨#[]⟩⟩) := heap_alloc_new w _
  obtain ⟨W1, hW1⟩ : ∃ W1, W1 = w.alloc (.cells #[.int .i64 0, .int .i64 0, .int .i64 0, .int .i64 0, .int .i64 0, .int .i64 0, .string ⟨#[]⟩] 54) := ⟨_, rfl⟩
  rw [← hW1] at hb1 r1
  have HR1 := Lib.hid r1; clear r1
  go_enter Try.func67, Try.ntmps67
  go_wp2_with fail
  rw [← hW1]
  clear hW1
  refine (C1.out _ hb1).mono ?_
  rintro e w1 ⟨rfl, hb2⟩
  have a2 := hb1.trans (hb2.mono hb1.size)
  go_wp2_with fail
  refine (C2.out _ a2).mono ?_
  rintro e w2 ⟨rfl, rfl⟩
  go_wp2_with fail
  refine (C3.out _ a2).mono ?_
  rintro e w3 ⟨rfl, hb3⟩
  have a3 := a2.trans (hb3.mono a2.size)
  have r2 := (HR1.out.below hb2 HR1.out.lt).below hb3 ((HR1.out.below hb2 HR1.out.lt)).lt
  have f0 := r2.free 0
  have f1 := r2.free 1
  have f2 := r2.free 2
  have f3 := r2.free 3
  have f4 := r2.free 4
  have f5 := r2.free 5
  have f6 := r2.free 6
  obtain ⟨c0, c1, c2, c3, c4, c5, c6⟩ := raw_ics r2
  clear r2
  go_wp2
  refine bodyPost_ret (v := .tuple #[.agg #[.int .i64 x.tag, .int .i64 x.id, .int .i64 x.d0, .int .i64 x.d1, .int .i64 x.d2, .int .i64 x.mx, .string x.tx], .int .i64 0]) (by simp [results, Try.results67, go_sem, c0, c1, c2, c3, c4, c5, c6]) rfl ⟨rfl, ?_⟩
  (repeat' (first | (with_reducible exact a3) | (with_reducible refine Below.setCell ?_ ?_ _) | (with_reducible refine Below.drew ?_))) <;> first | exact Nat.le_refl _ | (simp; done) | (simp; omega)
set_option maxHeartbeats 4000000 in
set_option maxRecDepth 100000 in
theorem tsound_any (p : Option Addr) (l : List I7) (h : Nat) (w : World) (ht : TP w p l h) :
    Calls Try.prog 49 #[.pointer p] w fun e w' => e = .returned (.bool true) ∧ Below w.heap.size w w' := by
  have C1 := Lib.hid fun (W : World) (hW : Below w.heap.size w W) => tsum_n p l h W (ht.below hW)
  obtain ⟨v, hT, hroot⟩ := root_fix ht
  have C2 := Lib.hid hroot
  obtain ⟨ho, hz⟩ := ht.okl
  have tf := fld_n
  have hz2 : (l.length : Int) ≤ 30000 := by omega
  clear hroot ht ho
  rcases hT with ⟨rfl, rfl, rfl⟩ | ⟨c, hk, hc⟩
  · have t1 := eq_n
    go_enter Try.func49, Try.ntmps49
    go_wp2_with fail
    refine (C2.out _ (Below.refl _ _)).mono ?_
    rintro e w1 ⟨rfl, rfl⟩
    go_wp2_with fail
    go_ret
    exact ⟨rfl, Below.refl _ _⟩
  · have t1 := eq_i
    have D1 := Lib.hid fun (W : World) (hW : Below w.heap.size w W) => crowned_any h ⟨v, l, c⟩ W (hk.below hW) hc
    have D2 := Lib.hid fun (W : World) (hW : Below w.heap.size w W) => sound_any h ⟨v, l, c⟩ W (hk.below hW) (by show l.length ≤ _; omega)
    obtain ⟨t, x, hv⟩ := hk.ifc
    simp only at hv
    subst hv
    clear hk
    go_enter Try.func49, Try.ntmps49
    go_wp2_with fail
    refine (C2.out _ (Below.refl _ _)).mono ?_
    rintro e w1 ⟨rfl, rfl⟩
    go_wp2_with fail
    refine (C1.out _ (Below.refl _ _)).mono ?_
    rintro e w2 ⟨rfl, hb2⟩
    go_wp2_with fail
    refine (D1.out _ hb2).mono ?_
    rintro e w3 ⟨rfl, rfl⟩
    go_wp2_with fail
    refine (D2.out _ hb2).mono ?_
    rintro e w4 ⟨rfl, hb4⟩
    go_wp2_with fail
    go_ret
    exact ⟨rfl, hb2.trans (hb4.mono hb2.size)⟩
end Go.Proofs.Ytbbplppcabeojaa
