/- Flow: a flow in memory; kept, Count, Height, Sum, Widest, Lines. -/
import Derived.Test.YtnfjleobcfhpnaaFlP
import Derived.Test.YtnfjleobcfhpnaaTreeT
import Derived.Test.YtnfjleobcfhpnaaTreeH
import Derived.Test.YtnfjleobcfhpnaaAppK
import Derived.BigQuiet
import Derived.Deep.RegionHeld3
namespace Go.Proofs.Ytnfjleobcfhpnaa
open Go.RowKit
set_option linter.unusedVariables false
/-- A flow, or none. -/
def FlAt (w : World) (p : Option Addr) (l : List Ln) (h : Nat) : Prop :=
  (p = none ∧ l = [] ∧ h = 0) ∨ (∃ b q, p = some ⟨b, 0, none⟩ ∧ RawAt 114 w b #[.pointer q] ∧ TP w q (l.map itm) h)
theorem FlAt.below {w w' : World} {p : Option Addr} {l : List Ln} {h : Nat} (ht : FlAt w p l h) (hb : Below w.heap.size w w') : FlAt w' p l h := by
  rcases ht with h1 | ⟨b, q, h1, h2, h3⟩
  · exact .inl h1
  · exact .inr ⟨b, q, h1, h2.below hb h2.lt, h3.below hb⟩
theorem flkept_nil (w : World) : Calls Try.prog 58 #[.pointer none] w fun e w' => e = .returned (.pointer none) ∧ w' = w := by
  go_enter Try.func58, Try.ntmps58
  go_wp2
  go_ret
  exact ⟨rfl, rfl⟩
theorem flkept_some (b : Nat) (q : Option Addr) (w : World) (e0 : w.cell? ⟨b, 0, none⟩ = some (.pointer q)) : Calls Try.prog 58 #[.pointer (some ⟨b, 0, none⟩)] w fun e w' => e = .returned (.pointer q) ∧ w' = w := by
  go_enter Try.func58, Try.ntmps58
  go_wp2
  go_ret
  exact ⟨rfl, rfl⟩
theorem flkept {p : Option Addr} {l : List Ln} {h : Nat} {w : World} (ht : FlAt w p l h) : ∃ q, TP w q (l.map itm) h ∧ ∀ W, Below w.heap.size w W → Calls Try.prog 58 #[.pointer p] W fun e w' => e = .returned (.pointer q) ∧ w' = W := by
  rcases ht with ⟨rfl, rfl, rfl⟩ | ⟨b, q, rfl, h2, h3⟩
  · exact ⟨none, .inl ⟨rfl, rfl, rfl⟩, fun W _ => flkept_nil W⟩
  · exact ⟨q, h3, fun W hW => flkept_some b q W (RawAt.cell (h2.below hW h2.lt) 0)⟩
/-- What the lines of a tree have together, read from the tree. -/
theorem flnum {l : List Ln} {w : World} {q : Option Addr} {h : Nat} (ht : TP w q (l.map itm) h) (hl : Loks l) : ∃ pl : Nat, Widest l pl ∧ ∀ W, Below w.heap.size w W → Calls Try.prog 71 #[.pointer q] W fun e w' => e = .returned (.agg #[.int .i64 l.length, .int .i64 (lsum l).s, .int .i64 (lsum l).b, .int .i64 (lsum l).r, .int .i64 (lsum l).wd, .int .i64 pl]) ∧ Below W.heap.size W w' := by
  obtain ⟨e0, e1, e2, e3, _, i, e5, e6⟩ := lsum_all _ l rfl hl
  refine ⟨i, e6, fun W hW => ?_⟩
  have := tsum_n q (l.map itm) h W (ht.below hW)
  rwa [List.length_map, e0, e1, e2, e3, e5] at this
set_option maxHeartbeats 4000000 in
set_option maxRecDepth 100000 in
theorem flcount {p : Option Addr} {l : List Ln} {h : Nat} {w : World} (ht : FlAt w p l h) (hl : Loks l) : Calls Try.prog 50 #[.pointer p] w fun e w' => e = .returned (.int .i64 l.length) ∧ Below w.heap.size w w' := by
  obtain ⟨q, hq, hk⟩ := flkept ht
  obtain ⟨pl, _, hs⟩ := flnum hq hl
  have CK := Lib.hid (hk w (Below.refl _ _))
  have CS := Lib.hid (hs w (Below.refl _ _))
  have tf := fld_n
  clear hk hs hq ht
  generalize lsum l = s at *
  go_enter Try.func50, Try.ntmps50
  go_wp2_with fail
  refine CK.out.mono ?_
  rintro e w1 ⟨rfl, rfl⟩
  go_wp2_with fail
  refine CS.out.mono ?_
  rintro e w2 ⟨rfl, b2⟩
  go_wp2
  go_ret
  exact ⟨rfl, b2⟩
set_option maxHeartbeats 4000000 in
set_option maxRecDepth 100000 in
theorem flheight {p : Option Addr} {l : List Ln} {h : Nat} {w : World} (ht : FlAt w p l h) : Calls Try.prog 51 #[.pointer p] w fun e w' => e = .returned (.int .i64 h) ∧ Below w.heap.size w w' := by
  obtain ⟨q, hq, hk⟩ := flkept ht
  have CK := Lib.hid (hk w (Below.refl _ _))
  have CS := Lib.hid (theight_any q _ h w hq)
  clear hk hq ht
  go_enter Try.func51, Try.ntmps51
  go_wp2_with fail
  refine CK.out.mono ?_
  rintro e w1 ⟨rfl, rfl⟩
  go_wp2_with fail
  refine CS.out.mono ?_
  rintro e w2 ⟨rfl, b2⟩
  go_wp2
  go_ret
  exact ⟨rfl, b2⟩
set_option maxHeartbeats 4000000 in
set_option maxRecDepth 100000 in
theorem flwidest {p : Option Addr} {l : List Ln} {h : Nat} {w : World} (ht : FlAt w p l h) (hl : Loks l) : ∃ pl : Nat, Widest l pl ∧ Calls Try.prog 49 #[.pointer p] w fun e w' => e = .returned (.tuple #[.int .i64 pl, .int .i64 (lsum l).wd]) ∧ Below w.heap.size w w' := by
  obtain ⟨q, hq, hk⟩ := flkept ht
  obtain ⟨pl, hp, hs⟩ := flnum hq hl
  refine ⟨pl, hp, ?_⟩
  have CK := Lib.hid (hk w (Below.refl _ _))
  have CS := Lib.hid (hs w (Below.refl _ _))
  clear hk hs hq ht hp
  generalize lsum l = s at *
  go_enter Try.func49, Try.ntmps49
  go_wp2_with fail
  refine CK.out.mono ?_
  rintro e w1 ⟨rfl, rfl⟩
  go_wp2_with fail
  refine CS.out.mono ?_
  rintro e w2 ⟨rfl, b2⟩
  have R3 : RawAt 128 (w2.alloc (.cells #[.int .i64 l.length, .int .i64 s.s, .int .i64 s.b, .int .i64 s.r, .int .i64 s.wd, .int .i64 pl] 128)) w2.heap.size #[.int .i64 l.length, .int .i64 s.s, .int .i64 s.b, .int .i64 s.r, .int .i64 s.wd, .int .i64 pl] := heap_alloc_new w2 _
  have x3 : Below w2.heap.size w2 (w2.alloc (.cells #[.int .i64 l.length, .int .i64 s.s, .int .i64 s.b, .int .i64 s.r, .int .i64 s.wd, .int .i64 pl] 128)) := (Below.refl _ _).alloc (Nat.le_refl _) _
  have HB3 := Lib.hid (b2.trans (x3.mono b2.size))
  have c4 := RawAt.cell R3 4
  have c5 := RawAt.cell R3 5
  simp at c4 c5
  clear R3 x3
  go_wp2_with fail
  go_quiet (fail)
  have HQ := drewN_below HB3.out nq
  go_wp2
  go_ret2
  exact ⟨rfl, HQ⟩
set_option maxHeartbeats 4000000 in
set_option maxRecDepth 100000 in
theorem flsum {p : Option Addr} {l : List Ln} {h : Nat} {w : World} (ht : FlAt w p l h) (hl : Loks l) : Calls Try.prog 54 #[.pointer p] w fun e w' => e = .returned (.agg #[.int .i64 (lsum l).s, .int .i64 (lsum l).b, .int .i64 (lsum l).r, .int .i64 (lsum l).wd]) ∧ Below w.heap.size w w' := by
  obtain ⟨q, hq, hk⟩ := flkept ht
  obtain ⟨pl, _, hs⟩ := flnum hq hl
  have x0 : Below w.heap.size w (w.alloc (.cells #[.int .i64 0, .int .i64 0, .int .i64 0, .int .i64 0] 78)) := (Below.refl _ _).alloc (Nat.le_refl _) _
  have R0 : RawAt 78 (w.alloc (.cells #[.int .i64 0, .int .i64 0, .int .i64 0, .int .i64 0] 78)) w.heap.size #[.int .i64 0, .int .i64 0, .int .i64 0, .int .i64 0] := heap_alloc_new w _
  obtain ⟨W0, hW0⟩ : ∃ W0, W0 = w.alloc (.cells #[.int .i64 0, .int .i64 0, .int .i64 0, .int .i64 0] 78) := ⟨_, rfl⟩
  rw [← hW0] at x0 R0
  have CK := Lib.hid (hk W0 x0)
  have CS := Lib.hid (hs W0 x0)
  have X0 := Lib.hid x0
  have HR0 := Lib.hid R0
  have HW0 := Lib.hid hW0
  clear hk hs hq ht hW0 x0 R0
  generalize lsum l = s at *
  generalize l.length = n at *
  go_enter Try.func54, Try.ntmps54
  go_wp2_with fail
  rw [← HW0.out]
  refine CK.out.mono ?_
  rintro e w1 ⟨rfl, rfl⟩
  go_wp2_with fail
  refine CS.out.mono ?_
  rintro e w2 ⟨rfl, b2⟩
  have R3 : RawAt 128 (w2.alloc (.cells #[.int .i64 n, .int .i64 s.s, .int .i64 s.b, .int .i64 s.r, .int .i64 s.wd, .int .i64 pl] 128)) w2.heap.size #[.int .i64 n, .int .i64 s.s, .int .i64 s.b, .int .i64 s.r, .int .i64 s.wd, .int .i64 pl] := heap_alloc_new w2 _
  have x3 : Below w2.heap.size w2 (w2.alloc (.cells #[.int .i64 n, .int .i64 s.s, .int .i64 s.b, .int .i64 s.r, .int .i64 s.wd, .int .i64 pl] 128)) := (Below.refl _ _).alloc (Nat.le_refl _) _
  have HB3 := Lib.hid (X0.out.trans ((b2.trans (x3.mono b2.size)).mono X0.out.size))
  have r4 := RawAt.below HR0.out (b2.trans (x3.mono b2.size)) HR0.out.lt
  have c1 := RawAt.cell R3 1
  have c2 := RawAt.cell R3 2
  have c3 := RawAt.cell R3 3
  have c4 := RawAt.cell R3 4
  simp at c1 c2 c3 c4
  have f0 := r4.free 0
  have f1 := r4.free 1
  have f2 := r4.free 2
  have f3 := r4.free 3
  have z0 := RawAt.cell r4 0
  have z1 := RawAt.cell r4 1
  have z2 := RawAt.cell r4 2
  have z3 := RawAt.cell r4 3
  simp at z0 z1 z2 z3
  clear R3 x3 r4
  go_wp2
  refine bodyPost_ret (v := .agg #[.int .i64 s.s, .int .i64 s.b, .int .i64 s.r, .int .i64 s.wd]) (by simp [results, Try.results54, go_sem, z0, z1, z2, z3]) rfl ⟨rfl, ?_⟩
  exact (((HB3.out.setCell (p := ⟨w.heap.size, 0, none⟩) (Nat.le_refl _) _).setCell (p := ⟨w.heap.size, 1, none⟩) (Nat.le_refl _) _).setCell (p := ⟨w.heap.size, 2, none⟩) (Nat.le_refl _) _).setCell (p := ⟨w.heap.size, 3, none⟩) (Nat.le_refl _) _
end Go.Proofs.Ytnfjleobcfhpnaa
