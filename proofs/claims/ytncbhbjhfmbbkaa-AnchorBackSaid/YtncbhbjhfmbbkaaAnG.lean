/- Anchors: Shift of sets, the law's small case, the law's changes. -/
import Derived.Test.YtncbhbjhfmbbkaaAnF
import Derived.Test.YtncbhbjhfmbbkaaPtF
import Derived.Deep.AppendLies
namespace Go.Proofs.Ytncbhbjhfmbbkaa
open Go.RowKit Go.Sort
set_option linter.unusedVariables false
set_option maxHeartbeats 4000000 in
set_option maxRecDepth 100000 in
theorem achg_any (A : Option Addr) (n cp : Nat) (l : List Ch) (w : World) (hA : ChsAt w A l) (hl : l.length = n) (hn : n ≤ 1000000) :
    Calls Try.prog 27 #[.slice A n cp] w fun e w' => ∃ A' c', e = .returned (.slice A' n c') ∧ ChsAt w' A' l ∧ Caps A' n c' ∧ Below w.heap.size w w' := by
  have HA := Lib.hid hA; clear hA
  have HL := Lib.hid hl; clear hl
  go_enter Try.func27, Try.ntmps27
  obtain ⟨i0, hi0, hz0, hz1, hz2⟩ := info_parts rchange_info
  go_wp2_with fail
  go_loopg [3, 8] n (fun g v i wr => ∃ (j : Nat), i = .int .i64 j ∧ j ≤ n ∧ n - j ≤ g ∧ Below w.heap.size w wr ∧ Hid (wr.ownsRow w.heap.size 125 4 v j (cflat (l.take j))))
  case atStart => exact ⟨0, rfl, by omega, by omega, Below.refl _ _, Lib.hid (World.ownsRow_nil _ _ _ _)⟩
  case round =>
    obtain ⟨j, rfl, j1, j2, hb, hown⟩ := hrel
    have hlt4 := hown.out.lt
    have hszw := hb.size
    by_cases hlt : j < n
    · have hjl : j < l.length := by rw [HL.out]; exact hlt
      obtain ⟨bA, off, rfl, hbA, d0, d1, d2, d3⟩ := (HA.out.below hb).at1 hjl
      have hsf := Lib.hid (show cflat (l.take (j + 1)) = cflat (l.take j) ++ [.int .i64 (cth l j).oa, .int .i64 (cth l j).ob, .int .i64 (cth l j).na, .int .i64 (cth l j).nb] from by rw [cth_take hjl, cflat_append]; rfl)
      generalize cth l j = c at *
      have i1 : (0 : Int) ≤ j := by omega
      have i2 : (j : Int) < n := by omega
      have x3 : Below wr.heap.size wr (wr.alloc (.cells #[.int .i64 c.oa, .int .i64 c.ob, .int .i64 c.na, .int .i64 c.nb] 51)) := (Below.refl _ _).alloc (Nat.le_refl _) _
      have a3 := hb.trans (x3.mono hb.size)
      have a4 := (hb.alloc hb.size (.cells #[.int .i64 c.oa, .int .i64 c.ob, .int .i64 c.na, .int .i64 c.nb] 51)).alloc (by simp; omega) (.cells #[.int .i64 c.oa, .int .i64 c.ob, .int .i64 c.na, .int .i64 c.nb] 125)
      go_wp2_with (at_builtin; refine wpList_append_own _ rfl (.tmp 12) (.tmp 18) _ rfl w.heap.size 125 i0 _ 4 32 Try.underlying46 hi0 hz0 hz1 hz2 rfl (by omega) _ j (cflat (l.take j)) rfl ((hown.out.alloc _).alloc _) ⟨wr.heap.size + 1, 0, none⟩ 1 1 [.int .i64 c.oa, .int .i64 c.ob, .int .i64 c.na, .int .i64 c.nb] rfl rfl (World.news_of_block (cs := #[.int .i64 c.oa, .int .i64 c.ob, .int .i64 c.na, .int .i64 c.nb]) (t := 125) (fr := (0, 0)) (heap_alloc2_new wr _ _)) (by simp [Value.oneCell']) (by simp only [maxLen]; omega) (by omega) (by simp; omega) ?_; intro v4 w4 hown4 hg4 hnil4; clear hnil4)
      have hb4 : Below w.heap.size w w4 := a4.grown hg4 (by simp; omega) (fun k hk => (hlt4 k hk).1)
      have HO4 := Lib.hid hown4
      clear hown4 hg4 a4 a3 x3
      go_wp2
      go_roundg (gk - 1)
      case measure => omega
      case rel => exact ⟨j + 1, by go_num, by omega, by omega, hb4, Lib.hid (by rw [hsf.out]; exact HO4.out)⟩
    · have hj : j = n := by omega
      subst hj
      obtain ⟨A7, c7, e7, hI7, hl7, hC7⟩ := chs_of_own (o := l) (by have := hown.out; rw [List.take_of_length_le (by rw [HL.out]; omega)] at this; exact this)
      have HI7 := Lib.hid hI7
      have HC7 := Lib.hid hC7
      subst e7
      clear hI7 hC7 hl7 hown
      go_wp2
      go_ret
      exact ⟨A7, c7, rfl, HI7.out, HC7.out, hb⟩
theorem aShift_any {w : World} {sb : Nat} {o : List An} {n : Int} (h : ASet w sb n o) (PA : Option Addr) (m c : Nat) (p : List Ch) (hP : ChsAt w PA p) (hp : p.length = m) (hm : m ≤ 1000) (h0 : 0 ≤ n) (h40 : n ≤ 1099511627776) (hok : ∀ a ∈ o, aOk n a) (hwf : ∀ a ∈ o, (Lit.int .i64 a.id).wf = true) (ho : o.length ≤ 100000) (r : Int) (hr : ShIs n p o r) (nd : Int) (hnd : nd = n + dlt p) :
    Calls Try.prog 25 #[.pointer (some ⟨sb, 0, none⟩), .slice PA m c] w fun e w' => ∃ ptr, e = .returned (.tuple #[ptr, .int .i64 r]) ∧ (r ≠ 0 → ptr = .pointer none) ∧ (r = 0 → ∃ sb, ptr = .pointer (some ⟨sb, 0, none⟩) ∧ ASet w' sb nd (ord alt (ashift p o))) ∧ Below w.heap.size w w' :=
  aShift_rows _ n PA m c p hP hp hm h0 h40 hok hwf ho (fun W hW => by
    obtain ⟨v, mb, nn, f, h1, h2, _, _⟩ := h.below hW
    obtain ⟨A, c, rfl⟩ := own_form h2
    exact ⟨A, c, some mb, aKept_any h1⟩) (fun W hW => aAll_any (h.below hW) ho) r hr nd hnd
theorem aShift_nil {w : World} (PA : Option Addr) (m c : Nat) (p : List Ch) (hP : ChsAt w PA p) (hp : p.length = m) (hm : m ≤ 1000) (r : Int) (hr : ShIs 0 p [] r) (nd : Int) (hnd : nd = 0 + dlt p) :
    Calls Try.prog 25 #[.pointer none, .slice PA m c] w fun e w' => ∃ ptr, e = .returned (.tuple #[ptr, .int .i64 r]) ∧ (r ≠ 0 → ptr = .pointer none) ∧ (r = 0 → ∃ sb, ptr = .pointer (some ⟨sb, 0, none⟩) ∧ ASet w' sb nd (ord alt (ashift p []))) ∧ Below w.heap.size w w' :=
  aShift_rows (o := []) _ 0 PA m c p hP hp hm (by omega) (by omega) (fun a h => absurd h (by simp)) (fun a h => absurd h (by simp)) (by simp) (fun W _ => ⟨none, 0, none, aKept_nil W⟩) (fun W _ => aAll_nil W) r hr nd hnd
def twoA : List An := [⟨1, 2, 1⟩, ⟨2, 2, 0⟩]
def onePt : List Ch := [⟨2, 2, 2, 4⟩]
theorem onePt_nrm : nrm M40 0 0 true onePt := by simp [nrm, onePt, M40, cOk]
set_option maxHeartbeats 16000000 in
set_option maxRecDepth 100000 in
theorem aBoth_any (w : World) : Calls Try.prog 16 #[] w fun e w' => e = .returned (.bool true) ∧ Below w.heap.size w w' := by
  have x1 : Below w.heap.size w (w.alloc (.cells #[.int .i64 1, .int .i64 2, .int .i64 1, .int .i64 2, .int .i64 2, .int .i64 0] 36)) := (Below.refl _ _).alloc (Nat.le_refl _) _
  have R1 : RawAt 36 (w.alloc (.cells #[.int .i64 1, .int .i64 2, .int .i64 1, .int .i64 2, .int .i64 2, .int .i64 0] 36)) w.heap.size #[.int .i64 1, .int .i64 2, .int .i64 1, .int .i64 2, .int .i64 2, .int .i64 0] := heap_alloc_new w _
  have CN := Lib.hid (aNew_any 5 (some ⟨w.heap.size, 0, none⟩) 2 2 twoA _ (rows_of_block encA_len R1 rfl) ⟨Nat.le_refl _, fun h => by cases h⟩ rfl (by decide) 0 (by decide))
  clear R1
  go_enter Try.func16, Try.ntmps16
  go_wp2_with fail
  with_reducible refine (CN.out).mono ?_
  rintro e1 w1 ⟨p1, rfl, _, hp1, b1⟩
  obtain ⟨s1, rfl, h1⟩ := hp1 trivial
  have q1 := x1.trans (b1.mono x1.size)
  clear hp1 CN x1 b1
  have ho1 : ord alt twoA = twoA := by decide
  rw [ho1] at h1
  have x2 : Below w1.heap.size w1 (w1.alloc (.cells #[.int .i64 2, .int .i64 2, .int .i64 2, .int .i64 4] 51)) := (Below.refl _ _).alloc (Nat.le_refl _) _
  have R2 : RawAt 51 (w1.alloc (.cells #[.int .i64 2, .int .i64 2, .int .i64 2, .int .i64 4] 51)) w1.heap.size #[.int .i64 2, .int .i64 2, .int .i64 2, .int .i64 4] := heap_alloc_new w1 _
  have hsh : ShIs 5 onePt twoA 0 := ⟨fun h => absurd onePt_nrm h, fun _ h => absurd h (by decide), fun _ _ => by decide⟩
  have CS := Lib.hid (aShift_any (h1.below x2) (some ⟨w1.heap.size, 0, none⟩) 1 1 onePt (chs_of_block R2 rfl) rfl (by omega) (by omega) (by omega) (by decide) (by decide) (by decide) 0 hsh 7 (by decide))
  have H1 := Lib.hid (h1.below x2)
  have Q2 := Lib.hid (q1.trans (x2.mono q1.size))
  clear h1 R2 x2 q1 hsh ho1
  go_wp2_with fail
  with_reducible refine (CS.out).mono ?_
  rintro e3 w3 ⟨p3, rfl, _, hp3, b3⟩
  obtain ⟨s3, rfl, h3⟩ := hp3 trivial
  have ho3 : ord alt (ashift onePt twoA) = [⟨2, 2, 0⟩, ⟨1, 4, 1⟩] := by decide
  rw [ho3] at h3
  have Q3 := Lib.hid (Q2.out.trans (b3.mono Q2.out.size))
  have H3 := Lib.hid h3
  have H1 := Lib.hid (H1.out.below b3)
  clear hp3 CS Q2 b3 ho3 h3
  have CG1 := Lib.hid (aGet_yes H3.out 1 (by decide) (y := ⟨1, 4, 1⟩) (by simp) rfl)
  go_wp2_with fail
  with_reducible refine (CG1.out).mono ?_
  rintro e4 w4 ⟨rfl, b4⟩
  have x5 : Below w4.heap.size w4 (w4.alloc (.cells #[.int .i64 1, .int .i64 4, .int .i64 1] 36)) := (Below.refl _ _).alloc (Nat.le_refl _) _
  have R5 : RawAt 36 (w4.alloc (.cells #[.int .i64 1, .int .i64 4, .int .i64 1] 36)) w4.heap.size #[.int .i64 1, .int .i64 4, .int .i64 1] := heap_alloc_new w4 _
  have y5 := b4.trans (x5.mono b4.size)
  have Q5 := Lib.hid (Q3.out.trans (y5.mono Q3.out.size))
  have H5 := Lib.hid (H3.out.below y5)
  have H1 := Lib.hid (H1.out.below y5)
  have HR5 := Lib.hid R5
  clear H3 Q3 b4 x5 y5 CG1 R5
  have CG2 := Lib.hid (aGet_yes H5.out 2 (by decide) (y := ⟨2, 2, 0⟩) (by simp) rfl)
  go_wp2_with fail
  with_reducible refine (CG2.out).mono ?_
  rintro e6 w6 ⟨rfl, b6⟩
  have x7 : Below w6.heap.size w6 (w6.alloc (.cells #[.int .i64 2, .int .i64 2, .int .i64 0] 36)) := (Below.refl _ _).alloc (Nat.le_refl _) _
  have R7 : RawAt 36 (w6.alloc (.cells #[.int .i64 2, .int .i64 2, .int .i64 0] 36)) w6.heap.size #[.int .i64 2, .int .i64 2, .int .i64 0] := heap_alloc_new w6 _
  have y7 := b6.trans (x7.mono b6.size)
  have Q7 := Lib.hid (Q5.out.trans (y7.mono Q5.out.size))
  have H1 := Lib.hid (H1.out.below y7)
  have R5' := RawAt.below HR5.out y7 HR5.out.lt
  have c5 := RawAt.cell R5' 1
  have c7 := RawAt.cell R7 1
  simp at c5 c7
  clear b6 x7 y7 CG2 R7 R5' Q5 H5
  have CW := Lib.hid (aWithin_any H1.out (by decide) 2 2)
  have hwl : (awithin 2 2 twoA).length = 2 := by decide
  rw [hwl] at CW
  clear hwl
  go_wp2_with fail
  with_reducible refine (CW.out).mono ?_
  rintro e8 w8 ⟨v8, rfl, o8, b8⟩
  obtain ⟨A8, c8, rfl⟩ := own_form o8
  have Q8 := Lib.hid (Q7.out.trans (b8.mono Q7.out.size))
  clear o8 b8
  go_wp2
  go_ret
  exact ⟨rfl, Q8.out⟩
end Go.Proofs.Ytncbhbjhfmbbkaa
