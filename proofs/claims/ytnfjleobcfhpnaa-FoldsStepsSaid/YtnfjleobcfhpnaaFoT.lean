/- Folds: the law's three. -/
import Derived.Test.YtnfjleobcfhpnaaPlSp
namespace Go.Proofs.Ytnfjleobcfhpnaa
open Go.RowKit Go.Sort
set_option linter.unusedVariables false
def threeF : List Fo := [⟨3, 6⟩, ⟨6, 8⟩, ⟨1, 4⟩]
def threeFO : List Fo := [⟨1, 4⟩, ⟨3, 6⟩, ⟨6, 8⟩]
def threeFH : List Fo := [⟨1, 6⟩, ⟨6, 8⟩]
theorem threeF_fine : fwrong 9 threeF = 0 := by decide +kernel
theorem threeF_ord : ord flt threeF = threeFO := by decide +kernel
theorem threeF_hid : hidL threeFO = threeFH := by decide +kernel
theorem threeF_ov : ovL threeFH 5 = some ⟨1, 6⟩ := by decide +kernel
theorem threeF_wf : ∀ a ∈ threeF, (Lit.int .i64 a.f).wf = true ∧ (Lit.int .i64 a.t).wf = true := by
  intro a h
  unfold threeF at h
  simp only [List.mem_cons, List.not_mem_nil, or_false] at h
  rcases h with rfl | rfl | rfl <;> exact ⟨rfl, rfl⟩
set_option maxHeartbeats 8000000 in
set_option maxRecDepth 100000 in
theorem fThree_any (w : World) : Calls Try.prog 10 #[] w fun e w' => e = .returned (.bool true) ∧ Below w.heap.size w w' := by
  have x1 : Below w.heap.size w (w.alloc (.cells #[.int .i64 3, .int .i64 6, .int .i64 6, .int .i64 8, .int .i64 1, .int .i64 4] 33)) := (Below.refl _ _).alloc (Nat.le_refl _) _
  have R1 : RawAt 33 (w.alloc (.cells #[.int .i64 3, .int .i64 6, .int .i64 6, .int .i64 8, .int .i64 1, .int .i64 4] 33)) w.heap.size #[.int .i64 3, .int .i64 6, .int .i64 6, .int .i64 8, .int .i64 1, .int .i64 4] := heap_alloc_new w _
  have CN := Lib.hid (fNew_any 9 (some ⟨w.heap.size, 0, none⟩) 3 3 threeF _ (rows_of_block encF_len R1 rfl) ⟨Nat.le_refl _, fun h => by cases h⟩ rfl threeF_wf 0 threeF_fine)
  have HX1 := Lib.hid x1
  clear R1 x1
  go_enter Try.func10, Try.ntmps10
  go_wp2_with fail
  with_reducible refine (CN.out).mono ?_
  rintro e1 w1 ⟨p1, rfl, _, hp1, b1⟩
  obtain ⟨s1, rfl, h1⟩ := hp1 (by first | exact trivial | rfl)
  rw [threeF_ord] at h1
  have Q1 := Lib.hid (HX1.out.trans (b1.mono HX1.out.size))
  have H1 := Lib.hid h1
  have CO := Lib.hid (fOver_rows (w := w1) (.pointer (some ⟨s1, 0, none⟩)) 5 threeFH (by decide) (fun W hW => by have := fHidden_any (H1.out.below hW) (by decide); rw [threeF_hid] at this; exact this))
  rw [threeF_ov, show ovA (some ⟨1, 6⟩) = ⟨1, 6⟩ from rfl] at CO
  dsimp only [Option.isSome_some] at CO
  clear hp1 CN b1 h1
  go_wp2_with fail
  with_reducible refine (CO.out).mono ?_
  rintro e2 w2 ⟨rfl, b2⟩
  have Q2 := Q1.out.trans (b2.mono Q1.out.size)
  have x3 : Below w2.heap.size w2 (w2.alloc (.cells #[.int .i64 1, .int .i64 6] 33)) := (Below.refl _ _).alloc (Nat.le_refl _) _
  have R3 : RawAt 33 (w2.alloc (.cells #[.int .i64 1, .int .i64 6] 33)) w2.heap.size #[.int .i64 1, .int .i64 6] := heap_alloc_new w2 _
  have Q3 := Lib.hid (Q2.trans (x3.mono Q2.size))
  have H3 := Lib.hid ((H1.out.below b2).below x3)
  have HR3 := Lib.hid R3
  have CH : Hid (∀ W, Below w2.heap.size (w2.alloc (.cells #[.int .i64 1, .int .i64 6] 33)) W → True) := Lib.hid fun _ _ => trivial
  have CHD := Lib.hid (fHidden_any H3.out (by decide))
  rw [threeF_hid] at CHD
  clear x3 R3 b2 Q2 H1 CO CH
  go_wp2_with fail
  with_reducible refine (CHD.out).mono ?_
  rintro e4 w4 ⟨v4, rfl, o4, b4⟩
  obtain ⟨A4, c4, rfl, hR4, _, _⟩ := rows_of_own encF_len (by omega) o4
  have x5 : Below w4.heap.size w4 (w4.alloc (.cells #[.int .i64 1, .int .i64 6, .int .i64 6, .int .i64 8] 33)) := (Below.refl _ _).alloc (Nat.le_refl _) _
  have R5 : RawAt 33 (w4.alloc (.cells #[.int .i64 1, .int .i64 6, .int .i64 6, .int .i64 8] 33)) w4.heap.size #[.int .i64 1, .int .i64 6, .int .i64 6, .int .i64 8] := heap_alloc_new w4 _
  have CPL := Lib.hid (plsp_any A4 (some ⟨w4.heap.size, 0, none⟩) 2 c4 2 threeFH _ (hR4.below x5) (rows_of_block encF_len R5 rfl) rfl (by decide))
  have hq4 := Q3.out.trans (b4.mono Q3.out.size)
  have Q5 := Lib.hid (hq4.trans (x5.mono hq4.size))
  have u5 := Lib.hid (RawAt.below (RawAt.below HR3.out b4 HR3.out.lt) x5 (RawAt.below HR3.out b4 HR3.out.lt).lt)
  have H5 := Lib.hid ((H3.out.below b4).below x5)
  have hz : threeFH.length = 2 := rfl
  rw [hz]
  clear hq4 x5 R5 hR4 o4 b4 CHD H3 HR3 hz
  go_wp2_with fail
  with_reducible refine (CPL.out).mono ?_
  rintro e6 w6 ⟨rfl, b6⟩
  have u6 := RawAt.below u5.out b6 u5.out.lt
  have c1 := RawAt.cell u6 1
  simp at c1
  have Q6 := Lib.hid (Q5.out.trans (b6.mono Q5.out.size))
  have CL := Lib.hid (fLen_any (H5.out.below b6))
  clear b6 u6 CPL H5 u5
  go_wp2_with fail
  with_reducible refine (CL.out).mono ?_
  rintro e7 w7 ⟨rfl, b7⟩
  have Q7 := Lib.hid (Q6.out.trans (b7.mono Q6.out.size))
  clear b7
  go_wp2
  go_ret
  exact ⟨rfl, Q7.out⟩
end Go.Proofs.Ytnfjleobcfhpnaa
