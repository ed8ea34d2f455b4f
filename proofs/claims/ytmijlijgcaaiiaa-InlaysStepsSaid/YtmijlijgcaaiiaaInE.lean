/- Inlays: the law's three. -/
import Derived.Test.YtmijlijgcaaiiaaInD
namespace Go.Proofs.Ytmijlijgcaaiiaa
open Go.RowKit Go.Sort
set_option linter.unusedVariables false
def threeI : List In := [⟨2, 3, 0, 5, ⟨#[98]⟩⟩, ⟨1, 3, 0, 5, ⟨#[97]⟩⟩, ⟨3, 3, 0, 4, ⟨#[99]⟩⟩]
def threeO : List In := [⟨3, 3, 0, 4, ⟨#[99]⟩⟩, ⟨1, 3, 0, 5, ⟨#[97]⟩⟩, ⟨2, 3, 0, 5, ⟨#[98]⟩⟩]
theorem threeI_fine : iwrong 5 threeI = 0 := by decide +kernel
theorem threeI_ord : ord ilt (threeI.map icl) = threeO := by kernel_rfl
theorem threeI_wf : ∀ a ∈ threeI, (Lit.int .i64 a.id).wf = true := by
  intro a h
  unfold threeI at h
  simp only [List.mem_cons, List.not_mem_nil, or_false] at h
  rcases h with rfl | rfl | rfl <;> rfl
theorem threeI_tx : ∀ a ∈ threeI, a.tx.size ≤ 100000000 := by
  intro a h
  unfold threeI at h
  simp only [List.mem_cons, List.not_mem_nil, or_false] at h
  rcases h with rfl | rfl | rfl <;> decide
set_option maxHeartbeats 8000000 in
set_option maxRecDepth 100000 in
theorem iThree_any (w : World) : Calls Try.prog 12 #[] w fun e w' => e = .returned (.bool true) ∧ Below w.heap.size w w' := by
  have x1 : Below w.heap.size w (w.alloc (.cells #[.int .i64 2, .int .i64 3, .int .i64 0, .int .i64 5, .string ⟨#[98]⟩, .int .i64 1, .int .i64 3, .int .i64 0, .int .i64 5, .string ⟨#[97]⟩, .int .i64 3, .int .i64 3, .int .i64 0, .int .i64 4, .string ⟨#[99]⟩] 46)) := (Below.refl _ _).alloc (Nat.le_refl _) _
  have R1 : RawAt 46 (w.alloc (.cells #[.int .i64 2, .int .i64 3, .int .i64 0, .int .i64 5, .string ⟨#[98]⟩, .int .i64 1, .int .i64 3, .int .i64 0, .int .i64 5, .string ⟨#[97]⟩, .int .i64 3, .int .i64 3, .int .i64 0, .int .i64 4, .string ⟨#[99]⟩] 46)) w.heap.size #[.int .i64 2, .int .i64 3, .int .i64 0, .int .i64 5, .string ⟨#[98]⟩, .int .i64 1, .int .i64 3, .int .i64 0, .int .i64 5, .string ⟨#[97]⟩, .int .i64 3, .int .i64 3, .int .i64 0, .int .i64 4, .string ⟨#[99]⟩] := heap_alloc_new w _
  have CN := Lib.hid (iNew_any 5 (some ⟨w.heap.size, 0, none⟩) 3 3 threeI _ (rows_of_block encI_len R1 rfl) ⟨Nat.le_refl _, fun h => by cases h⟩ rfl threeI_wf threeI_tx 0 threeI_fine)
  have HX1 := Lib.hid x1
  clear R1 x1
  go_enter Try.func12, Try.ntmps12
  go_wp2_with fail
  with_reducible refine (CN.out).mono ?_
  rintro e1 w1 ⟨p1, rfl, _, hp1, b1⟩
  obtain ⟨s1, rfl, h1⟩ := hp1 trivial
  rw [threeI_ord] at h1
  have Q1 := Lib.hid (HX1.out.trans (b1.mono HX1.out.size))
  have H1 := Lib.hid h1
  have CA := Lib.hid (iAll_any h1 (by decide))
  clear hp1 CN b1 h1
  go_wp2_with fail
  with_reducible refine (CA.out).mono ?_
  rintro e2 w2 ⟨v2, rfl, o2, b2⟩
  obtain ⟨g, c2, rfl⟩ := own_slice o2 (by decide)
  have f0 := o2.cellAt 0 (by decide)
  have f1 := o2.cellAt 5 (by decide)
  have f2 := o2.cellAt 10 (by decide)
  simp [threeO, kfl, encI] at f0 f1 f2
  have hz : threeO.length = 3 := rfl
  rw [hz]
  have Q2 := Lib.hid (Q1.out.trans (b2.mono Q1.out.size))
  have CL := Lib.hid (iLen_any (H1.out.below b2))
  have CW := Lib.hid fun (W : World) (hW : Below w2.heap.size w2 W) => iWithin_any ((H1.out.below b2).below hW) (by decide) 4 9
  have hwl : (iwithin 4 9 threeO).length = 0 := rfl
  rw [hwl] at CW
  clear hwl hz o2 b2 CA H1 Q1
  go_wp2_with fail
  with_reducible refine (CL.out).mono ?_
  rintro e3 w3 ⟨rfl, b3⟩
  go_wp2_with fail
  with_reducible refine (CW.out _ b3).mono ?_
  rintro e4 w4 ⟨v4, rfl, o4, b4⟩
  obtain ⟨A4, c4, rfl⟩ := own_formI o4
  have Q4 := Lib.hid (Q2.out.trans ((b3.trans (b4.mono b3.size)).mono Q2.out.size))
  clear o4 b3 b4
  go_wp2
  go_ret
  exact ⟨rfl, Q4.out⟩
end Go.Proofs.Ytmijlijgcaaiiaa
