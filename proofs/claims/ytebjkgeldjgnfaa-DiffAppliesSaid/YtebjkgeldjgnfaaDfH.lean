/- The laws' own: how long rows are; a row of one rune; a small case. -/
import Derived.Test.YtebjkgeldjgnfaaDfE
namespace Go.Proofs.Ytebjkgeldjgnfaa
open Go.RowKit
set_option linter.unusedVariables false
/-- What the law's long tells, number by number. -/
def rlg : Int → List Rw → Bool
  | _, [] => false
  | t, x :: l => if 400 < IntKind.i64.wrap (IntKind.i64.wrap (t + (x.n : Int)) + 1) then true else rlg (IntKind.i64.wrap (IntKind.i64.wrap (t + (x.n : Int)) + 1)) l
set_option maxHeartbeats 4000000 in
set_option maxRecDepth 100000 in
theorem dLong_any (A : Option Addr) (n c : Nat) (l : List Rw) (b : Bool) (hb : rlg 0 l = b) (w : World) (hA : RowsAt encR 7 w A l) (hl : l.length = n) (hn : n ≤ maxLen) :
    Calls Try.prog 14 #[.slice A n c] w fun e w' => e = .returned (.bool b) ∧ Below w.heap.size w w' := by
  have HA := Lib.hid hA
  have HL := Lib.hid hl
  have HB := Lib.hid hb
  clear hA hl hb
  simp only [maxLen] at hn
  go_enter Try.func14, Try.ntmps14
  go_wp2_with fail
  go_loopg [3, 8] n (fun g s i wr => ∃ (j : Nat) (t : Int), i = .int .i64 j ∧ s = .int .i64 t ∧ j ≤ n ∧ n - j ≤ g ∧ Hid (rlg t (l.drop j) = b) ∧ Hid (Below w.heap.size w wr))
  case atStart => exact ⟨0, 0, rfl, rfl, by omega, by omega, Lib.hid (by rw [List.drop_zero]; exact HB.out), Lib.hid (Below.refl _ _)⟩
  case round =>
    obtain ⟨j, t, rfl, rfl, h1, h2, ht, hb⟩ := hrel
    by_cases hlt : j < n
    · have hjl : j < l.length := by rw [HL.out]; exact hlt
      obtain ⟨bA, off, rfl, hbA, d0, d1, d2, d3, d4, d5, d6⟩ := (HA.out.below hb.out).row7 hjl
      have hw := ht.out
      rw [List.drop_eq_getElem_cons hjl, rlg] at hw
      have HW := Lib.hid hw
      clear hw ht
      generalize l[j] = x at *
      have i1 : (0 : Int) ≤ j := by omega
      have i2 : (j : Int) < n := by omega
      have HB3 := Lib.hid (hb.out.trans (((Below.refl _ _).alloc (Nat.le_refl _) (.cells #[.slice x.A x.n x.c, .int .i64 x.st, .int .i64 x.en, .int .i64 x.bu, .bool x.wr, .bool x.fo, .int .i64 x.wd] 24)).mono hb.out.size))
      clear hb
      obtain ⟨v, hv⟩ : ∃ v, v = IntKind.i64.wrap (t + (x.n : Int)) := ⟨_, rfl⟩
      obtain ⟨u, hu⟩ : ∃ u, u = IntKind.i64.wrap (v + 1) := ⟨_, rfl⟩
      rw [← hv, ← hu] at HW
      have w1 := hv.symm
      have w2 := hu.symm
      clear hv hu
      by_cases g : 400 < u
      · have g1 : decide ((400 : Int) < u) = true := decide_eq_true g
        have h5 := HW.out
        rw [if_pos g] at h5
        subst h5
        clear HW HB
        go_wp2
        go_ret
        exact ⟨rfl, HB3.out⟩
      · have g1 : decide ((400 : Int) < u) = false := decide_eq_false g
        have h5 := HW.out
        rw [if_neg g] at h5
        have HU := Lib.hid h5
        clear HW h5
        go_wp2
        go_roundg (gk - 1)
        case measure => omega
        case rel => exact ⟨j + 1, u, by go_num, rfl, by omega, by omega, HU, HB3⟩
    · obtain rfl : j = n := by omega
      have h5 := ht.out
      rw [List.drop_eq_nil_of_le (by rw [HL.out]; omega), rlg] at h5
      subst h5
      clear ht HB
      go_wp2
      go_ret
      exact ⟨rfl, hb.out⟩
/-- A row of one rune. -/
def rowc (r : Int) (s : Rw) : Prop := s.n = 1 ∧ s.cs = [⟨r, 1, 1, 0⟩] ∧ s.wr = false ∧ s.fo = false ∧ s.wd = 1
theorem rowc_rs {r q : Int} {s t : Rw} (h : rowc r s) (g : rowc q t) : RS s t ↔ r = q := by
  obtain ⟨_, h1, h2, h3, h4⟩ := h
  obtain ⟨_, g1, g2, g3, g4⟩ := g
  unfold RS LS CS
  rw [h1, h2, h3, h4, g1, g2, g3, g4]
  constructor
  · rintro ⟨_, _, _, _, h⟩; exact (h 0 (by simp) (by simp)).1
  · rintro rfl
    refine ⟨rfl, rfl, rfl, rfl, fun i h h' => ?_⟩
    obtain rfl : i = 0 := by simp at h; exact h
    exact ⟨rfl, rfl, rfl⟩
set_option maxHeartbeats 4000000 in
set_option maxRecDepth 100000 in
theorem dRow_any (r : Int) (w : World) :
    Calls Try.prog 21 #[.int .i32 r] w fun e w' => ∃ s : Rw, e = .returned (.agg #[.slice s.A s.n s.c, .int .i64 s.st, .int .i64 s.en, .int .i64 s.bu, .bool s.wr, .bool s.fo, .int .i64 s.wd]) ∧ rowc r s ∧ RwOk w' s ∧ Below w.heap.size w w' := by
  go_enter Try.func21, Try.ntmps21
  go_wp2
  have D2 : RawAt 41 ((w.alloc (.cells #[.slice (some ⟨w.heap.size + 1, 0, none⟩) 1 1, .int .i64 0, .int .i64 0, .int .i64 0, .bool false, .bool false, .int .i64 1] 24)).alloc (.cells #[.int .i32 r, .int .i64 1, .int .i64 1, .int .i64 0] 41)) (w.heap.size + 1) #[.int .i32 r, .int .i64 1, .int .i64 1, .int .i64 0] := by
    have h := heap_alloc_new (w.alloc (.cells #[.slice (some ⟨w.heap.size + 1, 0, none⟩) 1 1, .int .i64 0, .int .i64 0, .int .i64 0, .bool false, .bool false, .int .i64 1] 24)) (.cells #[.int .i32 r, .int .i64 1, .int .i64 1, .int .i64 0] 41)
    rw [show (w.alloc (.cells #[.slice (some ⟨w.heap.size + 1, 0, none⟩) 1 1, .int .i64 0, .int .i64 0, .int .i64 0, .bool false, .bool false, .int .i64 1] 24)).heap.size = w.heap.size + 1 from by simp] at h
    exact h
  refine bodyPost_ret (v := .agg #[.slice (some ⟨w.heap.size + 1, 0, none⟩) 1 1, .int .i64 0, .int .i64 0, .int .i64 0, .bool false, .bool false, .int .i64 1]) (by simp [results, Try.results21, go_sem]) rfl ⟨⟨some ⟨w.heap.size + 1, 0, none⟩, 1, 1, [⟨r, 1, 1, 0⟩], 0, 0, 0, false, false, 1⟩, rfl, ⟨rfl, rfl, rfl, rfl, rfl⟩, ⟨rfl, by simp [maxLen], ⟨Nat.le_refl _, fun h => by cases h⟩, rows_of_block (enc := encC) (k := 4) encC_len D2 (l := [⟨r, 1, 1, 0⟩]) rfl⟩, ?_⟩
  exact ((Below.refl _ _).alloc (Nat.le_refl _) _).alloc (by simp) _
set_option maxHeartbeats 4000000 in
set_option maxRecDepth 100000 in
theorem dMid_any (w : World) :
    Calls Try.prog 9 #[] w fun e w' => e = .returned (.bool true) ∧ Below w.heap.size w w' := by
  go_enter Try.func9, Try.ntmps9
  go_wp2_with fail
  with_reducible refine (dRow_any 97 _).mono ?_
  rintro e w1 ⟨s1, rfl, c1, k1, b1⟩
  have HB1 := Lib.hid b1
  have HC1 := Lib.hid c1
  have HK1 := Lib.hid k1
  clear b1 c1 k1
  go_wp2_with fail
  with_reducible refine (dRow_any 98 _).mono ?_
  rintro e w2 ⟨s2, rfl, c2, k2, b2⟩
  have HB2 := Lib.hid (HB1.out.trans (b2.mono HB1.out.size))
  have HC2 := Lib.hid c2
  have HK2 := Lib.hid k2
  have HK1 := Lib.hid (HK1.out.below b2)
  clear b2 c2 k2
  go_wp2_with fail
  with_reducible refine (dRow_any 99 _).mono ?_
  rintro e w3 ⟨s3, rfl, c3, k3, b3⟩
  have HB3 := Lib.hid (HB2.out.trans (b3.mono HB2.out.size))
  have HC3 := Lib.hid c3
  have HK3 := Lib.hid k3
  have HK1 := Lib.hid (HK1.out.below b3)
  have HK2 := Lib.hid (HK2.out.below b3)
  clear b3 c3 k3
  have x4 : Below w3.heap.size w3 (w3.alloc (.cells #[.slice s1.A s1.n s1.c, .int .i64 s1.st, .int .i64 s1.en, .int .i64 s1.bu, .bool s1.wr, .bool s1.fo, .int .i64 s1.wd, .slice s2.A s2.n s2.c, .int .i64 s2.st, .int .i64 s2.en, .int .i64 s2.bu, .bool s2.wr, .bool s2.fo, .int .i64 s2.wd, .slice s3.A s3.n s3.c, .int .i64 s3.st, .int .i64 s3.en, .int .i64 s3.bu, .bool s3.wr, .bool s3.fo, .int .i64 s3.wd] 24)) := (Below.refl _ _).alloc (Nat.le_refl _) _
  have R4 : RawAt 24 (w3.alloc (.cells #[.slice s1.A s1.n s1.c, .int .i64 s1.st, .int .i64 s1.en, .int .i64 s1.bu, .bool s1.wr, .bool s1.fo, .int .i64 s1.wd, .slice s2.A s2.n s2.c, .int .i64 s2.st, .int .i64 s2.en, .int .i64 s2.bu, .bool s2.wr, .bool s2.fo, .int .i64 s2.wd, .slice s3.A s3.n s3.c, .int .i64 s3.st, .int .i64 s3.en, .int .i64 s3.bu, .bool s3.wr, .bool s3.fo, .int .i64 s3.wd] 24)) w3.heap.size #[.slice s1.A s1.n s1.c, .int .i64 s1.st, .int .i64 s1.en, .int .i64 s1.bu, .bool s1.wr, .bool s1.fo, .int .i64 s1.wd, .slice s2.A s2.n s2.c, .int .i64 s2.st, .int .i64 s2.en, .int .i64 s2.bu, .bool s2.wr, .bool s2.fo, .int .i64 s2.wd, .slice s3.A s3.n s3.c, .int .i64 s3.st, .int .i64 s3.en, .int .i64 s3.bu, .bool s3.wr, .bool s3.fo, .int .i64 s3.wd] := heap_alloc_new w3 _
  have HS4 := Lib.hid (rows_of_block (enc := encR) (k := 7) encR_len R4 (l := [s1, s2, s3]) rfl)
  have HB4 := Lib.hid (HB3.out.trans (x4.mono HB3.out.size))
  have HK1 := Lib.hid (HK1.out.below x4)
  have HK2 := Lib.hid (HK2.out.below x4)
  have HK3 := Lib.hid (HK3.out.below x4)
  clear x4 R4
  obtain ⟨bb, hbb⟩ : ∃ bb, bb = w3.heap.size := ⟨_, rfl⟩
  rw [← hbb] at HS4
  have HBB := Lib.hid hbb
  clear hbb
  go_wp2_with fail
  rw [← HBB.out]
  generalize hW4 : w3.alloc (.cells #[.slice s1.A s1.n s1.c, .int .i64 s1.st, .int .i64 s1.en, .int .i64 s1.bu, .bool s1.wr, .bool s1.fo, .int .i64 s1.wd, .slice s2.A s2.n s2.c, .int .i64 s2.st, .int .i64 s2.en, .int .i64 s2.bu, .bool s2.wr, .bool s2.fo, .int .i64 s2.wd, .slice s3.A s3.n s3.c, .int .i64 s3.st, .int .i64 s3.en, .int .i64 s3.bu, .bool s3.wr, .bool s3.fo, .int .i64 s3.wd] 24) = w4 at *
  have HW4 := Lib.hid hW4
  clear hW4
  with_reducible refine (dRow_any 97 _).mono ?_
  rintro e w5 ⟨s5, rfl, c5, k5, b5⟩
  have HB5 := Lib.hid (HB4.out.trans (b5.mono HB4.out.size))
  have HC5 := Lib.hid c5
  have HK5 := Lib.hid k5
  have HK1 := Lib.hid (HK1.out.below b5)
  have HK2 := Lib.hid (HK2.out.below b5)
  have HK3 := Lib.hid (HK3.out.below b5)
  have HS4 := Lib.hid (HS4.out.below b5)
  clear b5 c5 k5
  go_wp2_with fail
  with_reducible refine (dRow_any 120 _).mono ?_
  rintro e w6 ⟨s6, rfl, c6, k6, b6⟩
  have HB6 := Lib.hid (HB5.out.trans (b6.mono HB5.out.size))
  have HC6 := Lib.hid c6
  have HK6 := Lib.hid k6
  have HK1 := Lib.hid (HK1.out.below b6)
  have HK2 := Lib.hid (HK2.out.below b6)
  have HK3 := Lib.hid (HK3.out.below b6)
  have HK5 := Lib.hid (HK5.out.below b6)
  have HS4 := Lib.hid (HS4.out.below b6)
  clear b6 c6 k6
  go_wp2_with fail
  with_reducible refine (dRow_any 121 _).mono ?_
  rintro e w7 ⟨s7, rfl, c7, k7, b7⟩
  have HB7 := Lib.hid (HB6.out.trans (b7.mono HB6.out.size))
  have HC7 := Lib.hid c7
  have HK7 := Lib.hid k7
  have HK1 := Lib.hid (HK1.out.below b7)
  have HK2 := Lib.hid (HK2.out.below b7)
  have HK3 := Lib.hid (HK3.out.below b7)
  have HK5 := Lib.hid (HK5.out.below b7)
  have HK6 := Lib.hid (HK6.out.below b7)
  have HS4 := Lib.hid (HS4.out.below b7)
  clear b7 c7 k7
  go_wp2_with fail
  with_reducible refine (dRow_any 99 _).mono ?_
  rintro e w8 ⟨s8, rfl, c8, k8, b8⟩
  have HB8 := Lib.hid (HB7.out.trans (b8.mono HB7.out.size))
  have HC8 := Lib.hid c8
  have HK8 := Lib.hid k8
  have HK1 := Lib.hid (HK1.out.below b8)
  have HK2 := Lib.hid (HK2.out.below b8)
  have HK3 := Lib.hid (HK3.out.below b8)
  have HK5 := Lib.hid (HK5.out.below b8)
  have HK6 := Lib.hid (HK6.out.below b8)
  have HK7 := Lib.hid (HK7.out.below b8)
  have HS4 := Lib.hid (HS4.out.below b8)
  clear b8 c8 k8
  have x9 : Below w8.heap.size w8 (w8.alloc (.cells #[.slice s5.A s5.n s5.c, .int .i64 s5.st, .int .i64 s5.en, .int .i64 s5.bu, .bool s5.wr, .bool s5.fo, .int .i64 s5.wd, .slice s6.A s6.n s6.c, .int .i64 s6.st, .int .i64 s6.en, .int .i64 s6.bu, .bool s6.wr, .bool s6.fo, .int .i64 s6.wd, .slice s7.A s7.n s7.c, .int .i64 s7.st, .int .i64 s7.en, .int .i64 s7.bu, .bool s7.wr, .bool s7.fo, .int .i64 s7.wd, .slice s8.A s8.n s8.c, .int .i64 s8.st, .int .i64 s8.en, .int .i64 s8.bu, .bool s8.wr, .bool s8.fo, .int .i64 s8.wd] 24)) := (Below.refl _ _).alloc (Nat.le_refl _) _
  have R9 : RawAt 24 (w8.alloc (.cells #[.slice s5.A s5.n s5.c, .int .i64 s5.st, .int .i64 s5.en, .int .i64 s5.bu, .bool s5.wr, .bool s5.fo, .int .i64 s5.wd, .slice s6.A s6.n s6.c, .int .i64 s6.st, .int .i64 s6.en, .int .i64 s6.bu, .bool s6.wr, .bool s6.fo, .int .i64 s6.wd, .slice s7.A s7.n s7.c, .int .i64 s7.st, .int .i64 s7.en, .int .i64 s7.bu, .bool s7.wr, .bool s7.fo, .int .i64 s7.wd, .slice s8.A s8.n s8.c, .int .i64 s8.st, .int .i64 s8.en, .int .i64 s8.bu, .bool s8.wr, .bool s8.fo, .int .i64 s8.wd] 24)) w8.heap.size #[.slice s5.A s5.n s5.c, .int .i64 s5.st, .int .i64 s5.en, .int .i64 s5.bu, .bool s5.wr, .bool s5.fo, .int .i64 s5.wd, .slice s6.A s6.n s6.c, .int .i64 s6.st, .int .i64 s6.en, .int .i64 s6.bu, .bool s6.wr, .bool s6.fo, .int .i64 s6.wd, .slice s7.A s7.n s7.c, .int .i64 s7.st, .int .i64 s7.en, .int .i64 s7.bu, .bool s7.wr, .bool s7.fo, .int .i64 s7.wd, .slice s8.A s8.n s8.c, .int .i64 s8.st, .int .i64 s8.en, .int .i64 s8.bu, .bool s8.wr, .bool s8.fo, .int .i64 s8.wd] := heap_alloc_new w8 _
  have HS9 := Lib.hid (rows_of_block (enc := encR) (k := 7) encR_len R9 (l := [s5, s6, s7, s8]) rfl)
  have HB9 := Lib.hid (HB8.out.trans (x9.mono HB8.out.size))
  have HS4 := Lib.hid (HS4.out.below x9)
  have HK1 := Lib.hid (HK1.out.below x9)
  have HK2 := Lib.hid (HK2.out.below x9)
  have HK3 := Lib.hid (HK3.out.below x9)
  have HK5 := Lib.hid (HK5.out.below x9)
  have HK6 := Lib.hid (HK6.out.below x9)
  have HK7 := Lib.hid (HK7.out.below x9)
  have HK8 := Lib.hid (HK8.out.below x9)
  clear x9 R9
  have CL := Lib.hid (dLeast_any (some ⟨bb, 0, none⟩) (some ⟨w8.heap.size, 0, none⟩) 3 3 4 4 [s1, s2, s3] [s5, s6, s7, s8] ⟨1, 2, 1, 3⟩ (by
    refine ⟨1, 1, ⟨by simp, fun i hi => ?_, fun _ => ?_⟩, ⟨by simp, fun i hi => ?_, fun _ => ?_⟩, rfl⟩
    · obtain rfl : i = 0 := by omega
      exact (rowc_rs HC1.out HC5.out).mpr rfl
    · intro h; have := (rowc_rs HC2.out HC6.out).mp h; omega
    · obtain rfl : i = 0 := by omega
      exact (rowc_rs HC3.out HC8.out).mpr rfl
    · intro h; have := (rowc_rs HC2.out HC7.out).mp h; omega) _ HS4.out rfl HS9.out rfl (by
    intro s hs
    simp only [List.mem_cons, List.not_mem_nil, or_false] at hs
    rcases hs with rfl | rfl | rfl
    · exact ⟨HK1.out, by rw [HC1.out.1]; decide⟩
    · exact ⟨HK2.out, by rw [HC2.out.1]; decide⟩
    · exact ⟨HK3.out, by rw [HC3.out.1]; decide⟩) (by
    intro s hs
    simp only [List.mem_cons, List.not_mem_nil, or_false] at hs
    rcases hs with rfl | rfl | rfl | rfl
    · exact ⟨HK5.out, by rw [HC5.out.1]; decide⟩
    · exact ⟨HK6.out, by rw [HC6.out.1]; decide⟩
    · exact ⟨HK7.out, by rw [HC7.out.1]; decide⟩
    · exact ⟨HK8.out, by rw [HC8.out.1]; decide⟩) (by decide) (by decide))
  go_wp2_with fail
  with_reducible refine (CL.out).mono ?_
  rintro e w10 ⟨rfl, b10⟩
  have HB10 := Lib.hid (HB9.out.trans (b10.mono HB9.out.size))
  clear b10 CL
  have x11 : Below w10.heap.size w10 (w10.alloc (.cells #[.int .i64 1, .int .i64 2, .int .i64 1, .int .i64 3] 28)) := (Below.refl _ _).alloc (Nat.le_refl _) _
  have R11 : RawAt 28 (w10.alloc (.cells #[.int .i64 1, .int .i64 2, .int .i64 1, .int .i64 3] 28)) w10.heap.size #[.int .i64 1, .int .i64 2, .int .i64 1, .int .i64 3] := heap_alloc_new w10 _
  have HB11 := Lib.hid (HB10.out.trans (x11.mono HB10.out.size))
  have HR11 := Lib.hid R11
  clear x11 R11
  go_wp2_with fail
  with_reducible refine (dRow_any 97 _).mono ?_
  rintro e w12 ⟨s12, rfl, c12, k12, b12⟩
  have HB12 := Lib.hid (HB11.out.trans (b12.mono HB11.out.size))
  have HR12 := Lib.hid (RawAt.below HR11.out b12 (RawAt.lt HR11.out))
  have HC12 := Lib.hid c12
  have HK12 := Lib.hid k12
  clear b12 c12 k12 HR11
  go_wp2_with fail
  with_reducible refine (dRow_any 97 _).mono ?_
  rintro e w13 ⟨s13, rfl, c13, k13, b13⟩
  have HB13 := Lib.hid (HB12.out.trans (b13.mono HB12.out.size))
  have HR13 := Lib.hid (RawAt.below HR12.out b13 (RawAt.lt HR12.out))
  have CS := Lib.hid (dSame_any s12 s13 true ⟨fun _ => (rowc_rs HC12.out c13).mpr rfl, fun _ => rfl⟩ w13 (HK12.out.below b13) k13 (by rw [HC12.out.1]; decide) (by rw [c13.1]; decide))
  clear b13 c13 k13 HR12
  go_wp2_with fail
  with_reducible refine (CS.out).mono ?_
  rintro e w14 ⟨rfl, b14⟩
  have HB14 := Lib.hid (HB13.out.trans (b14.mono HB13.out.size))
  have R14 := RawAt.below HR13.out b14 (RawAt.lt HR13.out)
  have p0 := RawAt.cell R14 0
  have p1 := RawAt.cell R14 1
  have p2 := RawAt.cell R14 2
  have p3 := RawAt.cell R14 3
  simp at p0 p1 p2 p3
  clear b14 CS HR13 R14
  have CF := Lib.hid (dFits_any ⟨1, 2, 1, 3⟩ 3 4 true ⟨fun _ => by decide, fun _ => rfl⟩ w14 (by decide) (by decide))
  go_wp2_with fail
  with_reducible refine (CF.out).mono ?_
  rintro e w15 ⟨rfl, b15⟩
  have HB15 := Lib.hid (HB14.out.trans (b15.mono HB14.out.size))
  clear b15 CF p0 p1 p2 p3
  go_wp2
  go_ret
  exact ⟨rfl, HB15.out⟩
end Go.Proofs.Ytebjkgeldjgnfaa
