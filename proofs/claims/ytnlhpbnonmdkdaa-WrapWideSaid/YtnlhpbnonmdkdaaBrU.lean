/- The laws' own on rows: which cells are gone through; two words in two rows. -/
import Derived.Test.YtnlhpbnonmdkdaaBrT
import Derived.Test.YtnlhpbnonmdkdaaPlI
namespace Go.Proofs.Ytnlhpbnonmdkdaa
open Go.RowKit
set_option linter.unusedVariables false
set_option maxHeartbeats 4000000 in
set_option maxRecDepth 100000 in
theorem right19_any (A : Option Addr) (n c : Nat) (l : List Cl) (w : World) (hA : RowsAt encC 4 w A l) (hl : l.length = n) (r : Bool) (hr : r = true ↔ n ≤ 200 ∧ W02 l) :
    Calls Try.prog 15 #[.slice A n c] w fun e w' => e = .returned (.bool r) ∧ Below w.heap.size w w' := by
  have HRR := Lib.hid hr
  clear hr
  by_cases h2 : n ≤ 200
  · have HA := Lib.hid hA
    have HL := Lib.hid hl
    clear hA hl
    have k0 : decide ((200 : Int) < n) = false := decide_eq_false (by omega)
    go_enter Try.func15, Try.ntmps15
    go_wp2_with fail
    go_loopg [10] n (fun g i wr => ∃ (j : Nat), i = .int .i64 j ∧ j ≤ n ∧ n - j ≤ g ∧ Hid (W02 (l.take j)) ∧ Hid (Below w.heap.size w wr))
    case atStart => exact ⟨0, rfl, by omega, by omega, Lib.hid (fun x hx => by simp at hx), Lib.hid (Below.refl _ _)⟩
    case round =>
      obtain ⟨j, rfl, h1, h3, hs, hb⟩ := hrel
      by_cases hlt : j < n
      · have hjl : j < l.length := by rw [HL.out]; exact hlt
        obtain ⟨bA, off, rfl, hbA, d0, d1, d2, d3⟩ := (HA.out.below hb.out).cell4 hjl
        have i1 : (0 : Int) ≤ j := by omega
        have i2 : (j : Int) < n := by omega
        have HS : Hid (0 ≤ l[j].wd → l[j].wd ≤ 2 → W02 (l.take (j + 1))) := Lib.hid fun g1 g2 x hx => by
          rw [List.take_succ_eq_append_getElem hjl] at hx
          rcases List.mem_append.1 hx with h | h
          · exact hs.out x h
          · simp at h; subst h; exact ⟨g1, g2⟩
        have HN : Hid (¬ (0 ≤ l[j].wd ∧ l[j].wd ≤ 2) → ¬ W02 l) := Lib.hid fun g h => g (h _ (List.getElem_mem hjl))
        generalize l[j] = o at *
        have R3 : RawAt 35 (wr.alloc (.cells #[.int .i32 o.r, .int .i64 o.k, .int .i64 o.wd, .int .i64 o.p] 35)) wr.heap.size #[.int .i32 o.r, .int .i64 o.k, .int .i64 o.wd, .int .i64 o.p] := heap_alloc_new wr _
        have e2 := RawAt.cell R3 2
        simp at e2
        have HB3 := Lib.hid (hb.out.trans (((Below.refl _ _).alloc (Nat.le_refl _) (.cells #[.int .i32 o.r, .int .i64 o.k, .int .i64 o.wd, .int .i64 o.p] 35)).mono hb.out.size))
        clear R3 hb hs
        by_cases g1 : o.wd < 0
        · have HNN := Lib.hid (HN.out (by omega))
          clear HS HN
          have HRF : Hid (r = false) := Lib.hid (by cases h : r; rfl; exact absurd (HRR.out.1 h).2 HNN.out)
          go_wp2_with fail
          go_ret
          exact ⟨by rw [HRF.out]; rfl, HB3.out⟩
        · have k1 : decide (o.wd < 0) = false := decide_eq_false g1
          by_cases g2 : 2 < o.wd
          · have HNN := Lib.hid (HN.out (by omega))
            have k2 : decide (2 < o.wd) = true := decide_eq_true g2
            clear HS HN
            have HRF : Hid (r = false) := Lib.hid (by cases h : r; rfl; exact absurd (HRR.out.1 h).2 HNN.out)
            go_wp2_with fail
            go_ret
            exact ⟨by rw [HRF.out]; rfl, HB3.out⟩
          · have k2 : decide (2 < o.wd) = false := decide_eq_false g2
            have HSS := Lib.hid (HS.out (by omega) (by omega))
            clear HS HN
            go_wp2_with fail
            go_roundg (gk - 1)
            case measure => omega
            case rel => exact ⟨j + 1, by go_num, by omega, by omega, HSS, HB3⟩
      · obtain rfl : j = n := by omega
        have hs2 := hs.out
        rw [List.take_of_length_le (by rw [HL.out]; omega)] at hs2
        have HS2 := Lib.hid hs2
        clear hs2
        have HRF : Hid (r = true) := Lib.hid (HRR.out.2 ⟨h2, HS2.out⟩)
        go_wp2
        go_ret
        exact ⟨by rw [HRF.out]; rfl, hb.out⟩
  · have k0 : decide ((200 : Int) < n) = true := decide_eq_true (by omega)
    clear hA hl
    go_enter Try.func15, Try.ntmps15
    have HRF : Hid (r = false) := Lib.hid (by cases h : r; rfl; exact absurd (HRR.out.1 h).1 h2)
    go_wp2_with fail
    go_ret
    exact ⟨by rw [HRF.out]; rfl, Below.refl _ _⟩
def L2 : List Cl := [⟨97, 0, 1, 0⟩, ⟨98, 0, 1, 0⟩, ⟨32, 0, 1, 0⟩, ⟨99, 0, 1, 0⟩, ⟨100, 0, 1, 0⟩]
def C2 : Array Value := #[.int .i32 97, .int .i64 0, .int .i64 1, .int .i64 0, .int .i32 98, .int .i64 0, .int .i64 1, .int .i64 0, .int .i32 32, .int .i64 0, .int .i64 1, .int .i64 0, .int .i32 99, .int .i64 0, .int .i64 1, .int .i64 0, .int .i32 100, .int .i64 0, .int .i64 1, .int .i64 0]
theorem L2w : W02 L2 := by intro x hx; simp [L2] at hx; rcases hx with rfl | rfl | rfl | rfl | rfl <;> simp
set_option maxHeartbeats 4000000 in
set_option maxRecDepth 100000 in
theorem two19_any (w : World) : Calls Try.prog 16 #[] w fun e w' => e = .returned (.bool true) ∧ Below w.heap.size w w' := by
  obtain ⟨w1, hw1⟩ : ∃ w1, w.alloc (.cells #[.int .i32 97, .int .i64 0, .int .i64 1, .int .i64 0, .int .i32 98, .int .i64 0, .int .i64 1, .int .i64 0, .int .i32 32, .int .i64 0, .int .i64 1, .int .i64 0, .int .i32 99, .int .i64 0, .int .i64 1, .int .i64 0, .int .i32 100, .int .i64 0, .int .i64 1, .int .i64 0] 35) = w1 := ⟨_, rfl⟩
  have x1 : Below w.heap.size w w1 := by rw [← hw1]; exact (Below.refl _ _).alloc (Nat.le_refl _) _
  have hR : RowsAt encC 4 w1 (some ⟨w.heap.size, 0, none⟩) L2 := by rw [← hw1]; exact row_new encC_len w L2 C2 _ rfl
  have hcap : Caps (some ⟨w.heap.size, 0, none⟩) 5 5 := ⟨Nat.le_refl _, fun h => by cases h⟩
  have HX1 := Lib.hid x1
  have CT := Lib.hid fun (W : World) (hW : Below w1.heap.size w1 W) => bTakes (some ⟨w.heap.size, 0, none⟩) 5 5 L2 4 W (hR.below hW) rfl (by omega) L2w
  rw [show ((tak L2 4 : Nat) : Int) = 3 from by decide] at CT
  have CA := Lib.hid fun (W : World) (hW : Below w1.heap.size w1 W) => bAll (some ⟨w.heap.size, 0, none⟩) 5 5 4 4 L2 W (hR.below hW) rfl hcap (by omega) L2w
  rw [show allN L2 4 4 = [3, 2] from by decide] at CA
  have CI := Lib.hid fun (W : World) (hW : Below w1.heap.size w1 W) => bIndent (some ⟨w.heap.size, 8, none⟩) 3 3 (L2.drop 2) W (by
    have h2 := (hR.below hW).cut (n := 5) (c := 5) rfl (Nat.le_refl _) (j := 2) (m := 3) (by omega)
    simpa [cutK, Addr.add, L2] using h2) rfl ⟨Nat.le_refl _, fun h => by cases h⟩ (by omega) (L2w.drop 2)
  rw [show ind (L2.drop 2) = 1 from by decide] at CI
  clear x1 hR hcap
  go_enter Try.func16, Try.ntmps16
  go_wp2_with (first | (go_at_call 17; refine (CT.out _ (Below.refl _ _)).mono ?_; rintro e w2 ⟨rfl, hb2⟩; have HB2 := Lib.hid hb2; clear hb2) | (go_at_call 22; refine (CA.out _ HB2.out).mono ?_; rintro e w3 ⟨v3, rfl, ho3, hb3⟩; have HB3 := Lib.hid (HB2.out.trans (hb3.mono HB2.out.size)); clear hb3; obtain ⟨A5, c5, rfl, hI, _, _⟩ := IntsAt.of_own (kd := .i64) (l := [3, 2]) ho3; have HI := Lib.hid hI; clear ho3 hI; have HI2 : Hid (IntsAt .i64 (w3.alloc (.cells #[.int .i64 3, .int .i64 2] 3)) (some ⟨w3.heap.size, 0, none⟩) [3, 2]) := Lib.hid (ints_of_rows (row_new (encN_len .i64) w3 [3, 2] #[.int .i64 3, .int .i64 2] 3 rfl)); have HX3 : Hid (Below w3.heap.size w3 (w3.alloc (.cells #[.int .i64 3, .int .i64 2] 3))) := Lib.hid ((Below.refl _ _).alloc (Nat.le_refl _) _)) | (go_at_call 21; refine (pints_any A5 (some ⟨w3.heap.size, 0, none⟩) 2 c5 2 [3, 2] _ (HI.out.below HX3.out) HI2.out rfl (by omega)).mono ?_; rintro e w4 ⟨rfl, hb4⟩; have HB4 := Lib.hid (HB3.out.trans (Below.mono (HX3.out.trans (hb4.mono HX3.out.size)) HB3.out.size)); clear hb4) | (go_at_call 19; refine (CI.out _ HB4.out).mono ?_; rintro e w5 ⟨rfl, hb5⟩; have HB5 := Lib.hid (HB4.out.trans (hb5.mono HB4.out.size)); clear hb5))
  go_ret
  exact ⟨rfl, HX1.out.trans (HB5.out.mono HX1.out.size)⟩
end Go.Proofs.Ytnlhpbnonmdkdaa
