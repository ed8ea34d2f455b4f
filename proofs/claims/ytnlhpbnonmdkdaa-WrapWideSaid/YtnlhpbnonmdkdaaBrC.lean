/- Breaks: fit, takes, opening, Takes, Indent. -/
import Derived.Test.YtnlhpbnonmdkdaaBrB
namespace Go.Proofs.Ytnlhpbnonmdkdaa
open Go.RowKit
set_option linter.unusedVariables false
theorem fit_all {l : List Cl} {r : Int} (hw : W02 l) (h : wsum l ≤ r) : fitN l r = l.length := by
  have e : cnt l r = l.length := cnt_eq hw (Nat.le_refl _) (fun _ => by rw [List.take_length]; exact h) (fun h => by omega)
  unfold fitN
  rw [e]
  split
  · omega
  · rfl
theorem fit_alo {l : List Cl} {r : Int} (h0 : 0 < l.length) (h : r < wsum (l.take 1)) : fitN l r = alo l := by
  unfold fitN
  match l, h0 with
  | c :: l, _ =>
    have : ¬ c.wd ≤ r := by simp [wsum] at h; omega
    rw [cnt, if_neg this, if_pos ⟨rfl, by simp⟩]
theorem fit_at {l : List Cl} {r : Int} {j : Nat} (hw : W02 l) (h0 : 0 < j) (h1 : j < l.length) (h2 : wsum (l.take j) ≤ r) (h3 : r < wsum (l.take (j + 1))) : fitN l r = j := by
  have e : cnt l r = j := cnt_eq hw (by omega) (fun _ => h2) (fun _ => h3)
  unfold fitN
  rw [e, if_neg (by omega)]
theorem W02.wide {l : List Cl} (h : W02 l) : ∀ x ∈ l, 0 ≤ x.wd ∧ x.wd ≤ 1099511627776 := fun x hx => ⟨(h x hx).1, by have := (h x hx).2; omega⟩
set_option maxHeartbeats 4000000 in
set_option maxRecDepth 100000 in
theorem bFit_any (A : Option Addr) (n c : Nat) (l : List Cl) (room wide : Int) (w : World) (hA : RowsAt encC 4 w A l) (hl : l.length = n) (hn : n ≤ 1000000) (hw : W02 l) (hwd : wide = wsum l) :
    Calls Try.prog 44 #[.slice A n c, .int .i64 wide, .int .i64 room] w fun e w' => e = .returned (.int .i64 (fitN l room)) ∧ Below w.heap.size w w' := by
  have HA := Lib.hid hA
  have HL := Lib.hid hl
  have HW := Lib.hid hw
  have HD := Lib.hid hwd
  clear hA hl hw hwd
  by_cases hle : wide ≤ room
  · have HE := Lib.hid ((fit_all HW.out (by rw [← HD.out]; exact hle)).trans HL.out)
    go_enter Try.func44, Try.ntmps44
    go_wp2_with fail
    go_ret
    exact ⟨by rw [HE.out]; rfl, Below.refl _ _⟩
  · have k0 : decide (wide ≤ room) = false := decide_eq_false hle
    go_enter Try.func44, Try.ntmps44
    go_wp2_with fail
    go_loopg [7, 17] n (fun g s i wr => ∃ (j : Nat) (t : Int), i = .int .i64 j ∧ s = .int .i64 t ∧ j ≤ n ∧ n - j ≤ g ∧ Hid (t = wsum (l.take j)) ∧ Hid (0 < j → t ≤ room) ∧ Hid (Below w.heap.size w wr))
    case atStart => exact ⟨0, 0, rfl, rfl, by omega, by omega, Lib.hid (by simp [wsum]), Lib.hid (fun h => by omega), Lib.hid (Below.refl _ _)⟩
    case round =>
      obtain ⟨j, t, rfl, rfl, h1, h2, ht, hroom, hb⟩ := hrel
      by_cases hlt : j < n
      · have hjl : j < l.length := by rw [HL.out]; exact hlt
        obtain ⟨bA, off, rfl, hbA, d0, d1, d2, d3⟩ := (HA.out.below hb.out).cell4 hjl
        have hwt := wsum_take hjl
        rw [← ht.out] at hwt
        have hx := HW.out _ (List.getElem_mem hjl)
        have ht1 := (HW.out.take j).sum
        rw [← ht.out, List.length_take, HL.out] at ht1
        have b1 : 0 ≤ t := ht1.1
        have b2 : t ≤ 2 * n := by have := ht1.2; omega
        have HT := Lib.hid hwt
        have HTJ := ht
        clear ht1 hwt ht
        have HFA : Hid (j = 0 → room < t + l[j].wd → fitN l room = alo l) := Lib.hid fun h0 h3 => fit_alo (by omega) (by subst h0; rw [show (1 : Nat) = 0 + 1 from rfl, HT.out]; exact h3)
        have HFJ : Hid (0 < j → room < t + l[j].wd → fitN l room = j) := Lib.hid fun h0 h3 => fit_at HW.out h0 hjl (by rw [← HTJ.out]; exact hroom.out h0) (by rw [HT.out]; exact h3)
        generalize l[j] = o at *
        obtain ⟨x1, x2⟩ := hx
        have i1 : (0 : Int) ≤ j := by omega
        have i2 : (j : Int) < n := by omega
        have R3 : RawAt 35 (wr.alloc (.cells #[.int .i32 o.r, .int .i64 o.k, .int .i64 o.wd, .int .i64 o.p] 35)) wr.heap.size #[.int .i32 o.r, .int .i64 o.k, .int .i64 o.wd, .int .i64 o.p] := heap_alloc_new wr _
        have e2 := RawAt.cell R3 2
        simp at e2
        have HB3 := Lib.hid (hb.out.trans (((Below.refl _ _).alloc (Nat.le_refl _) (.cells #[.int .i32 o.r, .int .i64 o.k, .int .i64 o.wd, .int .i64 o.p] 35)).mono hb.out.size))
        clear R3 hb
        by_cases hr : t + o.wd ≤ room
        · clear HFA HFJ
          go_wp2_with fail
          go_roundg (gk - 1)
          case measure => omega
          case rel => exact ⟨j + 1, t + o.wd, by go_num, rfl, by omega, by omega, Lib.hid HT.out.symm, Lib.hid (fun _ => hr), HB3⟩
        · have hr1 : room < t + o.wd := by omega
          have k1 : decide (t + o.wd ≤ room) = false := decide_eq_false hr
          by_cases h0 : j = 0
          · have HE := Lib.hid (HFA.out h0 hr1)
            have k2 : ((j : Int) == 0) = true := by simp [h0]
            have k3 : decide ((j : Int) = 0) = true := decide_eq_true (by omega)
            have CA := Lib.hid fun (W : World) (hW : Below w.heap.size w W) => bAlone_any (some ⟨bA, off, none⟩) n c l W (HA.out.below hW) HL.out hn (by omega)
            clear HFA HFJ hr1 hr HTJ h0
            go_wp2_with (refine (CA.out _ HB3.out).mono ?_; rintro e w4 ⟨rfl, hb4⟩)
            have HB4 := Lib.hid (HB3.out.trans (hb4.mono HB3.out.size))
            clear hb4
            go_wp2
            go_ret
            exact ⟨by rw [HE.out]; rfl, HB4.out⟩
          · have HE := Lib.hid (HFJ.out (by omega) hr1)
            have k2 : ((j : Int) == 0) = false := by simp; omega
            have k3 : decide ((j : Int) = 0) = false := decide_eq_false (by omega)
            have hj0 : 0 < j := by omega
            clear HFA HFJ hr1 hr HTJ h0
            go_wp2_with fail
            go_ret
            exact ⟨by rw [HE.out]; rfl, HB3.out⟩
      · obtain rfl : j = n := by omega
        have HE : Hid (fitN l room = j) := Lib.hid (by
          rcases Nat.eq_zero_or_pos j with h0 | h0
          · have := fitN_le l room; rw [HL.out] at this; omega
          · exfalso
            have h5 := ht.out
            rw [List.take_of_length_le (by rw [HL.out]; omega), ← HD.out] at h5
            have := hroom.out h0
            omega)
        go_wp2
        go_ret
        exact ⟨by rw [HE.out]; rfl, hb.out⟩
end Go.Proofs.Ytnlhpbnonmdkdaa
