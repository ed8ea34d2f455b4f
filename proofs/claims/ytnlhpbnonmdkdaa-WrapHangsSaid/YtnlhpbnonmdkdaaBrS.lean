/- The document's answers on rows: fit, Takes, start; the law's right. -/
import Derived.Test.YtnlhpbnonmdkdaaBrR
namespace Go.Proofs.Ytnlhpbnonmdkdaa
open Go.RowKit
set_option linter.unusedVariables false
set_option maxHeartbeats 4000000 in
set_option maxRecDepth 100000 in
theorem r9Fit_any (A : Option Addr) (n c : Nat) (l : List Cl) (room : Int) (w : World) (hA : RowsAt encC 4 w A l) (hl : l.length = n) (hc : Caps A n c) (hn : n ≤ 1000000) (hw : W02 l) (h0 : 0 < n) :
    Calls Try.prog 37 #[.slice A n c, .int .i64 room] w fun e w' => e = .returned (.int .i64 (fitN l room)) ∧ Below w.heap.size w w' := by
  have HA := Lib.hid hA
  have HL := Lib.hid hl
  have HW := Lib.hid hw
  have CW := Lib.hid fun (q : Nat) (hq : q ≤ n) (W : World) (hW : Below w.heap.size w W) => r9Width_any A q c (l.take q) W (rows_takeC (hA.below hW) hl hc.1 hq) (by rw [List.length_take, hl]; omega) (by omega) (hw.take q).wide
  have HCUT := Lib.hid fun (q : Nat) (hq : q ≤ n) (W : World) => cutK_hd cell_slt A n c q (by have := hc.1; omega) W
  clear hA hl hc hw
  go_enter Try.func37, Try.ntmps37
  go_wp2_with fail
  go_loopg [5] n (fun g i wr => ∃ (j : Nat), i = .int .i64 j ∧ j ≤ n ∧ n - j ≤ g ∧ Hid (0 < j → wsum (l.take j) ≤ room) ∧ Hid (Below w.heap.size w wr))
  case atStart => exact ⟨0, rfl, by omega, by omega, Lib.hid (fun h => by omega), Lib.hid (Below.refl _ _)⟩
  case round =>
    obtain ⟨j, rfl, h1, h2, hs, hb⟩ := hrel
    by_cases hlt : j < n
    · have i1 : (0 : Int) ≤ j := by omega
      have i2 : (j : Int) < n := by omega
      have i3 : ((j : Int) + 1) = ((j + 1 : Nat) : Int) := by omega
      have CWj := Lib.hid (CW.out (j + 1) (by omega))
      have hcut := fun W => HCUT.out (j + 1) (by omega) W
      rw [← i3] at hcut
      have i4 : IntKind.i64.wrap ((j : Int) + 1) = (j : Int) + 1 := IntWalk.i64_in _ (by omega)
      have HWS : Hid (wsum (l.take (j + 1)) = wsum (l.take (j + 1))) := Lib.hid rfl
      obtain ⟨s, hse⟩ : ∃ s, wsum (l.take (j + 1)) = s := ⟨_, rfl⟩
      rw [hse] at CWj
      have HSE := Lib.hid hse
      clear hse i3 HWS
      by_cases hr : s ≤ room
      · clear CW HCUT
        go_wp2_with (refine (CWj.out _ hb.out).mono ?_; rintro e w2 ⟨rfl, hb2⟩; have HB2 := Lib.hid (hb.out.trans (hb2.mono hb.out.size)); clear hb2)
        go_roundg (gk - 1)
        case measure => omega
        case rel => exact ⟨j + 1, by go_num, by omega, by omega, Lib.hid (fun _ => by rw [HSE.out]; exact hr), HB2⟩
      · have k0 : decide (s ≤ room) = false := decide_eq_false hr
        have hr1 : room < s := by omega
        have HR1 := Lib.hid hr1
        by_cases hz : j = 0
        · have HF : Hid (fitN l room = alo l) := Lib.hid (fit_alo (by rw [HL.out]; omega) (by subst hz; rw [show (1 : Nat) = 0 + 1 from rfl, HSE.out]; exact hr1))
          have k2 : ((j : Int) == 0) = true := by simp [hz]
          have k3 : decide ((j : Int) = 0) = true := decide_eq_true (by omega)
          clear hz hr hr1 CW HCUT
          go_wp2_with (refine (CWj.out _ hb.out).mono ?_; rintro e w2 ⟨rfl, hb2⟩; have HB2 := Lib.hid (hb.out.trans (hb2.mono hb.out.size)); clear hb2)
          go_loopg [5] n (fun g i wr => ∃ (j : Nat), i = .int .i64 j ∧ 0 < j ∧ j ≤ n ∧ n - j ≤ g ∧ Hid (∀ i (h : i < l.length), 0 < i → i < j → l[i].wd = 0) ∧ Hid (Below w.heap.size w wr))
          case atStart => exact ⟨1, rfl, by omega, by omega, by omega, Lib.hid (fun i h hi hj => by omega), HB2⟩
          case round =>
            clear HB2 hlt h1 h2 hs hb i1 i2 hcut i4 CWj HSE k0 HR1 k2 k3
            obtain ⟨j, rfl, h0j, h1, h2, hs, hb⟩ := hrel
            by_cases hlt : j < n
            · have hjl : j < l.length := by rw [HL.out]; exact hlt
              obtain ⟨bA, off, rfl, hbA, d0, d1, d2, d3⟩ := (HA.out.below hb.out).cell4 hjl
              have i1 : (0 : Int) ≤ j := by omega
              have i2 : (j : Int) < n := by omega
              by_cases hz : l[j].wd = 0
              · have HS : Hid (∀ i (h : i < l.length), 0 < i → i < j + 1 → l[i].wd = 0) := Lib.hid (fun i h h0 hi => by
                  rcases Nat.lt_or_ge i j with g | g
                  · exact hs.out i h h0 g
                  · obtain rfl : i = j := by omega
                    exact hz)
                rw [hz] at d2
                clear hz d0 d1 d3
                go_wp2_with fail
                go_roundg (gk - 1)
                case measure => omega
                case rel => exact ⟨j + 1, by go_num, by omega, by omega, by omega, HS, hb⟩
              · have HE := Lib.hid (HF.out.trans (alo_eq h0j hs.out (fun _ => hz) (by omega)))
                have k1 : (l[j].wd == 0) = false := by simpa using hz
                generalize l[j] = o at *
                clear d0 d1 d3
                go_wp2
                go_ret
                exact ⟨by rw [HE.out]; rfl, hb.out⟩
            · obtain rfl : j = n := by omega
              have HE := Lib.hid (HF.out.trans (alo_eq h0j hs.out (fun h => by rw [HL.out] at h; omega) (by rw [HL.out]; omega)))
              go_wp2
              go_ret
              exact ⟨by rw [HE.out]; rfl, hb.out⟩
        · have HF : Hid (fitN l room = j) := Lib.hid (fit_at HW.out (by omega) (by rw [HL.out]; exact hlt) (hs.out (by omega)) (by rw [HSE.out]; exact hr1))
          have k2 : ((j : Int) == 0) = false := by simp; omega
          have k3 : decide ((j : Int) = 0) = false := decide_eq_false (by omega)
          have hj0 : 0 < j := by omega
          clear hz hr hr1 CW HCUT
          go_wp2_with (refine (CWj.out _ hb.out).mono ?_; rintro e w2 ⟨rfl, hb2⟩; have HB2 := Lib.hid (hb.out.trans (hb2.mono hb.out.size)); clear hb2)
          go_ret
          exact ⟨by rw [HF.out]; rfl, HB2.out⟩
    · obtain rfl : j = n := by omega
      have HF : Hid (fitN l room = j) := Lib.hid (by
        have h5 := hs.out h0
        rw [List.take_of_length_le (by rw [HL.out]; omega)] at h5
        rw [fit_all HW.out h5, HL.out])
      have k2 : ((j : Int) == 0) = false := by simp; omega
      have k3 : decide ((j : Int) = 0) = false := decide_eq_false (by omega)
      go_wp2
      go_ret
      exact ⟨by rw [HF.out]; rfl, hb.out⟩
set_option maxHeartbeats 4000000 in
set_option maxRecDepth 100000 in
theorem r9Takes_any (A : Option Addr) (n c : Nat) (l : List Cl) (room : Int) (w : World) (hA : RowsAt encC 4 w A l) (hl : l.length = n) (hc : Caps A n c) (hn : n ≤ 1000000) (hw : W02 l) :
    Calls Try.prog 18 #[.slice A n c, .int .i64 room] w fun e w' => e = .returned (.int .i64 (tak l room)) ∧ Below w.heap.size w w' := by
  by_cases hz : n = 0
  · subst hz
    obtain rfl : l = [] := List.eq_nil_of_length_eq_zero hl
    clear hA hl hc hw
    go_enter Try.func18, Try.ntmps18
    go_wp2
    go_ret
    exact ⟨by rw [tak_nil]; rfl, Below.refl _ _⟩
  · have CF := Lib.hid (r9Fit_any A n c l room w hA hl hc hn hw (by omega))
    have hfl := fitN_le l room
    rw [hl] at hfl
    obtain ⟨q, hq⟩ : ∃ q, fitN l room = q := ⟨_, rfl⟩
    rw [hq] at hfl CF
    have HQ := Lib.hid hq
    have HL := Lib.hid hl
    have HA := Lib.hid hA
    have hz1 : ((n : Int) == 0) = false := by simp; omega
    have hz2 : decide ((n : Int) = 0) = false := decide_eq_false (by omega)
    have hz3 : 0 < n := by omega
    have hq0 : 0 < q := by rw [← hq]; exact fitN_pos (by omega)
    clear hA hl hc hw hq hz
    by_cases hqn : q = n
    · have HE : Hid (tak l room = q) := Lib.hid (by rw [tak_full (by rw [HQ.out, HL.out, hqn]), HQ.out])
      have k1 : ((q : Int) == (n : Int)) = true := by simp [hqn]
      clear hqn
      go_enter Try.func18, Try.ntmps18
      go_wp2_with (refine (CF.out).mono ?_; rintro e w1 ⟨rfl, hb1⟩; have HB1 := Lib.hid hb1; clear hb1)
      go_ret
      exact ⟨by rw [HE.out]; rfl, HB1.out⟩
    · have k1 : ((q : Int) == (n : Int)) = false := by simp; omega
      have HNE : Hid (¬ fitN l room = l.length) := Lib.hid (by rw [HQ.out, HL.out]; exact hqn)
      have hqn2 : q < n := by omega
      clear hqn
      go_enter Try.func18, Try.ntmps18
      go_wp2_with (refine (CF.out).mono ?_; rintro e w1 ⟨rfl, hb1⟩; have HB1 := Lib.hid hb1; clear hb1)
      go_loopg [6, 7] q (fun g b i wr => ∃ (j t : Nat), i = .int .i64 ((j : Int) + 1) ∧ b = .int .i64 (t : Int) ∧ j ≤ q ∧ q - j ≤ g ∧ t ≤ j ∧ Hid (t = lastB l j) ∧ Hid (Below w.heap.size w wr))
      case atStart => exact ⟨0, 0, rfl, rfl, by omega, by omega, by omega, Lib.hid rfl, HB1⟩
      case round =>
        clear HB1
        obtain ⟨j, t, rfl, rfl, h1, h2, h3, ht, hb⟩ := hrel
        by_cases hlt : j < q
        · obtain ⟨r, hr⟩ : ∃ r, bnd l (j + 1) = r := ⟨_, rfl⟩
          have CB := Lib.hid (r9Bound_any A n c l j r wr (HA.out.below hb.out) HL.out hn (by omega) hr)
          have HR := Lib.hid hr
          clear hr
          have i1 : (0 : Int) ≤ j := by omega
          have i2 : (j : Int) + 1 ≤ q := by omega
          cases r
          · go_wp2_with (refine (CB.out).mono ?_; rintro e w2 ⟨rfl, hb2⟩; have HB2 := Lib.hid (hb.out.trans (hb2.mono hb.out.size)); clear hb2)
            go_roundg (gk - 1)
            case measure => omega
            case rel => exact ⟨j + 1, t, by go_num, rfl, by omega, by omega, by omega, Lib.hid (by rw [ht.out, lastB, HR.out]; simp), HB2⟩
          · go_wp2_with (refine (CB.out).mono ?_; rintro e w2 ⟨rfl, hb2⟩; have HB2 := Lib.hid (hb.out.trans (hb2.mono hb.out.size)); clear hb2)
            go_roundg (gk - 1)
            case measure => omega
            case rel => exact ⟨j + 1, j + 1, by go_num, by go_num, by omega, by omega, by omega, Lib.hid (by rw [lastB, HR.out]; simp), HB2⟩
        · obtain rfl : j = q := by omega
          by_cases ht0 : t = 0
          · have HE : Hid (tak l room = j) := Lib.hid (by
              unfold tak
              rw [if_neg HNE.out, HQ.out, ← ht.out, if_pos ht0])
            have k2 : ((t : Int) == 0) = true := by simp [ht0]
            have k3 : decide ((t : Int) = 0) = true := decide_eq_true (by omega)
            clear ht0
            go_wp2
            go_ret
            exact ⟨by rw [HE.out]; rfl, hb.out⟩
          · have HE : Hid (tak l room = t) := Lib.hid (by
              unfold tak
              rw [if_neg HNE.out, HQ.out, ← ht.out, if_neg ht0])
            have k2 : ((t : Int) == 0) = false := by simp; omega
            have k3 : decide ((t : Int) = 0) = false := decide_eq_false (by omega)
            clear ht0
            go_wp2
            go_ret
            exact ⟨by rw [HE.out]; rfl, hb.out⟩
end Go.Proofs.Ytnlhpbnonmdkdaa
