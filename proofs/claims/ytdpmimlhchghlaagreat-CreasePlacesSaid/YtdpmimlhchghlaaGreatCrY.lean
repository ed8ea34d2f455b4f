/- Creases: the document's Out and In. -/
import Derived.Test.YtdpmimlhchghlaaGreatCrS
import Derived.Test.YtdpmimlhchghlaaGreatCrQ
namespace Go.Proofs.YtdpmimlhchghlaaGreat
open Go.RowKit
set_option linter.unusedVariables false
theorem dcnt_take (S : List Int) (v : Int) {j : Nat} (h : j < S.length) : dcnt (S.take (j + 1)) v = dcnt (S.take j) v + if S[j] < v then 1 else 0 := by
  rw [List.take_succ_eq_append_getElem h, dcnt_append, dcnt_cons]
  have : dcnt [] v = 0 := rfl
  rw [this]
  omega
theorem dcnt_bd (S : List Int) (v : Int) (j : Nat) : 0 ≤ dcnt (S.take j) v ∧ dcnt (S.take j) v ≤ j := by
  unfold dcnt
  have h1 := List.length_filter_le (fun p => decide (p < v)) (S.take j)
  have h2 := List.length_take_le j S
  omega
theorem dpl_end (S : List Int) (t : Int) : dpl S t S.length = t := by
  unfold dpl
  simp
theorem dpl_at (S : List Int) (t : Int) {v : Nat} (h : v < S.length) : dpl S t v = S[v] := by
  unfold dpl
  simp [List.getD, List.getElem?_append_left h, h]
set_option maxHeartbeats 8000000 in
set_option maxRecDepth 100000 in
theorem rOut16 (n : Nat) (A : Option Addr) (m c : Nat) (l : List (Int × Int)) (at_ : Int) (w : World) (hA : RowsAt wencS 2 w A l) (hl : l.length = m) (hm : m ≤ 1000000) (hn : n ≤ 1000000) :
    Calls Tryz.prog 18 #[.int .i64 n, .slice A m c, .int .i64 at_] w fun e w' => e = .returned (.int .i64 (dcnt (cstS l n) at_ - dsub l at_)) ∧ Below w.heap.size w w' := by
  have CS := Lib.hid (rStarts16 n A m c l w hA hl hm hn)
  have hSl : (cstS l n).length ≤ 1000000 := Nat.le_trans (cstS_len l n) hn
  have HA := Lib.hid hA
  have HL := Lib.hid hl
  clear hA hl
  generalize cstS l n = S at *
  go_enter Tryz.func18, Tryz.ntmps18
  go_wp2_with fail
  with_reducible refine (CS.out).mono ?_
  rintro e W2 ⟨v2, rfl, o2, b2⟩
  have X2 := Lib.hid b2
  have CH := Lib.hid fun (W : World) (hW : Below W2.heap.size W2 W) => rHides16 A m c l at_ W (HA.out.below (X2.out.trans (hW.mono X2.out.size))) HL.out hm
  obtain ⟨A2, cc2, rfl, hR, _, _⟩ := rows_of_own encZ_len (by omega) o2
  have HR := Lib.hid hR
  obtain ⟨M, hM⟩ : ∃ M, M = S.length := ⟨_, rfl⟩
  rw [← hM] at hSl
  simp only [← hM]
  have HM := Lib.hid hM
  clear b2 o2 hR CS hM
  go_wp2_with fail
  go_loopg [7, 15] M (fun g v i wr => ∃ (j : Nat) (u : Int), v = .int .i64 u ∧ i = .int .i64 j ∧ j ≤ M ∧ M - j ≤ g ∧ Hid (u = dcnt (S.take j) at_) ∧ Hid (Below W2.heap.size W2 wr))
  case atStart => exact ⟨0, 0, rfl, rfl, by omega, by omega, Lib.hid rfl, Lib.hid (Below.refl _ _)⟩
  case round =>
    obtain ⟨j, u, rfl, rfl, j1, j2, hu, hb⟩ := hrel
    have hub := dcnt_bd S at_ j
    rw [← hu.out] at hub
    by_cases hlt : j < M
    · have hjl : j < S.length := by rw [← HM.out]; exact hlt
      obtain ⟨bA, off, rfl, hbA, hce⟩ := (HR.out.below hb.out).at1 hjl
      have f0 := hce 0 (by omega)
      simp [encZ] at f0
      have HT := Lib.hid (dcnt_take S at_ hjl)
      clear hce
      generalize S[j] = p at *
      have i1 : (0 : Int) ≤ j := by omega
      have i2 : (j : Int) < M := by omega
      have kj : decide ((j : Int) < (M : Int)) = true := decide_eq_true i2
      have wu : IntKind.i64.wrap (u + 1) = u + 1 := IntWalk.i64_in _ (by omega)
      by_cases g : p < at_
      · have k1 : decide (p < at_) = true := decide_eq_true g
        have HU : Hid (u + 1 = dcnt (S.take (j + 1)) at_) := Lib.hid (by rw [HT.out, if_pos g, hu.out])
        clear HT hu
        go_wp2
        go_roundg (gk - 1)
        case measure => omega
        case rel => exact ⟨j + 1, u + 1, rfl, by go_num, by omega, by omega, HU, hb⟩
      · have k1 : decide (p < at_) = false := decide_eq_false g
        have HU : Hid (u = dcnt (S.take (j + 1)) at_) := Lib.hid (by rw [HT.out, if_neg g, hu.out, Int.add_zero])
        clear HT hu
        go_wp2
        go_roundg (gk - 1)
        case measure => omega
        case rel => exact ⟨j + 1, u, rfl, by go_num, by omega, by omega, HU, hb⟩
    · obtain rfl : j = M := by omega
      have ht : S.take j = S := List.take_of_length_le (by rw [← HM.out]; exact Nat.le_refl _)
      rw [ht] at hu
      have kj : decide ((j : Int) < (j : Int)) = false := decide_eq_false (by omega)
      have wu : IntKind.i64.wrap (u - 1) = u - 1 := IntWalk.i64_in _ (by omega)
      go_wp2_with fail
      with_reducible refine (CH.out _ hb.out).mono ?_
      rintro e w4 ⟨r, rfl, hr, b4⟩
      have HB4 := Lib.hid (X2.out.trans ((hb.out.trans (b4.mono hb.out.size)).mono X2.out.size))
      clear b4 hb
      rcases hr with ⟨rfl, hc⟩ | ⟨i, hi, rfl, hc⟩
      · have hd : dcnt S at_ - dsub l at_ = u := by
          unfold dsub
          rw [hc, ← hu.out]
          simp
        have HD := Lib.hid hd
        clear hd hc hu
        have kr : decide ((0 : Int) ≤ -1) = false := rfl
        go_wp2
        go_ret
        exact ⟨by rw [HD.out]; rfl, HB4.out⟩
      · obtain ⟨bL, oL, hAe, hbL, d0, d1⟩ := wrowsS (HA.out.below HB4.out) hi
        have hd : dcnt S at_ - dsub l at_ = u - if l[i].1 < at_ then 1 else 0 := by
          unfold dsub
          rw [hc, ← hu.out]
        have HD := Lib.hid hd
        have him : i < m := by rw [← HL.out]; exact hi
        subst hAe
        clear hd hc hu
        generalize l[i] = x at *
        obtain ⟨x1, x2⟩ := x
        simp only at d0 d1 HD
        have q1 : (0 : Int) ≤ i := by omega
        have q2 : (i : Int) < m := by omega
        have kr : decide ((0 : Int) ≤ (i : Int)) = true := decide_eq_true q1
        by_cases g : x1 < at_
        · have k1 : decide (x1 < at_) = true := decide_eq_true g
          rw [if_pos g] at HD
          go_wp2
          go_ret
          exact ⟨by rw [HD.out]; rfl, HB4.out⟩
        · have k1 : decide (x1 < at_) = false := decide_eq_false g
          rw [if_neg g, Int.sub_zero] at HD
          go_wp2
          go_ret
          exact ⟨by rw [HD.out]; rfl, HB4.out⟩
set_option maxHeartbeats 8000000 in
set_option maxRecDepth 100000 in
theorem rIn16 (n : Nat) (A : Option Addr) (m c : Nat) (l : List (Int × Int)) (v : Nat) (w : World) (hA : RowsAt wencS 2 w A l) (hl : l.length = m) (hm : m ≤ 1000000) (hn : n ≤ 1000000) (hv : v ≤ (cstS l n).length) :
    Calls Tryz.prog 21 #[.int .i64 n, .slice A m c, .int .i64 v] w fun e w' => e = .returned (.int .i64 (dpl (cstS l n) n v)) ∧ Below w.heap.size w w' := by
  have CS := Lib.hid (rStarts16 n A m c l w hA hl hm hn)
  have hSl : (cstS l n).length ≤ 1000000 := Nat.le_trans (cstS_len l n) hn
  have HE := Lib.hid (dpl_end (cstS l n) n)
  have HAT := Lib.hid fun (h : v < (cstS l n).length) => dpl_at (cstS l n) n h
  clear hA hl
  generalize cstS l n = S at *
  go_enter Tryz.func21, Tryz.ntmps21
  go_wp2_with fail
  with_reducible refine (CS.out).mono ?_
  rintro e W2 ⟨v2, rfl, o2, b2⟩
  have X2 := Lib.hid b2
  obtain ⟨A2, cc2, rfl, hR, _, _⟩ := rows_of_own encZ_len (by omega) o2
  have HR := Lib.hid hR
  clear b2 o2 hR CS
  by_cases h : v = S.length
  · have k0 : ((v : Int) == (S.length : Int)) = true := by rw [h]; simp
    rw [← h] at HE
    go_wp2
    go_ret
    exact ⟨by rw [HE.out]; rfl, X2.out⟩
  · have hjl : v < S.length := by omega
    have k0 : ((v : Int) == (S.length : Int)) = false := by
      have : ¬ (v : Int) = (S.length : Int) := by omega
      simpa using this
    obtain ⟨bA, off, rfl, hbA, hce⟩ := HR.out.at1 hjl
    have f0 := hce 0 (by omega)
    simp [encZ] at f0
    have HD := Lib.hid (HAT.out hjl)
    have i1 : (0 : Int) ≤ v := by omega
    have i2 : (v : Int) < S.length := by omega
    clear hce HE HAT
    generalize S[v] = p at *
    go_wp2
    go_ret
    exact ⟨by rw [HD.out]; rfl, X2.out⟩
end Go.Proofs.YtdpmimlhchghlaaGreat
