/- The law RopeLong. -/
import Derived.Test.YtaemndioleofjaaRWide
import Derived.Test.YtaemndioleofjaaRDec
namespace Go.Proofs.Ytaemndioleofjaa
open Go.RowKit
/-- A text of one letter. -/
def aaa (m : Nat) : ByteArray := txt (List.replicate m 97)
theorem aaa_enc (m : Nat) : encAll (List.replicate m 97) = List.replicate m (97 : UInt8) := by
  induction m with
  | zero => rfl
  | succ m ih =>
    rw [List.replicate_succ, List.replicate_succ]
    show Lib.encodeRune 97 ++ encAll (List.replicate m 97) = _
    rw [ih]; rfl
theorem aaa_cln (m : Nat) : Cln (List.replicate m 97) := fun r hr => by
  have := (List.mem_replicate.1 hr).2
  subst this
  decide
theorem aaa_dec (m : Nat) : dec (aaa m) = List.replicate m 97 := dec_txt (aaa_cln m)
theorem aaa_size (m : Nat) : (aaa m).size = m := by unfold aaa; rw [txt_size, aaa_enc, List.length_replicate]
theorem aaa_ext {a b : ByteArray} (h : a.data.toList = b.data.toList) : a = b := by
  cases a; cases b
  congr 1
  exact Array.ext' h
theorem aaa_list (m : Nat) : (aaa m).data.toList = List.replicate m (97 : UInt8) := by unfold aaa txt; rw [aaa_enc]
theorem aaa_add (m n : Nat) : aaa m ++ aaa n = aaa (m + n) := aaa_ext (by
  rw [show (aaa m ++ aaa n).data.toList = (aaa m).data.toList ++ (aaa n).data.toList from by simp [ByteArray.data_append], aaa_list, aaa_list, aaa_list, List.replicate_append_replicate])
theorem aaa_cut (m k : Nat) (h : k ≤ m) : (aaa m).extract 0 k = aaa k := aaa_ext (by
  rw [extract_list, aaa_list, aaa_list, List.drop_zero, List.take_replicate, Nat.min_eq_left h])
theorem aaa_one : (⟨#[97]⟩ : ByteArray) = aaa 1 := aaa_ext (by rw [aaa_list]; rfl)
set_option maxHeartbeats 4000000 in
set_option maxRecDepth 100000 in
theorem ropeLong_walk (n : Int) (s : ByteArray) (w : World) (_hn : Lit.wf (.int .i64 n)) (_hs : s.size ≤ maxLen) : Calls Try.prog 6 #[.int .i64 n, .string s] w fun e w' => e = .returned (.bool true) ∧ Below w.heap.size w w' := by
  have CW := Lib.hid fun W => wide_any W
  clear _hn
  by_cases hg : n < 0
  · go_enter Try.func6, Try.ntmps6
    go_wp2_with fail
    refine (CW.out _).mono ?_
    rintro e w1 ⟨rfl, hb1⟩
    go_wp2_with fail
    go_ret
    exact ⟨rfl, hb1⟩
  by_cases hg6 : 6 < n
  · go_enter Try.func6, Try.ntmps6
    go_wp2_with fail
    refine (CW.out _).mono ?_
    rintro e w1 ⟨rfl, hb1⟩
    go_wp2_with fail
    go_ret
    exact ⟨rfl, hb1⟩
  obtain ⟨m, rfl⟩ : ∃ m : Nat, n = m := ⟨n.toNat, by omega⟩
  by_cases hl : 100 < s.size
  · go_enter Try.func6, Try.ntmps6
    go_wp2_with fail
    refine (CW.out _).mono ?_
    rintro e w1 ⟨rfl, hb1⟩
    go_wp2_with fail
    go_ret
    exact ⟨rfl, hb1⟩
  have hm : m ≤ 6 := by omega
  have hsl : s.size ≤ 100 := by omega
  have hdl := dec_len s
  have CD := Lib.hid fun W => rdecode_any s W (by omega)
  have dz1 : decide ((m : Int) < 0) = false := decide_eq_false (by omega)
  have dz2 : decide ((6 : Int) < (m : Int)) = false := decide_eq_false (by omega)
  have dz3 : decide (6 < m) = false := decide_eq_false (by omega)
  have dz4 : decide (100 < s.size) = false := decide_eq_false (by omega)
  clear hg hg6 hl
  have hone := aaa_one
  go_enter Try.func6, Try.ntmps6
  go_wp2_with fail
  go_loopg [5] 15 (fun g t wr => ∃ k : Nat, k ≤ 15 ∧ 15 - k ≤ g ∧ wr = w ∧ Hid (t = .string (aaa (2 ^ k))))
  case atStart => exact ⟨0, by omega, by omega, rfl, Lib.hid (by first | rfl | (rw [aaa_one]; rfl))⟩
  case round =>
    obtain ⟨k, h1, h2, rfl, ht⟩ := hrel
    have ht := ht.out
    subst ht
    by_cases hlt : (aaa (2 ^ k)).size < 20004
    · have hk : k < 15 := by
        rw [aaa_size] at hlt
        rcases Nat.lt_or_ge k 15 with h | h
        · exact h
        · exfalso
          have : 2 ^ 15 ≤ 2 ^ k := Nat.pow_le_pow_right (by omega) h
          omega
      have hadd : aaa (2 ^ k) ++ aaa (2 ^ k) = aaa (2 ^ (k + 1)) := by rw [aaa_add, Nat.pow_succ]; congr 1; omega
      have HADD := Lib.hid hadd
      clear hadd
      generalize aaa (2 ^ k) = t at *
      go_wp2
      go_roundg (gk - 1)
      case measure => omega
      case rel => exact ⟨k + 1, by omega, by omega, rfl, Lib.hid (by rw [HADD.out])⟩
    · have hk : 20004 ≤ 2 ^ k := by rw [aaa_size] at hlt; omega
      have hcut := aaa_cut (2 ^ k) (19997 + m) (by omega)
      have hsz : 20004 ≤ (aaa (2 ^ k)).size := by rw [aaa_size]; exact hk
      have hszb : (aaa (2 ^ k)).size ≤ 40000 := by
        rw [aaa_size]
        have : 2 ^ k ≤ 2 ^ 15 := Nat.pow_le_pow_right (by omega) h1
        omega
      have HCUT := Lib.hid hcut
      clear hk hcut hlt
      generalize aaa (2 ^ k) = t at *
      have hsl : (Instr.slice 9 (.string t) none (some (.int .i64 (19997 + (m : Int)))) none).run Try.prog wr = .ok (.string (aaa (19997 + m))) wr := by
        have := run_slice_string_h wr 9 t Try.underlying9 .i64 (19997 + (m : Int)) (by omega) (by omega)
        rw [this, show (19997 + (m : Int)).toNat = 19997 + m from by omega, HCUT.out]
      have hal : (dec (aaa (19997 + m))).length = 19997 + m := by rw [aaa_dec, List.length_replicate]
      have hasz := aaa_size (19997 + m)
      clear dz1 dz2 dz3 dz4
      by_cases hm3 : 3 < m
      · have CN := Lib.hid (rnew_full (aaa (19997 + m)) wr (by omega) (by omega))
        clear hal hasz
        generalize aaa (19997 + m) = ta at *
        go_wp2_with fail
        refine CN.out.mono ?_
        rintro e w1 ⟨rfl, hb1⟩
        go_wp2_with fail
        refine (CW.out _).mono ?_
        rintro e w2 ⟨rfl, hb2⟩
        go_wp2_with fail
        go_ret
        exact ⟨rfl, hb1.trans (hb2.mono hb1.size)⟩
      · have CN := Lib.hid (rnew_any (aaa (19997 + m)) wr (by omega) (by omega))
        have HAL := Lib.hid hal
        clear hal hasz
        generalize aaa (19997 + m) = ta at *
        go_wp2_with fail
        refine CN.out.mono ?_
        rintro e w1 ⟨b, ps, h, rfl, hR, hf, hb1⟩
        have hpl : ps.flatten.length = 19997 + m := by rw [hf]; exact HAL.out
        have HPL := Lib.hid hpl
        have HR := Lib.hid hR
        clear hR hf hpl
        go_wp2_with fail
        refine (CD.out _).mono ?_
        rintro e w2 ⟨A, c, rfl, hb2, hI, hC⟩
        clear hI hC
        have a2 := hb1.trans (hb2.mono hb1.size)
        have hD1 : (dec s).length ≤ 100 := by omega
        generalize hD : (dec s).length = D at *
        have HD := Lib.hid hD
        clear hD
        by_cases hfit : 20000 < 19997 + m + D
        · have C1 := Lib.hid (rrepl_full (HR.out.below hb2) 5 5 (Nat.le_refl _) (by rw [HPL.out]; omega) s (by omega) (by rw [HPL.out, HD.out]; omega))
          have hfi : (20000 : Int) < 19997 + (m : Int) + (D : Int) := by omega
          go_wp2_with fail
          refine C1.out.mono ?_
          rintro e w3 ⟨rfl, hb3⟩
          have a3 := a2.trans (hb3.mono a2.size)
          go_wp2_with fail
          refine (CW.out _).mono ?_
          rintro e w4 ⟨rfl, hb4⟩
          go_wp2_with fail
          go_ret
          exact ⟨rfl, a3.trans (hb4.mono a3.size)⟩
        · have C1 := Lib.hid (rrepl_any (HR.out.below hb2) 5 5 (Nat.le_refl _) (by rw [HPL.out]; omega) s (by omega) (by rw [HPL.out, HD.out]; omega))
          have hfi : ¬ (20000 : Int) < 19997 + (m : Int) + (D : Int) := by omega
          go_wp2_with fail
          refine C1.out.mono ?_
          rintro e w3 ⟨b3, ps3, h3, rfl, hR3, hf3, hb3⟩
          have a3 := a2.trans (hb3.mono a2.size)
          have hl3 : ps3.flatten.length = 19997 + m + D := by
            rw [hf3]
            simp only [List.length_append, List.length_take, List.length_drop]
            have := HPL.out
            have := HD.out
            omega
          have CU := Lib.hid (rrunes_any hR3)
          rw [hl3] at CU
          clear hl3 hf3 hR3
          go_wp2_with fail
          refine CU.out.mono ?_
          rintro e w4 ⟨rfl, hb4⟩
          have a4 := a3.trans (hb4.mono a3.size)
          go_wp2_with fail
          refine (CW.out _).mono ?_
          rintro e w5 ⟨rfl, hb5⟩
          go_wp2_with fail
          go_ret
          exact ⟨rfl, a4.trans (hb5.mono a4.size)⟩
end Go.Proofs.Ytaemndioleofjaa
