/- The law RopeBreaks. -/
import Derived.Test.YtaemndioleofjaaRWide
import Derived.Test.YtaemndioleofjaaRef7
import Derived.Test.YtaemndioleofjaaRDec
namespace Go.Proofs.Ytaemndioleofjaa
open Go.RowKit
set_option maxHeartbeats 4000000 in
set_option maxRecDepth 100000 in
theorem ropeBreaks_walk (s : ByteArray) (k : Int) (w : World) (_hs : s.size ≤ maxLen) (_hk : Lit.wf (.int .i64 k)) : Calls Try.prog 5 #[.string s, .int .i64 k] w fun e w' => e = .returned (.bool true) ∧ Below w.heap.size w w' := by
  have CW := Lib.hid fun W => wide_any W
  clear _hk
  by_cases hl : 2000 < s.size
  · go_enter Try.func5, Try.ntmps5
    go_wp2_with fail
    refine (CW.out _).mono ?_
    rintro e w1 ⟨rfl, hb1⟩
    go_wp2_with fail
    go_ret
    exact ⟨rfl, hb1⟩
  have hsl : s.size ≤ 2000 := by omega
  have hdl := dec_len s
  have CN := Lib.hid (rnew_any s w (by omega) (by omega))
  have CD := Lib.hid fun W => rdecode_any s W (by omega)
  obtain ⟨D, hD⟩ : ∃ D, D = dec s := ⟨_, rfl⟩
  have HD := Lib.hid hD
  rw [← hD] at CD CN hdl
  clear hl hD
  go_enter Try.func5, Try.ntmps5
  go_wp2_with fail
  refine CN.out.mono ?_
  rintro e w1 ⟨b, ps, h, rfl, hR, hf, hb1⟩
  have HR := Lib.hid hR
  have HFl := Lib.hid hf
  clear hR hf
  go_wp2_with fail
  refine (CD.out _).mono ?_
  rintro e w2 ⟨A, c, rfl, hb2, hI, hC⟩
  have HI := Lib.hid hI
  have HC := Lib.hid hC
  clear hI hC
  have C1 := Lib.hid (behind_any (HR.out.below hb2) k)
  rw [HFl.out] at C1
  go_wp2_with fail
  refine C1.out.mono ?_
  rintro e w3 ⟨a1, d1, h1, rfl, hb3⟩
  have C2 := Lib.hid (f7behind A D.length c D w3 (HI.out.below hb3) rfl (by omega) k)
  go_wp2_with fail
  refine C2.out.mono ?_
  rintro e w4 ⟨a2, d2, h2, rfl, hw4⟩
  have hw4 := hw4.symm
  subst hw4
  obtain ⟨rfl, rfl⟩ := h1.unique h2
  have q3 := hb2.trans (hb3.mono hb2.size)
  have C3 := Lib.hid (raheadOf_any (HR.out.below q3) k)
  rw [HFl.out] at C3
  clear h1 h2 C1 C2
  go_wp2_with fail
  refine C3.out.mono ?_
  rintro e w5 ⟨a3, d3, h3, rfl, hb5⟩
  have q5 := q3.trans (hb5.mono q3.size)
  have C4 := Lib.hid (f7ahead A D.length c D w5 ((HI.out.below hb3).below hb5) rfl HC.out (by omega) k)
  go_wp2_with fail
  refine C4.out.mono ?_
  rintro e w6 ⟨a4, d4, h4, rfl, hw6⟩
  have hw6 := hw6.symm
  subst hw6
  obtain ⟨rfl, rfl⟩ := h3.unique h4
  clear h3 h4 C3 C4
  go_wp2_with fail
  refine (CW.out _).mono ?_
  rintro e w7 ⟨rfl, hb7⟩
  go_wp2_with fail
  go_ret
  exact ⟨rfl, hb1.trans ((q5.trans (hb7.mono q5.size)).mono hb1.size)⟩
end Go.Proofs.Ytaemndioleofjaa
