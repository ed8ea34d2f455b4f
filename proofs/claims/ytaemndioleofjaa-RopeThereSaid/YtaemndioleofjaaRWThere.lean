/- The law that places and bytes are there and back. -/
import Derived.Test.YtaemndioleofjaaRWide
namespace Go.Proofs.Ytaemndioleofjaa
open Go.RowKit
set_option maxHeartbeats 4000000 in
set_option maxRecDepth 100000 in
theorem ropeThere_walk (s : ByteArray) (w : World) (_hs : s.size ≤ maxLen) : Calls Try.prog 4 #[.string s] w fun e w' => e = .returned (.bool true) ∧ Below w.heap.size w w' := by
  have CW := Lib.hid fun W => wide_any W
  by_cases hl : 600 < s.size
  · go_enter Try.func4, Try.ntmps4
    go_wp2_with fail
    refine (CW.out _).mono ?_
    rintro e w1 ⟨rfl, hb1⟩
    go_wp2_with fail
    go_ret
    exact ⟨rfl, hb1⟩
  have hsl : s.size ≤ 600 := by omega
  have hdl := dec_len s
  have CN := Lib.hid (rnew_any s w (by omega) (by omega))
  clear hl
  go_enter Try.func4, Try.ntmps4
  go_wp2_with fail
  refine CN.out.mono ?_
  rintro e w1 ⟨b, ps, h, rfl, hR, hf, hb1⟩
  have hlen : ps.flatten.length ≤ 600 := by rw [hf]; omega
  clear hf
  have CR := Lib.hid fun (W : World) (hW : Below w1.heap.size w1 W) => rrunes_any (hR.below hW)
  have CY := Lib.hid fun (W : World) (hW : Below w1.heap.size w1 W) => rbytes_any (hR.below hW)
  have CB := Lib.hid fun (W : World) (hW : Below w1.heap.size w1 W) (j : Nat) (hj : j ≤ ps.flatten.length) => (byteAt_any (hR.below hW) j).mono fun e w' ⟨a, c, hi, he, hb⟩ => (by
    obtain ⟨rfl, rfl⟩ := hi.unique (show SizeIs ps.flatten 0 j (szl (ps.flatten.take j) 0) 0 from .inr ⟨by omega, by omega, by rw [Int.toNat_natCast], rfl⟩)
    exact ⟨he, hb⟩ : e = Ending.returned (.tuple #[.int .i64 (szl (ps.flatten.take j) 0), .int .i64 0]) ∧ Below W.heap.size W w')
  have CA := Lib.hid fun (W : World) (hW : Below w1.heap.size w1 W) (j : Nat) (hj : j ≤ ps.flatten.length) => (runeAt_any (hR.below hW) (szl (ps.flatten.take j) 0)).mono fun e w' ⟨a, c, hi, he, hb⟩ => (by
    obtain ⟨rfl, rfl⟩ := hi.unique (show RuneIs ps.flatten (szl (ps.flatten.take j) 0) j 0 from .inr (.inl ⟨j, hj, rfl, rfl, rfl⟩))
    exact ⟨he, hb⟩ : e = Ending.returned (.tuple #[.int .i64 j, .int .i64 0]) ∧ Below W.heap.size W w')
  have HR := Lib.hid hR
  clear hR
  obtain ⟨n, hn⟩ : ∃ n, n = ps.flatten.length := ⟨_, rfl⟩
  have HN := Lib.hid hn
  rw [← hn] at CR hlen CB CA
  clear hn
  go_wp2_with fail
  go_loopg [5, 6] (n + 1) (fun g l i wr => ∃ (j : Nat), i = .int .i64 j ∧ j ≤ n + 1 ∧ n + 1 - j ≤ g ∧ Below w1.heap.size w1 wr ∧ Hid (l = .int .i64 (if j = 0 then -1 else szl (ps.flatten.take (j - 1)) 0)))
  case atStart => exact ⟨0, rfl, by omega, by omega, Below.refl _ _, Lib.hid (by simp)⟩
  case round =>
    obtain ⟨j, rfl, h1, h2, hb, hL⟩ := hrel
    obtain ⟨lv, hlv⟩ : ∃ lv : Int, lv = (if j = 0 then -1 else szl (ps.flatten.take (j - 1)) 0) := ⟨_, rfl⟩
    have hL2 := hL.out
    rw [← hlv] at hL2
    subst hL2
    clear hL
    have HLV := Lib.hid hlv
    clear hlv
    go_wp2_with fail
    refine (CR.out _ hb).mono ?_
    rintro e w2 ⟨rfl, hb2⟩
    have a2 := hb.trans (hb2.mono hb.size)
    by_cases hlt : j ≤ n
    · have CBj := Lib.hid (CB.out _ a2 j hlt)
      have CAj := Lib.hid fun (W : World) (hW : Below w1.heap.size w1 W) => CA.out W hW j hlt
      have hgt : lv < szl (ps.flatten.take j) 0 := by
        rw [HLV.out]
        split
        · have := szl_nonneg (ps.flatten.take j) 0; omega
        · exact szl_step (by omega) (by rw [← HN.out]; exact hlt)
      have HZ := Lib.hid (show (if j + 1 = 0 then -1 else szl (ps.flatten.take (j + 1 - 1)) 0) = szl (ps.flatten.take j) 0 from by rw [if_neg (by omega), Nat.add_sub_cancel])
      generalize szl (ps.flatten.take j) 0 = z at *
      have hng : ¬ (z ≤ lv) := by omega
      go_wp2_with fail
      refine CBj.out.mono ?_
      rintro e w3 ⟨rfl, hb3⟩
      have a3 := a2.trans (hb3.mono a2.size)
      go_wp2_with fail
      refine (CAj.out _ a3).mono ?_
      rintro e w4 ⟨rfl, hb4⟩
      have a4 := a3.trans (hb4.mono a3.size)
      go_wp2
      go_roundg (gk - 1)
      case measure => omega
      case rel => exact ⟨j + 1, by go_num, by omega, by omega, a4, Lib.hid (by rw [HZ.out])⟩
    · have he : j = n + 1 := by omega
      have hz : lv = szl ps.flatten 0 := by rw [HLV.out, if_neg (by omega), he, Nat.add_sub_cancel, HN.out, szl_all]
      subst hz
      generalize szl ps.flatten 0 = z at *
      go_wp2_with fail
      refine (CY.out _ a2).mono ?_
      rintro e w3 ⟨rfl, hb3⟩
      have a3 := a2.trans (hb3.mono a2.size)
      go_wp2_with fail
      refine (CW.out _).mono ?_
      rintro e w4 ⟨rfl, hb4⟩
      have a4 := a3.trans (hb4.mono a3.size)
      go_wp2_with fail
      go_ret
      exact ⟨rfl, hb1.trans (a4.mono hb1.size)⟩
end Go.Proofs.Ytaemndioleofjaa
