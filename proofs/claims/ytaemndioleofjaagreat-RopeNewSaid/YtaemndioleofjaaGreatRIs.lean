/- Is a rope that of some runes? The contract of the law's 'is', where it is so; the law RopeNew. -/
import Derived.Test.YtaemndioleofjaaGreatRWide
import Derived.Test.YtaemndioleofjaaGreatRef7
import Derived.Test.YtaemndioleofjaaGreatRDec
import Derived.Test.YtaemndioleofjaaGreatRefEnc
import Derived.Test.YtaemndioleofjaaGreatRopeH
import Derived.Test.YtaemndioleofjaaGreatRefHigh
namespace Go.Proofs.YtaemndioleofjaaGreat
open Go.RowKit
theorem p4_fourR : ∀ n : Nat, ((p4 n : Nat) : Int) = four n
  | 0 => rfl
  | n + 1 => by rw [four_succ, ← p4_fourR n]; show ((4 * p4 n : Nat) : Int) = _; omega
theorem TP.facts {w : World} {p : Option Addr} {l : List I7} {h : Nat} (ht : TP w p l h) : (h = 0 ↔ l.length = 0) ∧ (2 ≤ h → four (h - 2) ≤ (l.length : Int) + 1) ∧ h ≤ 30000 := by
  rcases ht with ⟨_, rfl, rfl⟩ | ⟨b, v, h1, h2, h3, h4, h5⟩
  · exact ⟨⟨fun _ => rfl, fun _ => rfl⟩, fun h => absurd h (by omega), by omega⟩
  · rcases h3 with ⟨rfl, rfl, rfl⟩ | ⟨c, hk, hc⟩
    · exact ⟨⟨fun _ => rfl, fun _ => rfl⟩, fun h => absurd h (by omega), by omega⟩
    · obtain ⟨x, hx⟩ := hk.pos
      have g1 : c * p4 (h - 1) ≤ l.length := hk.size
      have g2 : 1 ≤ c ∧ c ≤ 8 := hk.cnt
      have g3 := lt_p4 (h - 1)
      have g4 := Nat.mul_le_mul_right (p4 (h - 1)) g2.1
      refine ⟨⟨fun e => by omega, fun e => by omega⟩, fun h2' => ?_, by omega⟩
      have g5 := Nat.mul_le_mul_right (p4 (h - 1)) (hc h2')
      have g6 := p4_fourR (h - 1)
      have g7 := four_le (show h - 2 ≤ h - 1 by omega)
      omega
theorem RP.facts {w : World} {p : Option Addr} {ps : List (List Int)} {h : Nat} (hr : RP w p ps h) : (h = 0 ↔ ps.length = 0) ∧ (2 ≤ h → four (h - 2) ≤ (ps.length : Int) + 1) ∧ h ≤ 30000 := by
  obtain ⟨hP, ⟨_, rfl, rfl⟩ | ⟨b, row, _, _, h3⟩⟩ := hr
  · exact ⟨⟨fun _ => rfl, fun _ => rfl⟩, fun h => absurd h (by omega), by omega⟩
  · have := h3.facts
    rwa [List.length_map] at this
theorem txt_add (a b : List Int) : txt a ++ txt b = txt (a ++ b) := by
  unfold txt
  rw [encAll_append]
  exact bytes_add _ _
theorem PsOk.eights {ps : List (List Int)} (P : PsOk ps) {j : Nat} (hj : j < ps.length) : 1 ≤ (pth ps j).length ∧ (pth ps j).length ≤ 16 ∧ (8 ≤ ps.flatten.length → 8 ≤ (pth ps j).length) := by
  rw [pth_lt hj]
  have hm := List.getElem_mem hj
  refine ⟨(P.one _ hm).1, (P.one _ hm).2, fun h8 => ?_⟩
  by_cases h2 : 2 ≤ ps.length
  · exact P.least h2 _ hm
  · obtain rfl : j = 0 := by omega
    match ps, hj with
    | [q], _ => simpa using h8
    | _ :: _ :: _, _ => simp at h2
set_option maxHeartbeats 4000000 in
set_option maxRecDepth 100000 in
theorem is_any (b : Nat) (ps : List (List Int)) (h : Nat) (A : Option Addr) (n c : Nat) (l : List Int) (w : World) (hr : RP w (some ⟨b, 0, none⟩) ps h) (hA : IntsAt .i32 w A l) (hl : l.length = n) (hc : Caps A n c) (he : ps.flatten = l) :
    Calls Tryz.prog 10 #[.pointer (some ⟨b, 0, none⟩), .slice A n c] w fun e w' => e = .returned (.bool true) ∧ Below w.heap.size w w' := by
  have hmost := hr.1.most
  rw [he, hl] at hmost
  obtain ⟨x1, x2, x3⟩ := hr.facts
  have hpl := hr.1.len
  have CE := Lib.hid fun (W : World) (hW : Below w.heap.size w W) => rencode_any A n c l W (hA.below hW) hl (by omega)
  have CA := Lib.hid fun (W : World) (hW : Below w.heap.size w W) => (f7ahead A n c l W (hA.below hW) hl hc (by omega) n).mono fun e w' ⟨a, d, hi, h1, h2⟩ => (by
    obtain ⟨rfl, rfl⟩ := hi.unique (show SizeIs l 2 n (szl l 2) 0 from .inr ⟨by omega, by omega, by rw [Int.toNat_natCast, ← hl, szl_all], rfl⟩)
    exact ⟨h1, h2⟩ : e = Ending.returned (.tuple #[.int .i64 (szl l 2), .int .i64 0]) ∧ w' = W)
  have CT := Lib.hid fun (W : World) (hW : Below w.heap.size w W) => (by have := rtext_any (hr.below hW); rwa [he] at this : Calls Tryz.prog 27 #[.pointer (some ⟨b, 0, none⟩)] W fun e w' => e = .returned (.string (txt l)) ∧ Below W.heap.size W w')
  have CY := Lib.hid fun (W : World) (hW : Below w.heap.size w W) => (by have := rbytes_any (hr.below hW); rwa [he, show szl l 0 = ((txt l).size : Int) from by rw [txt_size]; rfl] at this : Calls Tryz.prog 29 #[.pointer (some ⟨b, 0, none⟩)] W fun e w' => e = .returned (.int .i64 ((txt l).size : Int)) ∧ Below W.heap.size W w')
  have CU := Lib.hid fun (W : World) (hW : Below w.heap.size w W) => (by have := rrunes_any (hr.below hW); rwa [he, hl] at this : Calls Tryz.prog 28 #[.pointer (some ⟨b, 0, none⟩)] W fun e w' => e = .returned (.int .i64 (n : Int)) ∧ Below W.heap.size W w')
  have CK := Lib.hid fun (W : World) (hW : Below w.heap.size w W) => (by have := rbreaks_any (hr.below hW); rwa [he] at this : Calls Tryz.prog 31 #[.pointer (some ⟨b, 0, none⟩)] W fun e w' => e = .returned (.int .i64 (szl l 2)) ∧ Below W.heap.size W w')
  have CP := Lib.hid fun (W : World) (hW : Below w.heap.size w W) => rpieces_any (hr.below hW)
  have CH := Lib.hid fun (W : World) (hW : Below w.heap.size w W) => rheight_any (hr.below hW)
  have CHi := Lib.hid fun (W : World) => high_yes h ps.length (by omega) x1 x2 (by omega) W
  have HP := Lib.hid hr.1
  have HE := Lib.hid he
  have HL := Lib.hid hl
  clear hr hA hl hc he x1 x2 x3
  rw [show (⟨(encAll l).toArray⟩ : ByteArray) = txt l from rfl] at CE
  obtain ⟨tl, htl⟩ : ∃ tl, tl = txt l := ⟨_, rfl⟩
  have HTL := Lib.hid htl
  rw [← htl] at CE CT CY
  clear htl
  generalize szl l 2 = z at *
  go_enter Tryz.func10, Tryz.ntmps10
  go_wp2_with fail
  refine (CE.out _ (Below.refl _ _)).mono ?_
  rintro e w1 ⟨rfl, hb1⟩
  go_wp2_with fail
  refine (CA.out _ hb1).mono ?_
  rintro e w2 ⟨rfl, hw2⟩
  have hw2 := hw2.symm
  subst hw2
  go_wp2_with fail
  refine (CT.out _ hb1).mono ?_
  rintro e w3 ⟨rfl, hb3⟩
  have a3 := hb1.trans (hb3.mono hb1.size)
  go_wp2_with fail
  refine (CY.out _ a3).mono ?_
  rintro e w4 ⟨rfl, hb4⟩
  have a4 := a3.trans (hb4.mono a3.size)
  go_wp2_with fail
  refine (CU.out _ a4).mono ?_
  rintro e w5 ⟨rfl, hb5⟩
  have a5 := a4.trans (hb5.mono a4.size)
  go_wp2_with fail
  refine (CK.out _ a5).mono ?_
  rintro e w6 ⟨rfl, hb6⟩
  have a6 := a5.trans (hb6.mono a5.size)
  go_wp2_with fail
  refine (CP.out _ a6).mono ?_
  rintro e w7 ⟨B, d, rfl, hb7, hV, hCB⟩
  have a7 := a6.trans (hb7.mono a6.size)
  have HV := Lib.hid hV
  clear hV hCB
  obtain ⟨N, hN⟩ : ∃ N, N = ps.length := ⟨_, rfl⟩
  have HN := Lib.hid hN
  rw [← hN] at hpl CHi ⊢
  clear hN
  go_wp2_with fail
  go_loopg [9, 54] N (fun g x i wr => ∃ j : Nat, i = .int .i64 j ∧ j ≤ N ∧ N - j ≤ g ∧ Below w7.heap.size w7 wr ∧ Hid (x = .string (txt (ps.take j).flatten)))
  case atStart => exact ⟨0, rfl, by omega, by omega, Below.refl _ _, Lib.hid rfl⟩
  case round =>
    obtain ⟨j, rfl, h1, h2, hb, hx⟩ := hrel
    have hx := hx.out
    subst hx
    have ab := a7.trans (hb.mono a7.size)
    by_cases hlt : j < N
    · have hj : j < ps.length := by rw [← HN.out]; exact hlt
      obtain ⟨bA, off, rfl, hbA, hcell⟩ := (HV.out.below hb) (by rw [svs_length]; omega)
      have q := hcell j (by rw [svs_length]; exact hj)
      rw [svs_at hj, ← pth_lt hj] at q
      clear hcell
      obtain ⟨e1, e2, e3⟩ := HP.out.eights hj
      rw [HE.out, HL.out] at e3
      have hcl := (HP.out.pth_cln j).1
      have CD := Lib.hid fun (W : World) => (by
        have := rdecode_any (txt (pth ps j)) W (by rw [txt_size]; have := encAll_len (pth ps j); omega)
        rwa [dec_txt hcl] at this : Calls Tryz.prog 11 #[.string (txt (pth ps j))] W fun e w' => ∃ A c, e = .returned (.slice A (pth ps j).length c) ∧ Below W.heap.size W w' ∧ IntsAt .i32 w' A (pth ps j) ∧ Caps A (pth ps j).length c)
      have HT := Lib.hid (show txt (ps.take j).flatten ++ txt (pth ps j) = txt (ps.take (j + 1)).flatten from by rw [txt_add, take_pth hj])
      have hta : (txt (ps.take j).flatten).size ≤ 80000 := by
        rw [txt_size]
        have g1 := encAll_len (ps.take j).flatten
        have g2 := len_take_le ps (show j ≤ ps.length by omega)
        rw [List.take_of_length_le (Nat.le_refl _)] at g2
        have g3 := HP.out.most
        omega
      have htb : (txt (pth ps j)).size ≤ 80000 := by
        rw [txt_size]
        have g1 := encAll_len (pth ps j)
        omega
      generalize txt (ps.take j).flatten = ta at *
      generalize txt (pth ps j) = tb at *
      generalize (pth ps j).length = k at *
      have d1 : ¬ (k < 1) := by omega
      have d2 : ¬ (16 < k) := by omega
      have i1 : (0 : Int) ≤ j := by omega
      have i2 : (j : Int) < N := by omega
      clear hcl
      by_cases hk8 : k < 8
      · have d3 : ¬ (8 ≤ n) := fun h => by have := e3 h; omega
        clear e3
        go_wp2_with fail
        refine (CD.out _).mono ?_
        rintro e w8 ⟨A8, c8, rfl, hb8, _, _⟩
        go_wp2
        go_roundg (gk - 1)
        case measure => omega
        case rel => exact ⟨j + 1, by go_num, by omega, by omega, hb.trans (hb8.mono hb.size), Lib.hid (by rw [HT.out])⟩
      · clear e3
        go_wp2_with fail
        refine (CD.out _).mono ?_
        rintro e w8 ⟨A8, c8, rfl, hb8, _, _⟩
        go_wp2
        go_roundg (gk - 1)
        case measure => omega
        case rel => exact ⟨j + 1, by go_num, by omega, by omega, hb.trans (hb8.mono hb.size), Lib.hid (by rw [HT.out])⟩
    · have hj : j = N := by omega
      have hta : txt (ps.take j).flatten = tl := by rw [hj, HN.out, List.take_of_length_le (Nat.le_refl _), HE.out, HTL.out]
      rw [hta]
      clear hta
      go_wp2_with fail
      refine (CH.out _ ab).mono ?_
      rintro e w8 ⟨rfl, hb8⟩
      have a8 := ab.trans (hb8.mono ab.size)
      go_wp2_with fail
      refine (CHi.out _).mono ?_
      rintro e w9 ⟨rfl, hw9⟩
      have hw9 := hw9.symm
      subst hw9
      go_wp2_with fail
      go_ret
      exact ⟨rfl, a8⟩
set_option maxHeartbeats 4000000 in
set_option maxRecDepth 100000 in
theorem ropeNew_walk (s : ByteArray) (w : World) (_hs : s.size ≤ maxLen) : Calls Tryz.prog 3 #[.string s] w fun e w' => e = .returned (.bool true) ∧ Below w.heap.size w w' := by
  have CW := Lib.hid fun W => wide_any W
  by_cases hl : 2000 < s.size
  · go_enter Tryz.func3, Tryz.ntmps3
    go_wp2_with fail
    refine (CW.out _).mono ?_
    rintro e w1 ⟨rfl, hb1⟩
    go_wp2_with fail
    go_ret
    exact ⟨rfl, hb1⟩
  have hsl : s.size ≤ 2000 := by omega
  have hdl := dec_len s
  have CN := Lib.hid (rnew_any s w (by omega) (by omega))
  have CD := Lib.hid fun W => rdecode_any s W (by omega)
  clear hl
  go_enter Tryz.func3, Tryz.ntmps3
  go_wp2_with fail
  refine CN.out.mono ?_
  rintro e w1 ⟨b, ps, h, rfl, hR, hf, hb1⟩
  have HR := Lib.hid hR
  have HFl := Lib.hid hf
  clear hR hf
  go_wp2_with fail
  refine (CD.out _).mono ?_
  rintro e w2 ⟨A, c, rfl, hb2, hI, hC⟩
  have CI := Lib.hid (is_any b ps h A (dec s).length c (dec s) w2 (HR.out.below hb2) hI rfl hC HFl.out)
  clear hI hC
  have a2 := hb1.trans (hb2.mono hb1.size)
  go_wp2_with fail
  refine CI.out.mono ?_
  rintro e w3 ⟨rfl, hb3⟩
  have a3 := a2.trans (hb3.mono a2.size)
  go_wp2_with fail
  refine (CW.out _).mono ?_
  rintro e w4 ⟨rfl, hb4⟩
  go_wp2_with fail
  go_ret
  exact ⟨rfl, a3.trans (hb4.mono a3.size)⟩
end Go.Proofs.YtaemndioleofjaaGreat
