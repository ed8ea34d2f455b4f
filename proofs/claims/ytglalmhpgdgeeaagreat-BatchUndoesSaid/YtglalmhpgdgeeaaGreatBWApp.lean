/- The law BatchApplies. -/
import Derived.Test.YtglalmhpgdgeeaaGreatBatX
import Derived.Test.YtglalmhpgdgeeaaGreatBatP
import Derived.Test.YtglalmhpgdgeeaaGreatRef9I
import Derived.Test.YtglalmhpgdgeeaaGreatRDec
namespace Go.Proofs.YtglalmhpgdgeeaaGreat
open Go.RowKit
/-- The document's Apply, where there is no answer. -/
theorem rfApply_bad (A B : Option Addr) (n c m d : Nat) (r : List Int) (l : List E3) (w : World) (hA : IntsAt .i32 w A r) (hr : r.length = n) (hc : Caps A n c) (hn : n ≤ 20000) (hB : EdsAt w B l) (hl : l.length = m) (hs : tsum l ≤ 100000) :
    Calls Tryz.prog 28 #[.slice A n c, .slice B m d] w fun e w' => ∃ (A' : Option Addr) (n' c' : Nat), e = .returned (.tuple #[.slice A' n' c', .int .i64 (bflt n l)]) ∧ Below w.heap.size w w' := by
  by_cases h0 : bchk n l = 0
  · refine (rfApply_yes A B n c m d r l w hA hr hc hn hB hl h0 hs).mono fun e w' ⟨A', n', c', o, he, ho, _, hb⟩ => ?_
    subst ho
    exact ⟨A', n', c', he, hb⟩
  · have e0 : bflt n l = bchk n l := by unfold bflt; rw [if_neg h0]
    rw [e0]
    exact (rfApply_no A B n c m d l w hB hl h0).mono fun e w' ⟨he, hb⟩ => ⟨none, 0, 0, he, hb⟩
theorem echk_vals {n : Int} : ∀ {p : Int} {l : List E3}, echk n p l = 0 ∨ echk n p l = 1 ∨ echk n p l = 90
  | _, [] => .inl rfl
  | p, x :: l => by
    unfold echk
    split
    · exact .inr (.inl rfl)
    · split
      · exact .inr (.inr rfl)
      · exact echk_vals
theorem bflt_vals {n : Int} {l : List E3} (h : bflt n l ≠ 0) : bflt n l = 1 ∨ bflt n l = 2 ∨ bflt n l = 5 ∨ bflt n l = 90 := by
  unfold bflt at h ⊢
  split
  · rename_i h0
    rw [if_pos h0] at h
    split
    · exact .inr (.inr (.inl rfl))
    · rename_i h1
      rw [if_neg h1] at h
      exact absurd rfl h
  · rename_i h0
    rw [if_neg h0] at h
    unfold bchk at h ⊢
    split
    · exact .inr (.inl rfl)
    · rename_i h1
      rw [if_neg h1] at h
      rcases echk_vals (n := n) (p := 0) (l := l) with h2 | h2 | h2
      · exact absurd h2 h
      · exact .inl h2
      · exact .inr (.inr (.inr h2))
set_option maxHeartbeats 8000000 in
set_option maxRecDepth 100000 in
theorem batchApplies_walk (s : ByteArray) (A : Option Addr) (m c : Nat) (l : List E3) (w : World) (_hs : s.size ≤ maxLen) (hA : EdsAt w A l) (hl : l.length = m) (_hn : m ≤ maxLen) (hc : Caps A m c) :
    Calls Tryz.prog 6 #[.string s, .slice A m c] w fun e w' => e = .returned (.bool true) ∧ Below w.heap.size w w' := by
  have CW := Lib.hid fun W => axyczd_any W
  by_cases hlong : LongP s.size l
  · have CL := Lib.hid (blong_any s A m c l w hA hl true ⟨fun _ => hlong, fun _ => rfl⟩)
    go_enter Tryz.func6, Tryz.ntmps6
    go_wp2_with fail
    refine CL.out.mono ?_
    rintro e w1 ⟨rfl, hb1⟩
    go_wp2_with fail
    refine (CW.out _).mono ?_
    rintro e w2 ⟨rfl, hb2⟩
    go_wp2_with fail
    go_ret
    exact ⟨rfl, hb1.trans (hb2.mono hb1.size)⟩
  have CL := Lib.hid (blong_any s A m c l w hA hl false ⟨fun h => absurd h (by decide), fun h => absurd h hlong⟩)
  obtain ⟨hs1, hl1, ht1, hx1⟩ := not_long hlong
  have hdl := dec_len s
  have CN := Lib.hid fun W => rnew_any s W (by omega) (by omega)
  have CD := Lib.hid fun W => rdecode_any s W (by omega)
  have hcl := cln_dec s
  obtain ⟨D, hD⟩ : ∃ D, D = dec s := ⟨_, rfl⟩
  rw [← hD] at CD CN hdl hcl
  clear hlong hD
  have hDl : D.length ≤ 1000 := by omega
  have HA := Lib.hid hA
  have HL := Lib.hid hl
  have HX := Lib.hid hx1
  clear hA
  go_enter Tryz.func6, Tryz.ntmps6
  go_wp2_with fail
  refine CL.out.mono ?_
  rintro e w1 ⟨rfl, hb1⟩
  go_wp2_with fail
  refine (CN.out _).mono ?_
  rintro e w2 ⟨b, ps, h, rfl, hR, hf, hb2⟩
  have a2 := hb1.trans (hb2.mono hb1.size)
  have HR := Lib.hid hR
  have HF := Lib.hid hf
  clear hR hf
  go_wp2_with fail
  refine (CD.out _).mono ?_
  rintro e w3 ⟨B, d, rfl, hb3, hI, hC⟩
  have a3 := a2.trans (hb3.mono a2.size)
  have HI := Lib.hid hI
  have HC := Lib.hid hC
  clear hI hC CN CD CL
  have hEnc := fun (W : World) (hW : Below w3.heap.size w3 W) => (by
    have := rencode_any B D.length d D W (HI.out.below hW) rfl (by omega)
    exact this : Calls Tryz.prog 17 #[.slice B D.length d] W fun e w' => e = .returned (.string (txt D)) ∧ Below W.heap.size W w')
  have CE := Lib.hid hEnc
  have CT := Lib.hid fun (W : World) (hW : Below w2.heap.size w2 W) => (by have := rtext_any (HR.out.below hW); rwa [HF.out] at this : Calls Tryz.prog 29 #[.pointer (some ⟨b, 0, none⟩)] W fun e w' => e = .returned (.string (txt D)) ∧ Below W.heap.size W w')
  clear hEnc
  by_cases hF : bflt D.length l = 0
  · have C1 := Lib.hid (by
      have := bapply_yes (HR.out.below hb3) A m c l (HA.out.below a3) hl (fun e he => by have := HX.out e he; omega) (by rw [HF.out]; exact hF)
      rwa [HF.out] at this : Calls Tryz.prog 26 #[.pointer (some ⟨b, 0, none⟩), .slice A m c] w3 fun e w' => ∃ (b' : Nat) (ps' : List (List Int)) (h' : Nat), e = .returned (.tuple #[.pointer (some ⟨b', 0, none⟩), .int .i64 0]) ∧ RP w' (some ⟨b', 0, none⟩) ps' h' ∧ ps'.flatten = eput D l ∧ Below w3.heap.size w3 w')
    obtain ⟨hE, hm64, hfit⟩ := bflt_zero hF
    have hE0 := hE
    have hpl : ((eput D l).length : Int) = D.length + egrow l := eput_len (Nat.zero_le _) hE
    have hbk : bchk D.length l = 0 := by
      unfold bchk; rw [if_neg (by omega)]; exact echk_ris.2 hE
    go_wp2_with fail
    refine C1.out.mono ?_
    rintro e w4 ⟨b4, ps4, h4, rfl, hR4, hf4, hb4⟩
    have HR4 := Lib.hid hR4
    have HF4 := Lib.hid hf4
    have q4 := hb3.trans (hb4.mono hb3.size)
    have a4 := a3.trans (hb4.mono a3.size)
    clear hR4 hf4 C1
    have C2 := Lib.hid (by
      have := binv_yes (HR.out.below q4) A m c l (HA.out.below a4) hl (fun e he => by have := HX.out e he; omega) (by rw [HF.out]; exact hF)
      rwa [HF.out] at this : Calls Tryz.prog 27 #[.pointer (some ⟨b, 0, none⟩), .slice A m c] w4 fun e w' => ∃ (A' : Option Addr) (c' : Nat), e = .returned (.tuple #[.slice A' m c', .int .i64 0]) ∧ EdsAt w' A' (einv D 0 l) ∧ Caps A' m c' ∧ Below w4.heap.size w4 w')
    go_wp2_with fail
    refine C2.out.mono ?_
    rintro e w5 ⟨A5, c5, rfl, hI5, _, hb5⟩
    have HI5 := Lib.hid hI5
    have q5 := q4.trans (hb5.mono q4.size)
    have a5 := a4.trans (hb5.mono a4.size)
    have q35 := hb4.trans (hb5.mono hb4.size)
    clear hI5 C2
    have C3 := Lib.hid ((rfApply_yes B A D.length d m c D l w5 (HI.out.below q35) rfl HC.out (by omega) (HA.out.below a5) hl hbk (by omega)).mono fun e w' ⟨A', n', c', o, he, ho, hx, hb⟩ => (by
      have ho2 : o = 0 := ho.trans hF
      subst ho2
      obtain ⟨x1, x2, x3⟩ := hx rfl
      subst x1
      exact ⟨A', c', he, x2, x3, hb⟩ : ∃ (A' : Option Addr) (c' : Nat), e = Ending.returned (.tuple #[.slice A' (eput D l).length c', .int .i64 0]) ∧ IntsAt .i32 w' A' (eput D l) ∧ Caps A' (eput D l).length c' ∧ Below w5.heap.size w5 w'))
    go_wp2_with fail
    refine C3.out.mono ?_
    rintro e w6 ⟨A6, c6, rfl, hI6, hC6, hb6⟩
    have HI6 := Lib.hid hI6
    have q6 := q5.trans (hb6.mono q5.size)
    have q36 := q35.trans (hb6.mono q35.size)
    have q46 := hb5.trans (hb6.mono hb5.size)
    have a6 := a5.trans (hb6.mono a5.size)
    clear hI6 hC6 C3
    have CE2 := Lib.hid fun (W : World) (hW : Below w6.heap.size w6 W) => (by
      have := rencode_any A6 (eput D l).length c6 (eput D l) W (HI6.out.below hW) rfl (by omega)
      exact this : Calls Tryz.prog 17 #[.slice A6 (eput D l).length c6] W fun e w' => e = .returned (.string (txt (eput D l))) ∧ Below W.heap.size W w')
    have CT2 := Lib.hid fun (W : World) (hW : Below w4.heap.size w4 W) => (by have := rtext_any (HR4.out.below hW); rwa [HF4.out] at this : Calls Tryz.prog 29 #[.pointer (some ⟨b4, 0, none⟩)] W fun e w' => e = .returned (.string (txt (eput D l))) ∧ Below W.heap.size W w')
    have CI := Lib.hid fun (W : World) (hW : Below w6.heap.size w6 W) => rfInvert_any B A D.length d m c D l W (HI.out.below (q36.trans (hW.mono q36.size))) rfl HC.out (by omega) (HA.out.below (a6.trans (hW.mono a6.size))) hl hc hE (by omega) (fun e he => by have := HX.out e he; omega)
    have CQ := Lib.hid fun (W : World) (hW : Below w5.heap.size w5 W) (B9 : Option Addr) (c9 : Nat) (hB : EdsAt W B9 (einv D 0 l)) => bedits_any A5 B9 m c5 c9 (einv D 0 l) W (HI5.out.below hW) hB (by rw [einv_len]; exact hl) (by omega)
    have CZ := Lib.hid fun (W : World) (hW : Below w.heap.size w W) => bsize_any D.length 0 A m c l W (HA.out.below hW) hl hE (by omega) (by omega) (fun e he => by have := HX.out e he; omega)
    obtain ⟨N, hN⟩ : ∃ N, N = (eput D l).length := ⟨_, rfl⟩
    rw [← hN] at CE2 hpl ⊢
    have hw : IntKind.i64.wrap ((N : Int) - (D.length : Int)) = egrow l := by rw [hpl, show (D.length : Int) + egrow l - (D.length : Int) = egrow l from by omega]; exact IntWalk.i64_in _ (by omega)
    have HW := Lib.hid hw
    clear hN hpl hw
    generalize egrow l = gr at *
    have hw := HW.out
    generalize txt (eput D l) = t2 at *
    generalize txt D = t1 at *
    generalize D.length = dn at *
    clear HW hfit hF hbk hE0 hm64
    go_wp2_with fail
    refine (CT.out _ (q6)).mono ?_
    rintro e w7 ⟨rfl, hb7⟩
    have r7 : Below w6.heap.size w6 w7 := hb7
    go_wp2_with fail
    refine (CE.out _ (q36.trans (r7.mono q36.size))).mono ?_
    rintro e w8 ⟨rfl, hb8⟩
    have r8 := r7.trans (hb8.mono r7.size)
    go_wp2_with fail
    refine (CT2.out _ (q46.trans (r8.mono q46.size))).mono ?_
    rintro e w9 ⟨rfl, hb9⟩
    have r9 := r8.trans (hb9.mono r8.size)
    go_wp2_with fail
    refine (CE2.out _ r9).mono ?_
    rintro e w10 ⟨rfl, hb10⟩
    have r10 := r9.trans (hb10.mono r9.size)
    go_wp2_with fail
    refine (CI.out _ r10).mono ?_
    rintro e w11 ⟨B11, c11, rfl, hI11, _, hb11⟩
    have HI11 := Lib.hid hI11
    have r11 := r10.trans (hb11.mono r10.size)
    clear hI11
    go_wp2_with fail
    refine (CQ.out _ (hb6.trans (r11.mono hb6.size)) B11 c11 HI11.out).mono ?_
    rintro e w12 ⟨rfl, hb12⟩
    have r12 := r11.trans (hb12.mono r11.size)
    go_wp2_with fail
    refine (CZ.out _ (a6.trans (r12.mono a6.size))).mono ?_
    rintro e w13 ⟨rfl, hb13⟩
    have r13 := r12.trans (hb13.mono r12.size)
    go_wp2_with fail
    refine (CW.out _).mono ?_
    rintro e w14 ⟨rfl, hb14⟩
    have r14 := r13.trans (hb14.mono r13.size)
    go_wp2_with fail
    go_ret
    exact ⟨rfl, a6.trans (r14.mono a6.size)⟩
  · have C1 := Lib.hid (by
      have := bapply_no (HR.out.below hb3) A m c l (HA.out.below a3) hl (fun e he => by have := HX.out e he; omega) (by rw [HF.out]; exact hF)
      rwa [HF.out] at this : Calls Tryz.prog 26 #[.pointer (some ⟨b, 0, none⟩), .slice A m c] w3 fun e w' => e = .returned (.tuple #[.pointer none, .int .i64 (bflt D.length l)]) ∧ Below w3.heap.size w3 w')
    go_wp2_with fail
    refine C1.out.mono ?_
    rintro e w4 ⟨rfl, hb4⟩
    have q4 := hb3.trans (hb4.mono hb3.size)
    have a4 := a3.trans (hb4.mono a3.size)
    have C2 := Lib.hid (by
      have := binv_no (HR.out.below q4) A m c l (HA.out.below a4) hl (fun e he => by have := HX.out e he; omega) (by rw [HF.out]; exact hF)
      rwa [HF.out] at this : Calls Tryz.prog 27 #[.pointer (some ⟨b, 0, none⟩), .slice A m c] w4 fun e w' => e = .returned (.tuple #[.slice none 0 0, .int .i64 (bflt D.length l)]) ∧ Below w4.heap.size w4 w')
    clear C1
    go_wp2_with fail
    refine C2.out.mono ?_
    rintro e w5 ⟨rfl, hb5⟩
    have q5 := q4.trans (hb5.mono q4.size)
    have a5 := a4.trans (hb5.mono a4.size)
    have q35 := hb4.trans (hb5.mono hb4.size)
    have C3 := Lib.hid (rfApply_bad B A D.length d m c D l w5 (HI.out.below q35) rfl HC.out (by omega) (HA.out.below a5) hl (by omega))
    clear C2
    go_wp2_with fail
    refine C3.out.mono ?_
    rintro e w6 ⟨A6, n6, c6, rfl, hb6⟩
    have q6 := q5.trans (hb6.mono q5.size)
    have q36 := q35.trans (hb6.mono q35.size)
    have a6 := a5.trans (hb6.mono a5.size)
    clear C3
    have hv := bflt_vals hF
    generalize bflt D.length l = F at *
    generalize txt D = t1 at *
    generalize D.length = dn at *
    clear hF
    rcases hv with rfl | rfl | rfl | rfl
    all_goals
      go_wp2_with fail
      refine (CT.out _ (q6)).mono ?_
      rintro e w7 ⟨rfl, hb7⟩
      have r7 : Below w6.heap.size w6 w7 := hb7
      go_wp2_with fail
      refine (CE.out _ (q36.trans (r7.mono q36.size))).mono ?_
      rintro e w8 ⟨rfl, hb8⟩
      have r8 := r7.trans (hb8.mono r7.size)
      go_wp2_with fail
      refine (CW.out _).mono ?_
      rintro e w9 ⟨rfl, hb9⟩
      have r9 := r8.trans (hb9.mono r8.size)
      go_wp2_with fail
      go_ret
      exact ⟨rfl, a6.trans (r9.mono a6.size)⟩
end Go.Proofs.YtglalmhpgdgeeaaGreat
