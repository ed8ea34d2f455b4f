/- The law BatchOnes. -/
import Derived.Test.YtglalmhpgdgeeaaBatX
import Derived.Test.YtglalmhpgdgeeaaBatP
namespace Go.Proofs.Ytglalmhpgdgeeaa
open Go.RowKit
theorem echk_vals {n : Int} : ∀ {p : Int} {l : List E3}, echk n p l = 0 ∨ echk n p l = 1 ∨ echk n p l = 90
  | _, [] => .inl rfl
  | p, x :: l => by
    unfold echk
    split
    · exact .inr (.inl rfl)
    · split
      · exact .inr (.inr rfl)
      · exact echk_vals
theorem bflt_vals {n : Int} {l : List E3} (h : bflt n l ≠ 0) : bflt n l = 1 ∨ bflt n l = 2 ∨ bflt n l = 5 ∨ bflt n l = 90 := by
  unfold bflt at h ⊢
  split
  · rename_i h0
    rw [if_pos h0] at h
    split
    · exact .inr (.inr (.inl rfl))
    · rename_i h1
      rw [if_neg h1] at h
      exact absurd rfl h
  · rename_i h0
    rw [if_neg h0] at h
    unfold bchk at h ⊢
    split
    · exact .inr (.inl rfl)
    · rename_i h1
      rw [if_neg h1] at h
      rcases echk_vals (n := n) (p := 0) (l := l) with h2 | h2 | h2
      · exact absurd h2 h
      · exact .inl h2
      · exact .inr (.inr (.inr h2))
/-- One edit of a batch, behind the later ones. -/
theorem one_step {r : List Int} {l : List E3} (hE : ERis r.length 0 l) (ht : tsum l ≤ 3000) (hr : r.length ≤ 1000) {j : Nat} (hj : j < l.length) :
    bflt (eput r (l.drop (j + 1))).length [eth l j] = 0 ∧ eput (eput r (l.drop (j + 1))) [eth l j] = eput r (l.drop j) := by
  obtain ⟨a, b, k1, k2, k3, k4, k5⟩ := ris_at hE hj
  obtain ⟨q, hq⟩ := ris_drop j hE
  rw [eth_drop hj] at hq
  obtain ⟨a', b', e1, e2, e3, e4, e5, e6⟩ := hq
  obtain rfl : b = b' := by omega
  have hlen := eput_len (r := r) (p := b) (by omega) e6
  have hmid := congrArg List.length (eput_mid (r := r) (p := b) (by omega) e6)
  simp only [List.length_append, List.length_take, List.length_drop] at hmid
  have h7 := egrow_tsum dec_len e6
  have h8 := tsum_drop l (j + 1)
  have h9 := tsum_mem (eth_mem hj)
  have h10 := dec_len (eth l j).x
  refine ⟨?_, ?_⟩
  · have hb : bchk (eput r (l.drop (j + 1))).length [eth l j] = 0 := by
      unfold bchk
      rw [if_neg (by simp)]
      unfold echk echk
      rw [if_neg (fun h => h ⟨by omega, by omega, by omega⟩), if_neg (by omega)]
    have hg : egrow [eth l j] = ((dec (eth l j).x).length : Int) - ((b : Int) - (a : Int)) := by simp [egrow, egro, k1, k2]
    unfold bflt
    rw [if_pos hb, if_neg (by rw [hg]; omega)]
  · rw [eth_drop hj]; rfl
set_option maxHeartbeats 8000000 in
set_option maxRecDepth 100000 in
theorem batchOnes_walk (s : ByteArray) (A : Option Addr) (m c : Nat) (l : List E3) (w : World) (_hs : s.size ≤ maxLen) (hA : EdsAt w A l) (hl : l.length = m) (_hn : m ≤ maxLen) (_hc : Caps A m c) :
    Calls Try.prog 5 #[.string s, .slice A m c] w fun e w' => e = .returned (.bool true) ∧ Below w.heap.size w w' := by
  have CW := Lib.hid fun W => axyczd_any W
  by_cases hlong : LongP s.size l
  · have CL := Lib.hid (blong_any s A m c l w hA hl true ⟨fun _ => hlong, fun _ => rfl⟩)
    go_enter Try.func5, Try.ntmps5
    go_wp2_with fail
    refine CL.out.mono ?_
    rintro e w1 ⟨rfl, hb1⟩
    go_wp2_with fail
    refine (CW.out _).mono ?_
    rintro e w2 ⟨rfl, hb2⟩
    go_wp2_with fail
    go_ret
    exact ⟨rfl, hb1.trans (hb2.mono hb1.size)⟩
  have CL := Lib.hid (blong_any s A m c l w hA hl false ⟨fun h => absurd h (by decide), fun h => absurd h hlong⟩)
  obtain ⟨hs1, hl1, ht1, hx1⟩ := not_long hlong
  have hdl := dec_len s
  have CN := Lib.hid fun W => rnew_any s W (by omega) (by omega)
  obtain ⟨D, hD⟩ : ∃ D, D = dec s := ⟨_, rfl⟩
  rw [← hD] at CN hdl
  clear hlong hD
  have hDl : D.length ≤ 1000 := by omega
  have HA := Lib.hid hA
  have HL := Lib.hid hl
  have HX := Lib.hid hx1
  clear hA
  go_enter Try.func5, Try.ntmps5
  go_wp2_with fail
  refine CL.out.mono ?_
  rintro e w1 ⟨rfl, hb1⟩
  go_wp2_with fail
  refine (CN.out _).mono ?_
  rintro e w2 ⟨b, ps, h, rfl, hR, hf, hb2⟩
  have a2 := hb1.trans (hb2.mono hb1.size)
  have HR := Lib.hid hR
  have HF := Lib.hid hf
  clear hR hf CN CL
  by_cases hF : bflt D.length l = 0
  · have C1 := Lib.hid (by
      have := bapply_yes HR.out A m c l (HA.out.below a2) hl (fun e he => by have := HX.out e he; omega) (by rw [HF.out]; exact hF)
      rwa [HF.out] at this : Calls Try.prog 16 #[.pointer (some ⟨b, 0, none⟩), .slice A m c] w2 fun e w' => ∃ (b' : Nat) (ps' : List (List Int)) (h' : Nat), e = .returned (.tuple #[.pointer (some ⟨b', 0, none⟩), .int .i64 0]) ∧ RP w' (some ⟨b', 0, none⟩) ps' h' ∧ ps'.flatten = eput D l ∧ Below w2.heap.size w2 w')
    obtain ⟨hE, hm64, hfit⟩ := bflt_zero hF
    have HOne := Lib.hid fun (j : Nat) (hj : j < l.length) => one_step hE ht1 hDl hj
    clear hfit hF hE
    go_wp2_with fail
    refine C1.out.mono ?_
    rintro e w3 ⟨b3, ps3, h3, rfl, hR3, hf3, hb3⟩
    have HR3 := Lib.hid hR3
    have HF3 := Lib.hid hf3
    have a3 := a2.trans (hb3.mono a2.size)
    clear hR3 hf3 C1
    have hwm : IntKind.i64.wrap ((m : Int) - 1) = (m : Int) - 1 := IntWalk.i64_in _ (by omega)
    go_wp2_with fail
    go_loopg [9, 10] (m + 1) (fun g u i wr => ∃ (k b4 : Nat) (ps4 : List (List Int)) (h4 : Nat), i = .int .i64 ((k : Int) - 1) ∧ k ≤ m ∧ k < g ∧ Below w3.heap.size w3 wr ∧ u = .pointer (some ⟨b4, 0, none⟩) ∧ Hid (RP wr (some ⟨b4, 0, none⟩) ps4 h4) ∧ Hid (ps4.flatten = eput D (l.drop k)))
    case atStart =>
      have hd : l.drop m = [] := List.drop_of_length_le (by rw [HL.out]; exact Nat.le_refl _)
      exact ⟨m, b, ps, h, by go_num, Nat.le_refl _, by omega, Below.refl _ _, rfl, Lib.hid (HR.out.below hb3), Lib.hid (by rw [hd, HF.out]; rfl)⟩
    case round =>
      obtain ⟨k, b4, ps4, h4, rfl, k1, k2, hb, rfl, hR4, hF4⟩ := hrel
      have awr := a3.trans (hb.mono a3.size)
      rcases Nat.eq_zero_or_pos k with rfl | hk
      · have CT1 := Lib.hid fun (W : World) (hW : Below wr.heap.size wr W) => (by have := rtext_any (hR4.out.below hW); rwa [hF4.out, List.drop_zero] at this : Calls Try.prog 17 #[.pointer (some ⟨b4, 0, none⟩)] W fun e w' => e = .returned (.string (txt (eput D l))) ∧ Below W.heap.size W w')
        have CT2 := Lib.hid fun (W : World) (hW : Below w3.heap.size w3 W) => (by have := rtext_any (HR3.out.below hW); rwa [HF3.out] at this : Calls Try.prog 17 #[.pointer (some ⟨b3, 0, none⟩)] W fun e w' => e = .returned (.string (txt (eput D l))) ∧ Below W.heap.size W w')
        generalize txt (eput D l) = t1 at *
        go_wp2_with fail
        refine (CT1.out _ (Below.refl _ _)).mono ?_
        rintro e w5 ⟨rfl, hb5⟩
        go_wp2_with fail
        refine (CT2.out _ (hb.trans (hb5.mono hb.size))).mono ?_
        rintro e w6 ⟨rfl, hb6⟩
        have r6 := hb5.trans (hb6.mono hb5.size)
        go_wp2_with fail
        refine (CW.out _).mono ?_
        rintro e w7 ⟨rfl, hb7⟩
        have r7 := r6.trans (hb7.mono r6.size)
        go_wp2_with fail
        go_ret
        exact ⟨rfl, awr.trans (r7.mono awr.size)⟩
      · obtain ⟨j, rfl⟩ : ∃ j, k = j + 1 := ⟨k - 1, by omega⟩
        have hjl : j < l.length := by rw [HL.out]; omega
        obtain ⟨o1, o2⟩ := HOne.out j hjl
        obtain ⟨bA, off, rfl, hbA, d0, d1, d2⟩ := (HA.out.below awr).drop1 hjl
        have hxs := HX.out _ (eth_mem hjl)
        generalize eth l j = x at *
        have i0 : (0 : Int) ≤ (j : Int) := by omega
        have i1 : (j : Int) < (m : Int) := by rw [HL.out] at hjl; omega
        have e1 : ((j + 1 : Nat) : Int) - 1 = (j : Int) := by omega
        have hw1 : IntKind.i64.wrap ((j : Int) - 1) = (j : Int) - 1 := IntWalk.i64_in _ (by omega)
        have x6 : Below wr.heap.size wr (wr.alloc (.cells #[.int .i64 x.f, .int .i64 x.t, .string x.x] 43)) := (Below.refl _ _).alloc (Nat.le_refl _) _
        have R6 : RawAt 43 (wr.alloc (.cells #[.int .i64 x.f, .int .i64 x.t, .string x.x] 43)) wr.heap.size #[.int .i64 x.f, .int .i64 x.t, .string x.x] := heap_alloc_new wr _
        have CA := Lib.hid (by
          have := bapply_yes (hR4.out.below x6) (some ⟨wr.heap.size, 0, none⟩) 1 1 [x] (eds_of_block (l := [x]) R6 rfl) rfl (fun e he => by obtain rfl := List.mem_singleton.1 he; omega) (by rw [hF4.out]; exact o1)
          rwa [hF4.out, o2] at this : Calls Try.prog 16 #[.pointer (some ⟨b4, 0, none⟩), .slice (some ⟨wr.heap.size, 0, none⟩) 1 1] (wr.alloc (.cells #[.int .i64 x.f, .int .i64 x.t, .string x.x] 43)) fun e w' => ∃ (b' : Nat) (ps' : List (List Int)) (h' : Nat), e = .returned (.tuple #[.pointer (some ⟨b', 0, none⟩), .int .i64 0]) ∧ RP w' (some ⟨b', 0, none⟩) ps' h' ∧ ps'.flatten = eput D (l.drop j) ∧ Below (wr.alloc (.cells #[.int .i64 x.f, .int .i64 x.t, .string x.x] 43)).heap.size (wr.alloc (.cells #[.int .i64 x.f, .int .i64 x.t, .string x.x] 43)) w')
        rw [e1]
        clear R6 o1 o2 e1 hxs
        go_wp2_with fail
        refine CA.out.mono ?_
        rintro e w7 ⟨b7, ps7, h7, rfl, hR7, hf7, hb7⟩
        have HR7 := Lib.hid hR7
        have HF7 := Lib.hid hf7
        have q7 : Below w3.heap.size w3 w7 := hb.trans ((x6.trans (hb7.mono x6.size)).mono hb.size)
        clear hR7 hf7 hb7 CA x6
        go_wp2
        go_roundg (gk - 1)
        case measure => omega
        case rel => exact ⟨j, b7, ps7, h7, by go_num, by omega, by omega, q7, rfl, HR7, HF7⟩
  · have C1 := Lib.hid (by
      have := bapply_no HR.out A m c l (HA.out.below a2) hl (fun e he => by have := HX.out e he; omega) (by rw [HF.out]; exact hF)
      rwa [HF.out] at this : Calls Try.prog 16 #[.pointer (some ⟨b, 0, none⟩), .slice A m c] w2 fun e w' => e = .returned (.tuple #[.pointer none, .int .i64 (bflt D.length l)]) ∧ Below w2.heap.size w2 w')
    have hv := bflt_vals hF
    generalize bflt D.length l = F at *
    clear hF
    rcases hv with rfl | rfl | rfl | rfl
    all_goals
      go_wp2_with fail
      refine C1.out.mono ?_
      rintro e w4 ⟨rfl, hb4⟩
      have a4 := a2.trans (hb4.mono a2.size)
      go_wp2_with fail
      refine (CW.out _).mono ?_
      rintro e w9 ⟨rfl, hb9⟩
      go_wp2_with fail
      go_ret
      exact ⟨rfl, a4.trans (hb9.mono a4.size)⟩
end Go.Proofs.Ytglalmhpgdgeeaa
