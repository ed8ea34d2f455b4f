/- The law BatchNil. -/
import Derived.Test.YtglalmhpgdgeeaaGreatBWApp
namespace Go.Proofs.YtglalmhpgdgeeaaGreat
open Go.RowKit
set_option maxHeartbeats 8000000 in
set_option maxRecDepth 100000 in
theorem batchNil_walk (A : Option Addr) (m c : Nat) (l : List E3) (w : World) (hA : EdsAt w A l) (hl : l.length = m) (_hn : m ≤ maxLen) (_hc : Caps A m c) :
    Calls Tryz.prog 8 #[.slice A m c] w fun e w' => e = .returned (.bool true) ∧ Below w.heap.size w w' := by
  have CW := Lib.hid fun W => axyczd_any W
  by_cases hlong : LongP (⟨#[]⟩ : ByteArray).size l
  · have CL := Lib.hid (blong_any ⟨#[]⟩ A m c l w hA hl true ⟨fun _ => hlong, fun _ => rfl⟩)
    go_enter Tryz.func8, Tryz.ntmps8
    go_wp2_with fail
    refine CL.out.mono ?_
    rintro e w1 ⟨rfl, hb1⟩
    go_wp2_with fail
    refine (CW.out _).mono ?_
    rintro e w2 ⟨rfl, hb2⟩
    go_wp2_with fail
    go_ret
    exact ⟨rfl, hb1.trans (hb2.mono hb1.size)⟩
  have CL := Lib.hid (blong_any ⟨#[]⟩ A m c l w hA hl false ⟨fun h => absurd h (by decide), fun h => absurd h hlong⟩)
  obtain ⟨_, hl1, ht1, hx1⟩ := not_long hlong
  clear hlong
  have HA := Lib.hid hA
  have HX := Lib.hid hx1
  clear hA
  go_enter Tryz.func8, Tryz.ntmps8
  go_wp2_with fail
  refine CL.out.mono ?_
  rintro e w1 ⟨rfl, hb1⟩
  by_cases hF : bflt (0 : Nat) l = 0
  · have C1 := Lib.hid (bapply_yes (RP.none_ w1) A m c l (HA.out.below hb1) hl (fun e he => by have := HX.out e he; omega) hF)
    obtain ⟨hE, hm64, hfit⟩ := bflt_zero hF
    have hpl : ((eput [] l).length : Int) = (0 : Nat) + egrow l := eput_len (r := []) (Nat.zero_le _) hE
    have hbk : bchk (0 : Nat) l = 0 := by
      unfold bchk; rw [if_neg (by omega)]; exact echk_ris.2 hE
    go_wp2_with fail
    refine C1.out.mono ?_
    rintro e w4 ⟨b4, ps4, h4, rfl, hR4, hf4, hb4⟩
    have HR4 := Lib.hid hR4
    have HF4 := Lib.hid (show ps4.flatten = eput [] l from hf4)
    have a4 := hb1.trans (hb4.mono hb1.size)
    clear hR4 hf4 C1
    have C3 := Lib.hid ((rfApply_yes none A 0 0 m c [] l w4 (fun h => absurd h (Nat.lt_irrefl _)) rfl ⟨Nat.le_refl _, fun _ => rfl⟩ (by omega) (HA.out.below a4) hl hbk (by omega)).mono fun e w' ⟨A', n', c', o, he, ho, hx, hb⟩ => (by
      have ho2 : o = 0 := ho.trans hF
      subst ho2
      obtain ⟨x1, x2, x3⟩ := hx rfl
      subst x1
      exact ⟨A', c', he, x2, x3, hb⟩ : ∃ (A' : Option Addr) (c' : Nat), e = Ending.returned (.tuple #[.slice A' (eput [] l).length c', .int .i64 0]) ∧ IntsAt .i32 w' A' (eput [] l) ∧ Caps A' (eput [] l).length c' ∧ Below w4.heap.size w4 w'))
    go_wp2_with fail
    refine C3.out.mono ?_
    rintro e w6 ⟨A6, c6, rfl, hI6, hC6, hb6⟩
    have HI6 := Lib.hid hI6
    have a6 := a4.trans (hb6.mono a4.size)
    clear hI6 hC6 C3
    have CE2 := Lib.hid fun (W : World) (hW : Below w6.heap.size w6 W) => (by
      have := rencode_any A6 (eput [] l).length c6 (eput [] l) W (HI6.out.below hW) rfl (by omega)
      exact this : Calls Tryz.prog 17 #[.slice A6 (eput [] l).length c6] W fun e w' => e = .returned (.string (txt (eput [] l))) ∧ Below W.heap.size W w')
    have CT2 := Lib.hid fun (W : World) (hW : Below w4.heap.size w4 W) => (by have := rtext_any (HR4.out.below hW); rwa [HF4.out] at this : Calls Tryz.prog 29 #[.pointer (some ⟨b4, 0, none⟩)] W fun e w' => e = .returned (.string (txt (eput [] l))) ∧ Below W.heap.size W w')
    clear hpl hfit hF hbk hm64 hE
    generalize txt (eput [] l) = t2 at *
    go_wp2_with fail
    refine (CT2.out _ hb6).mono ?_
    rintro e w7 ⟨rfl, hb7⟩
    have r7 : Below w6.heap.size w6 w7 := hb7
    go_wp2_with fail
    refine (CE2.out _ r7).mono ?_
    rintro e w8 ⟨rfl, hb8⟩
    have r8 := r7.trans (hb8.mono r7.size)
    go_wp2_with fail
    refine (CW.out _).mono ?_
    rintro e w9 ⟨rfl, hb9⟩
    have r9 := r8.trans (hb9.mono r8.size)
    go_wp2_with fail
    go_ret
    exact ⟨rfl, a6.trans (r9.mono a6.size)⟩
  · have C1 := Lib.hid (bapply_no (RP.none_ w1) A m c l (HA.out.below hb1) hl (fun e he => by have := HX.out e he; omega) hF)
    rw [show (([] : List (List Int)).flatten.length) = 0 from rfl] at C1
    go_wp2_with fail
    refine C1.out.mono ?_
    rintro e w4 ⟨rfl, hb4⟩
    have a4 := hb1.trans (hb4.mono hb1.size)
    have C3 := Lib.hid (rfApply_bad none A 0 0 m c [] l w4 (fun h => absurd h (Nat.lt_irrefl _)) rfl ⟨Nat.le_refl _, fun _ => rfl⟩ (by omega) (HA.out.below a4) hl (by omega))
    clear C1
    go_wp2_with fail
    refine C3.out.mono ?_
    rintro e w6 ⟨A6, n6, c6, rfl, hb6⟩
    have a6 := a4.trans (hb6.mono a4.size)
    clear C3
    have hv := bflt_vals hF
    generalize bflt (0 : Nat) l = F at *
    clear hF
    rcases hv with rfl | rfl | rfl | rfl
    all_goals
      go_wp2_with fail
      refine (CW.out _).mono ?_
      rintro e w9 ⟨rfl, hb9⟩
      go_wp2_with fail
      go_ret
      exact ⟨rfl, a6.trans (hb9.mono a6.size)⟩
end Go.Proofs.YtglalmhpgdgeeaaGreat
