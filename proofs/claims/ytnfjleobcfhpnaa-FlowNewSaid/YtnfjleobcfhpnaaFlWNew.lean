/- Flow: the law FlowNew, walked. -/
import Derived.Test.YtnfjleobcfhpnaaFlK
import Derived.Test.YtnfjleobcfhpnaaFlO
namespace Go.Proofs.Ytnfjleobcfhpnaa
open Go.RowKit
set_option linter.unusedVariables false
set_option maxHeartbeats 16000000 in
set_option maxRecDepth 100000 in
theorem flowNew_walk (A : Option Addr) (n c : Nat) (l : List Ln) (w : World) (hI : RowsAt encL 4 w A l) (hl : l.length = n) (hn : n ≤ maxLen) (_hc : Caps A n c) (_hO : ∀ s ∈ l, LnWf s) :
    Calls Try.prog 7 #[.slice A n c] w fun e w' => e = .returned (.bool true) ∧ Below w.heap.size w w' := by
  have C6 := Lib.hid fun W => flsix W
  have hnm := hn
  unfold maxLen at hn
  by_cases g1 : 300 < n
  · have k1 : decide ((300 : Int) < (n : Int)) = true := decide_eq_true (by omega)
    clear hI
    go_enter Try.func7, Try.ntmps7
    go_wp2_with fail
    with_reducible refine (C6.out _).mono ?_
    rintro e w1 ⟨rfl, bb⟩
    have Q1 := Lib.hid bb
    clear bb
    go_wp2
    go_ret
    exact ⟨rfl, Q1.out⟩
  · have k1 : decide ((300 : Int) < (n : Int)) = false := decide_eq_false (by omega)
    have CN := Lib.hid (flnew A n c l w hI hl (by omega))
    have CR := Lib.hid fun (W : World) (hW : Below w.heap.size w W) => lrefs A n c l W (hI.below hW) hl (by omega)
    have HL := Lib.hid hl
    clear hI
    by_cases ho : Loks l
    · have HO := Lib.hid ho
      clear ho
      go_enter Try.func7, Try.ntmps7
      go_wp2_with fail
      with_reducible refine CN.out.mono ?_
      intro e w1 hr
      obtain ⟨bb, ⟨_, a, h, rfl, hF⟩ | ⟨hno, rfl⟩⟩ := hr
      rotate_left
      · exact absurd HO.out hno
      have Q1 := Lib.hid bb
      have CF := Lib.hid fun (B : Option Addr) (d : Nat) (W : World) (hW : Below w1.heap.size w1 W) (hB : RowsAt encL 4 W B l) => flis (hF.below hW) HO.out B n d hB HL.out
      clear bb hF CN
      go_wp2_with fail
      with_reducible refine (CR.out _ Q1.out).mono ?_
      rintro e w2 ⟨v2, rfl, o2, bb⟩
      have Q2 := Lib.hid (Q1.out.trans (bb.mono Q1.out.size))
      obtain ⟨A2, c2, rfl, hR2, _, _⟩ := rows_of_own encL_len (by omega) o2
      have CX := Lib.hid (lright A2 n c2 l w2 hR2 HL.out hnm true ⟨fun _ => HO.out, fun _ => rfl⟩)
      have B12 := Lib.hid bb
      clear o2 hR2
      clear bb
      go_wp2_with fail
      with_reducible refine (CX.out).mono ?_
      rintro e w3 ⟨rfl, bb⟩
      have Q3 := Lib.hid (Q2.out.trans (bb.mono Q2.out.size))
      have B13 := Lib.hid (B12.out.trans (bb.mono B12.out.size))
      clear bb
      go_wp2_with fail
      with_reducible refine (CR.out _ Q3.out).mono ?_
      rintro e w4 ⟨v4, rfl, o4, bb⟩
      have Q4 := Lib.hid (Q3.out.trans (bb.mono Q3.out.size))
      obtain ⟨A4, c4, rfl, hR4, _, _⟩ := rows_of_own encL_len (by omega) o4
      have B14 := B13.out.trans (bb.mono B13.out.size)
      have CI := Lib.hid (CF.out A4 c4 w4 B14 hR4)
      clear o4 hR4 B14
      clear bb
      go_wp2_with fail
      with_reducible refine (CI.out).mono ?_
      rintro e w5 ⟨rfl, bb⟩
      have Q5 := Lib.hid (Q4.out.trans (bb.mono Q4.out.size))
      clear bb
      go_wp2_with fail
      with_reducible refine (C6.out _).mono ?_
      rintro e w6 ⟨rfl, bb⟩
      have Q6 := Lib.hid (Q5.out.trans (bb.mono Q5.out.size))
      clear bb
      go_wp2
      go_ret
      exact ⟨rfl, Q6.out⟩
    · have HO := Lib.hid ho
      clear ho
      go_enter Try.func7, Try.ntmps7
      go_wp2_with fail
      with_reducible refine CN.out.mono ?_
      intro e w1 hr
      obtain ⟨bb, ⟨hyes, a, h, rfl, hF⟩ | ⟨_, rfl⟩⟩ := hr
      · exact absurd hyes HO.out
      have Q1 := Lib.hid bb
      clear bb CN
      go_wp2_with fail
      with_reducible refine (CR.out _ Q1.out).mono ?_
      rintro e w2 ⟨v2, rfl, o2, bb⟩
      have Q2 := Lib.hid (Q1.out.trans (bb.mono Q1.out.size))
      obtain ⟨A2, c2, rfl, hR2, _, _⟩ := rows_of_own encL_len (by omega) o2
      have CX := Lib.hid (lright A2 n c2 l w2 hR2 HL.out hnm false ⟨fun h => absurd h (by simp), fun h => absurd h HO.out⟩)
      clear o2 hR2
      clear bb
      go_wp2_with fail
      with_reducible refine (CX.out).mono ?_
      rintro e w3 ⟨rfl, bb⟩
      have Q3 := Lib.hid (Q2.out.trans (bb.mono Q2.out.size))
      clear bb
      go_wp2_with fail
      with_reducible refine (C6.out _).mono ?_
      rintro e w6 ⟨rfl, bb⟩
      have Q6 := Lib.hid (Q3.out.trans (bb.mono Q3.out.size))
      clear bb
      go_wp2
      go_ret
      exact ⟨rfl, Q6.out⟩
end Go.Proofs.Ytnfjleobcfhpnaa
