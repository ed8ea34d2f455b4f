/- Ropes: a rune: the contract of At. -/
import Derived.Test.YtglalmhpgdgeeaaGreatDoorRAt
import Derived.Test.YtglalmhpgdgeeaaGreatDoorLawSteps
import Derived.Test.YtglalmhpgdgeeaaGreatDoorAcute
namespace Go.Proofs.YtglalmhpgdgeeaaGreatDoor
open Go.RowKit
theorem one_rune {l : List Int} {j : Nat} (hj : j < l.length) : (l.take (j + 1)).drop j = [nth l j] := by
  rw [List.take_succ_eq_append_getElem hj, List.drop_append_of_le_length (by rw [List.length_take]; omega), List.drop_eq_nil_of_le (by rw [List.length_take]; omega)]
  simp [nth, List.getD, hj]
theorem dec_one {r : Int} (h : Cln [r]) : ((Utf8.decode (txt [r]) 0).1 : Int) = r ∧ 0 < (txt [r]).size ∧ (txt [r]).size ≤ 4 := by
  obtain ⟨h1, h2, h3, h4⟩ := iter_at (q := [r]) h (i := 0) (by simp)
  have e : (encAll ([r].take 0)).length = 0 := rfl
  rw [e] at h1 h2
  rw [h1]
  refine ⟨h4, by omega, ?_⟩
  rw [txt_size]
  have := encAll_len [r]
  simpa using this
section
variable {p : Option Addr} {ps : List (List Int)} {h : Nat} {w : World}
set_option maxHeartbeats 4000000 in
set_option maxRecDepth 100000 in
theorem rat_yes (hr : RP w p ps h) (j : Nat) (hj : j < ps.flatten.length) (hu : UTabs w) :
    Calls Tryz.prog 8 #[.pointer p, .int .i64 j] w fun e w' => e = .returned (.tuple #[.int .i32 (nth ps.flatten j), .int .i64 0]) ∧ Below w.heap.size w w' := by
  have hmost := hr.1.most
  have C1 := Lib.hid (place_any hr j true ⟨fun _ => ⟨by omega, by omega⟩, fun _ => rfl⟩)
  have C2 := Lib.hid fun (W : World) (hW : Below w.heap.size w W) => rrunes_any (hr.below hW)
  have C3 := Lib.hid fun (W : World) (hW : Below w.heap.size w W) => (by
    have := rslice_any (hr.below hW) j (j + 1) (by omega) (by omega)
    rwa [one_rune hj, show ((j + 1 : Nat) : Int) = (j : Int) + 1 from by omega] at this : Calls Tryz.prog 7 #[.pointer p, .int .i64 j, .int .i64 ((j : Int) + 1)] W fun e w' => e = .returned (.tuple #[.string (txt [nth ps.flatten j]), .int .i64 0]) ∧ Below W.heap.size W w')
  have hc : Cln [nth ps.flatten j] := fun r hr2 => by
    obtain rfl := List.mem_singleton.1 hr2
    have e : nth ps.flatten j = ps.flatten[j] := by unfold nth; rw [List.getD_eq_getElem?_getD, List.getElem?_eq_getElem hj]; rfl
    rw [e]; exact hr.1.cln _ (List.getElem_mem hj)
  obtain ⟨d1, d2, d3⟩ := dec_one hc
  have C4 := Lib.hid fun (W : World) (hW : Below w.heap.size w W) => (by
    have := ustep_in (txt [nth ps.flatten j]) 0 W (by omega) d2 (hu.below hW)
    rw [d1] at this
    exact this.mono fun e w' ⟨he, hb⟩ => ⟨_, he, hb⟩ : Calls Tryz.prog 26 #[.string (txt [nth ps.flatten j]), .int .i64 ((0 : Nat) : Int)] W fun e w' => ∃ k : Int, e = .returned (.tuple #[.int .i32 (nth ps.flatten j), .int .i64 k]) ∧ Below W.heap.size W w')
  have hne : ((j : Int) == (ps.flatten.length : Int)) = false := by rw [beq_eq_false_iff_ne]; omega
  have hne2 : ¬ ((j : Int) = (ps.flatten.length : Int)) := by omega
  have hne3 : ¬ (j = ps.flatten.length) := by omega
  have hjn : (j : Int) ≤ 20000 := by omega
  have hw : IntKind.i64.wrap ((j : Int) + 1) = (j : Int) + 1 := IntWalk.i64_in _ (by omega)
  clear hr hu hc d1 d2 d3 hj hmost
  generalize nth ps.flatten j = r at *
  generalize txt [r] = tr at *
  generalize ps.flatten.length = n at *
  go_enter Tryz.func8, Tryz.ntmps8
  go_wp2_with fail
  refine C1.out.mono ?_
  rintro e w1 ⟨rfl, hb1⟩
  go_wp2_with fail
  refine (C2.out _ hb1).mono ?_
  rintro e w2 ⟨rfl, hb2⟩
  have a2 := hb1.trans (hb2.mono hb1.size)
  go_wp2_with fail
  refine (C3.out _ a2).mono ?_
  rintro e w3 ⟨rfl, hb3⟩
  have a3 := a2.trans (hb3.mono a2.size)
  go_wp2_with fail
  refine (C4.out _ a3).mono ?_
  rintro e w4 ⟨k, rfl, hb4⟩
  have a4 := a3.trans (hb4.mono a3.size)
  go_wp2
  refine bodyPost_ret (v := .tuple #[.int .i32 r, .int .i64 0]) (by simp [results, Tryz.results8, go_sem]) rfl ⟨rfl, a4⟩
end
end Go.Proofs.YtglalmhpgdgeeaaGreatDoor
