/- Ropes: places that are none: the contracts of Slice's and At's errors. -/
import Derived.Test.YtpnjokhhbjpciaaGreatDoorRSlice
namespace Go.Proofs.YtpnjokhhbjpciaaGreatDoor
open Go.RowKit
section
variable {p : Option Addr} {ps : List (List Int)} {h : Nat} {w : World}
set_option maxHeartbeats 4000000 in
set_option maxRecDepth 100000 in
theorem rslice_no (hr : RP w p ps h) (x y : Int) (hno : ¬ (0 ≤ x ∧ x ≤ y ∧ y ≤ ps.flatten.length)) :
    Calls Tryz.prog 73 #[.pointer p, .int .i64 x, .int .i64 y] w fun e w' => e = .returned (.tuple #[.string ⟨#[]⟩, .int .i64 1]) ∧ Below w.heap.size w w' := by
  have C1 := Lib.hid (rspans_any hr x y false ⟨fun e => absurd e (by decide), fun e => absurd e hno⟩)
  clear hr hno
  go_enter Tryz.func73, Tryz.ntmps73
  go_wp2_with fail
  refine C1.out.mono ?_
  rintro e w1 ⟨rfl, hb1⟩
  go_wp2
  refine bodyPost_ret (v := .tuple #[.string ⟨#[]⟩, .int .i64 1]) (by simp [results, Tryz.results73, go_sem]) rfl ⟨rfl, hb1⟩
set_option maxHeartbeats 4000000 in
set_option maxRecDepth 100000 in
theorem rat_no (hr : RP w p ps h) (at_ : Int) (hno : ¬ (0 ≤ at_ ∧ at_ < ps.flatten.length)) :
    Calls Tryz.prog 52 #[.pointer p, .int .i64 at_] w fun e w' => e = .returned (.tuple #[.int .i32 0, .int .i64 1]) ∧ Below w.heap.size w w' := by
  by_cases hp : 0 ≤ at_ ∧ at_ ≤ ps.flatten.length
  · have he : at_ = ps.flatten.length := by omega
    have C1 := Lib.hid (place_any hr at_ true ⟨fun _ => hp, fun _ => rfl⟩)
    have C2 := Lib.hid fun (W : World) (hW : Below w.heap.size w W) => rrunes_any (hr.below hW)
    rw [← he] at C2
    clear hr hno he hp
    go_enter Tryz.func52, Tryz.ntmps52
    go_wp2_with fail
    refine C1.out.mono ?_
    rintro e w1 ⟨rfl, hb1⟩
    go_wp2_with fail
    refine (C2.out _ hb1).mono ?_
    rintro e w2 ⟨rfl, hb2⟩
    have a2 := hb1.trans (hb2.mono hb1.size)
    go_wp2
    refine bodyPost_ret (v := .tuple #[.int .i32 0, .int .i64 1]) (by simp [results, Tryz.results52, go_sem]) rfl ⟨rfl, a2⟩
  · have C1 := Lib.hid (place_any hr at_ false ⟨fun e => absurd e (by decide), fun e => absurd e hp⟩)
    clear hr hno hp
    go_enter Tryz.func52, Tryz.ntmps52
    go_wp2_with fail
    refine C1.out.mono ?_
    rintro e w1 ⟨rfl, hb1⟩
    go_wp2
    refine bodyPost_ret (v := .tuple #[.int .i32 0, .int .i64 1]) (by simp [results, Tryz.results52, go_sem]) rfl ⟨rfl, hb1⟩
end
end Go.Proofs.YtpnjokhhbjpciaaGreatDoor
