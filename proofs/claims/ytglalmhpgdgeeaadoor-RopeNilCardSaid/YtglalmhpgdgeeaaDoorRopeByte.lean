/- Ropes: the byte of a place: the contract of ByteAt. -/
import Derived.Test.YtglalmhpgdgeeaaDoorRopeAsk
namespace Go.Proofs.YtglalmhpgdgeeaaDoor
open Go.RowKit
section
variable {p : Option Addr} {ps : List (List Int)} {h : Nat} {w : World}
set_option maxHeartbeats 2000000 in
set_option maxRecDepth 100000 in
theorem byteAt_any (hr : RP w p ps h) (at_ : Int) : Calls Tryd.prog 5 #[.pointer p, .int .i64 at_] w fun e w' => ∃ a c, SizeIs ps.flatten 0 at_ a c ∧ e = .returned (.tuple #[.int .i64 a, .int .i64 c]) ∧ Below w.heap.size w w' := by
  by_cases hp : 0 ≤ at_ ∧ at_ ≤ ps.flatten.length
  · have C1 := Lib.hid (place_any hr at_ true ⟨fun _ => hp, fun _ => rfl⟩)
    have C2 := Lib.hid fun (W : World) (hW : Below w.heap.size w W) => rahead_any (hr.below hW) 1 (by omega) at_ hp.1 hp.2
    have H := Lib.hid (show ∀ j, AheadIs ps.flatten 1 at_ j → SizeIs ps.flatten 0 at_ (szl (ps.flatten.take j) 0) 0 from fun j hj => by
      have e : at_.toNat = j := by
        have h2 := AheadIs.runes (l := ps.flatten) (v := at_.toNat) (by omega)
        rw [show ((at_.toNat : Nat) : Int) = at_ from by omega] at h2
        exact h2.unique hj
      exact .inr ⟨hp.1, hp.2, by rw [e], rfl⟩)
    have hx0 := fun (a b c : Int) W => idx3_0 a b c W
    have hx2 := fun (a b c : Int) W => idx3_2 a b c W
    clear hr hp
    unfold hcs at C2
    go_enter Tryd.func5, Tryd.ntmps5
    go_wp2_with fail
    refine C1.out.mono ?_
    rintro e w1 ⟨rfl, hb1⟩
    go_wp2_with fail
    refine (C2.out _ hb1).mono ?_
    rintro e w2 ⟨j, hj, rfl, hb2⟩
    have HJ := Lib.hid (H.out j hj)
    clear hj
    have a2 := hb1.trans (hb2.mono hb1.size)
    generalize szl (ps.flatten.take j) 0 = x0 at *
    generalize szl (ps.flatten.take j) 1 = x1 at *
    generalize szl (ps.flatten.take j) 2 = x2 at *
    go_wp2
    refine bodyPost_ret (v := .tuple #[.int .i64 x0, .int .i64 0]) (by simp [results, Tryd.results5, go_sem]) rfl ⟨_, _, HJ.out, rfl, a2⟩
  · have C1 := Lib.hid (place_any hr at_ false ⟨fun e => absurd e (by simp), fun e => absurd e hp⟩)
    have H := Lib.hid (show SizeIs ps.flatten 0 at_ 0 1 from .inl ⟨hp, rfl, rfl⟩)
    clear hr hp
    go_enter Tryd.func5, Tryd.ntmps5
    go_wp2_with fail
    refine C1.out.mono ?_
    rintro e w1 ⟨rfl, hb1⟩
    go_wp2
    refine bodyPost_ret (v := .tuple #[.int .i64 0, .int .i64 1]) (by simp [results, Tryd.results5, go_sem]) rfl ⟨_, _, H.out, rfl, hb1⟩
end
end Go.Proofs.YtglalmhpgdgeeaaDoor
