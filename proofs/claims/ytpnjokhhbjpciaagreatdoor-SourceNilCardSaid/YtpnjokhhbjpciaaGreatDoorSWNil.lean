/- Source: the law's walk: a text without a rope and inlays. -/
import Derived.Test.YtpnjokhhbjpciaaGreatDoorSoF
import Derived.Test.YtpnjokhhbjpciaaGreatDoorSoE
import Derived.Test.YtpnjokhhbjpciaaGreatDoorRAt
import Derived.Test.YtpnjokhhbjpciaaGreatDoorUtfLaid
namespace Go.Proofs.YtpnjokhhbjpciaaGreatDoor
open Go.RowKit Go.Shelf
set_option linter.unusedVariables false
theorem txtNil (w : World) : TxtC w none none none 0 0 [] [] [] :=
  ⟨fun r hr => (by cases hr), by decide, (RP.none_ w).slc, (RP.none_ w).run, RowsAt.nil _ _, rfl, by decide, ⟨fun V _ => iLen_nil V, fun V x y _ => iWithin_nil x y, List.Pairwise.nil, fun a ha => (by cases ha), by decide⟩, Nat.le_refl _⟩
set_option maxHeartbeats 4000000 in
set_option maxRecDepth 100000 in
theorem begNil (f : Int) (w : World) (b : Bool) (hb : b = true ↔ f = 0) : BegC w none none none 0 0 f b := by
  intro V hV
  have x1 : Below V.heap.size V (V.alloc (.cells #[.pointer none, .pointer none, .slice none 0 0] 29)) := (Below.refl _ _).alloc (Nat.le_refl _) _
  have r1 : RawAt 29 (V.alloc (.cells #[.pointer none, .pointer none, .slice none 0 0] 29)) V.heap.size #[.pointer none, .pointer none, .slice none 0 0] := heap_alloc_new V _
  have d0 := r1.cell 0
  have X1 := Lib.hid x1
  by_cases hf : f = 0
  · obtain rfl : b = true := hb.2 hf
    subst hf
    clear hb
    go_enter Tryz.func27, Tryz.ntmps27
    go_wp2
    go_ret
    exact ⟨rfl, X1.out⟩
  · obtain rfl : b = false := by rw [← Bool.not_eq_true]; exact fun h => hf (hb.1 h)
    have k1 : (f == 0) = false := beq_eq_false_iff_ne.2 hf
    have CA := Lib.hid fun (U : World) (g : Int) => rat_no (RP.none_ U) g (by simp)
    clear hb hf
    go_enter Tryz.func27, Tryz.ntmps27
    go_wp2_with fail
    with_reducible refine (CA.out _ _).mono ?_
    rintro e w2 ⟨rfl, b2⟩
    have B2 := Lib.hid (X1.out.trans (b2.mono X1.out.size))
    clear b2
    go_wp2
    go_ret
    exact ⟨rfl, B2.out⟩
theorem nil_lin : linL [] [] [] 0 = [⟨[], 0, 0⟩] := by rfl
set_option maxHeartbeats 8000000 in
set_option maxRecDepth 100000 in
theorem sourceNil_walk (a : Int) (w : World) (_h : UTabs w) (_wf : (Lit.int .i64 a).wf = true) : Calls Tryz.prog 4 #[.int .i64 a] w fun e w' => e = .returned (.bool true) ∧ Below w.heap.size w w' := by
  have C1 := Lib.hid (soAll none none none 0 0 [] [] [] w (txtNil w))
  rw [nil_lin] at C1
  have CJ := Lib.hid fun (V : World) => joined21 V
  clear _wf _h
  go_enter Tryz.func4, Tryz.ntmps4
  go_wp2_with fail
  with_reducible refine (C1.out).mono ?_
  rintro e w1 ⟨xs, S, v, rfl, hxs, hrow, hpr, b1⟩
  obtain ⟨x, rfl⟩ : ∃ x, xs = [x] := by
    have := congrArg List.length hxs
    rw [List.length_map] at this
    match xs, this with
    | [x], _ => exact ⟨x, rfl⟩
  obtain ⟨A, c, qs, fr, te⟩ := x
  have hx : lnS ⟨A, c, qs, fr, te⟩ = _ := List.head_eq_of_cons_eq hxs
  unfold lnS at hx
  injection hx with hx1 hx2 hx3
  simp only at hx1 hx2 hx3
  subst hx2 hx3
  obtain rfl : qs = [] := List.map_eq_nil_iff.1 hx1
  obtain ⟨Av, cv, rfl, hR, _, _⟩ := rows_of_own encL3_len (by omega) hrow
  obtain ⟨bl, ol, rfl, hbl, hcl⟩ := hR.at1 (j := 0) (by simp)
  have d0 := hcl 0 (by omega)
  have d1 := hcl 1 (by omega)
  have d2 := hcl 2 (by omega)
  simp only [Nat.zero_mul, Nat.add_zero, List.getElem_cons_zero, encL3, LnV.v, List.getElem?_cons_zero, List.getElem?_cons_succ, List.length_nil] at d0 d1 d2
  have HBL := Lib.hid hbl
  have B1 := Lib.hid b1
  have D0 := Lib.hid d0
  have D1 := Lib.hid d1
  have D2 := Lib.hid d2
  clear C1 hxs hrow hpr b1 hx1 hR hcl hbl d0 d1 d2
  by_cases hf : a = 0
  · have c2 := soAt_yes none none none 0 0 [] [] [] 0 w1 (txtNil w1) (begNil 0 w1 true ⟨fun _ => rfl, fun _ => rfl⟩) (Nat.le_refl _) (Nat.le_refl _) (by rw [nil_lin]; exact List.cons_ne_nil _ _)
    rw [show ((0 : Nat) : Int) = 0 from rfl] at c2
    unfold encLn at c2
    have C2 := Lib.hid c2
    clear c2
    subst hf
    go_wp2_with fail
    with_reducible refine (C2.out).mono ?_
    rintro e w2 ⟨⟨yA, yc, yp, yf, yt⟩, S2, rfl, _, _, b2⟩
    have xx : Below w1.heap.size w1 (w2.alloc (.cells #[.slice yA yp.length yc, .int .i64 (yf : Int), .int .i64 (yt : Int)] 40)) := b2.alloc b2.size _
    have e0 := (World.cell?_of_block (a := ⟨bl, ol, none⟩) (xx.block bl HBL.out)).trans D0.out
    have e1 := (World.cell?_of_block (a := ⟨bl, ol + 1, none⟩) (xx.block bl HBL.out)).trans D1.out
    have e2 := (World.cell?_of_block (a := ⟨bl, ol + 2, none⟩) (xx.block bl HBL.out)).trans D2.out
    have B2 := Lib.hid (B1.out.trans (xx.mono B1.out.size))
    clear b2 xx C2 D0 D1 D2
    go_wp2_with fail
    with_reducible refine (CJ.out _).mono ?_
    rintro e w3 ⟨rfl, b3⟩
    have B3 := Lib.hid (B2.out.trans (b3.mono B2.out.size))
    clear b3
    go_wp2
    go_ret
    exact ⟨rfl, B3.out⟩
  · have C2 := Lib.hid (soAt_no none none none 0 0 [] [] [] a w1 (txtNil w1) (begNil a w1 false ⟨fun h => (by cases h), fun h => absurd h hf⟩))
    have k1 : (a == 0) = false := beq_eq_false_iff_ne.2 hf
    have k2 : ¬ a = 0 := hf
    clear hf
    go_wp2_with fail
    with_reducible refine (C2.out).mono ?_
    rintro e w2 ⟨rfl, b2⟩
    have xx : Below w1.heap.size w1 (w2.alloc (.cells #[.slice none 0 0, .int .i64 0, .int .i64 0] 40)) := b2.alloc b2.size _
    have e0 := (World.cell?_of_block (a := ⟨bl, ol, none⟩) (xx.block bl HBL.out)).trans D0.out
    have e1 := (World.cell?_of_block (a := ⟨bl, ol + 1, none⟩) (xx.block bl HBL.out)).trans D1.out
    have e2 := (World.cell?_of_block (a := ⟨bl, ol + 2, none⟩) (xx.block bl HBL.out)).trans D2.out
    have B2 := Lib.hid (B1.out.trans (xx.mono B1.out.size))
    clear b2 xx C2 D0 D1 D2
    go_wp2_with fail
    with_reducible refine (CJ.out _).mono ?_
    rintro e w3 ⟨rfl, b3⟩
    have B3 := Lib.hid (B2.out.trans (b3.mono B2.out.size))
    clear b3
    go_wp2
    go_ret
    exact ⟨rfl, B3.out⟩
end Go.Proofs.YtpnjokhhbjpciaaGreatDoor
