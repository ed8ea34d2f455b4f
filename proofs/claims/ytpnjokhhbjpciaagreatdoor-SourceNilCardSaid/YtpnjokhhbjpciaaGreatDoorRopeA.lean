/- What is said of a rope; its small methods. Ropes: a cursor at a place. Ropes: a cursor at a place, with the tree of an older world. -/
import Derived.Test.YtpnjokhhbjpciaaGreatDoorTreeKQ
import Derived.Test.YtpnjokhhbjpciaaGreatDoorRSeekB
import Derived.Test.YtpnjokhhbjpciaaGreatDoorRopePure
namespace Go.Proofs.YtpnjokhhbjpciaaGreatDoor
open Go.RowKit
set_option linter.unusedVariables false in
theorem treeQo : TreeQo TP where
  below := fun h hb => TP.below h hb
  ok := fun h => TP.okl h
  sum := fun w a l h ht => tsum_any _ l h w ht
  find := fun w a l h dim v b ht hq => tfind_any _ l h dim v b w ht hq
  findBad := fun w a l h dim v b ht hq => tfind_bad _ l h dim v b w ht hq
  at_ := fun w a l h k ht hk => tat_any _ l h k w ht hk
  atBad := fun w a l h k ht hk => tat_bad _ l h k w ht hk
/-- A rope lies at an address, or is nil: it has the pieces ps, in a tree of the height h. -/
def RP (w : World) (p : Option Addr) (ps : List (List Int)) (h : Nat) : Prop :=
  PsOk ps ∧ ((p = none ∧ ps = [] ∧ h = 0) ∨ (∃ b row, p = some ⟨b, 0, none⟩ ∧ RawAt 141 w b #[.pointer row] ∧ TP w row (ps.map pit) h))
theorem RP.below {w w' : World} {p : Option Addr} {ps : List (List Int)} {h : Nat} (hr : RP w p ps h) (hb : Below w.heap.size w w') : RP w' p ps h := by
  obtain ⟨hP, h1 | ⟨b, row, h1, h2, h3⟩⟩ := hr
  · exact ⟨hP, .inl h1⟩
  · exact ⟨hP, .inr ⟨b, row, h1, h2.below hb h2.lt, h3.below hb⟩⟩
theorem RP.none_ (w : World) : RP w none [] 0 := ⟨PsOk.nil, .inl ⟨rfl, rfl, rfl⟩⟩
theorem pieces_nil (w : World) : Calls Tryz.prog 76 #[.pointer none] w fun e w' => e = .returned (.pointer none) ∧ w' = w := by
  go_enter Tryz.func76, Tryz.ntmps76
  go_wp2
  go_ret
  exact ⟨rfl, rfl⟩
theorem pieces_some (b : Nat) (row : Option Addr) (w : World) (e0 : w.cell? ⟨b, 0, none⟩ = some (.pointer row)) : Calls Tryz.prog 76 #[.pointer (some ⟨b, 0, none⟩)] w fun e w' => e = .returned (.pointer row) ∧ w' = w := by
  go_enter Tryz.func76, Tryz.ntmps76
  go_wp2
  go_ret
  exact ⟨rfl, rfl⟩
theorem pieces_fix {p : Option Addr} {ps : List (List Int)} {h : Nat} {w : World} (hr : RP w p ps h) : ∃ row, TP w row (ps.map pit) h ∧ ∀ W, Below w.heap.size w W → Calls Tryz.prog 76 #[.pointer p] W fun e w' => e = .returned (.pointer row) ∧ w' = W := by
  obtain ⟨hP, ⟨rfl, rfl, rfl⟩ | ⟨b, row, rfl, h2, h3⟩⟩ := hr
  · exact ⟨none, .inl ⟨rfl, rfl, rfl⟩, fun W _ => pieces_nil W⟩
  · exact ⟨row, h3, fun W hW => pieces_some b row W (RawAt.cell (h2.below hW h2.lt) 0)⟩
theorem fld_rd (a b c d e g : Int) (w : World) : (Instr.field 129 (.agg #[.int .i64 a, .int .i64 b, .int .i64 c, .int .i64 d, .int .i64 e, .int .i64 g]) 1).run Tryz.prog w = .ok (.agg #[.int .i64 b, .int .i64 c, .int .i64 d]) w := by kernel_rfl
section
variable {p : Option Addr} {ps : List (List Int)} {h : Nat} {w : World}
set_option maxHeartbeats 4000000 in
set_option maxRecDepth 100000 in
theorem rpsize_any (hr : RP w p ps h) (d : Nat) (hd : d ≤ 2) : Calls Tryz.prog 85 #[.pointer p, .int .i64 d] w fun e w' => e = .returned (.int .i64 (szl ps.flatten d)) ∧ Below w.heap.size w w' := by
  obtain ⟨row, hT, hp⟩ := pieces_fix hr
  have C1 := Lib.hid (hp w (Below.refl _ _))
  have C2 := Lib.hid (tsum_any row (ps.map pit) h w hT)
  have HS := Lib.hid (sall_pit hr.1)
  clear hr hT hp
  generalize sall (ps.map pit) = s at *
  unfold scs at C2
  have tf := fld_rd
  have hx0 := fun W => idx3_0 s.d0 s.d1 s.d2 W
  have hx1 := fun W => idx3_1 s.d0 s.d1 s.d2 W
  have hx2 := fun W => idx3_2 s.d0 s.d1 s.d2 W
  obtain rfl | rfl | rfl : d = 0 ∨ d = 1 ∨ d = 2 := by omega
  all_goals
    go_enter Tryz.func85, Tryz.ntmps85
    go_wp2_with fail
    refine C1.out.mono ?_
    rintro e w1 ⟨rfl, rfl⟩
    go_wp2_with fail
    refine C2.out.mono ?_
    rintro e w2 ⟨rfl, hb2⟩
    go_wp2_with fail
    go_ret
    exact ⟨ret_int (by first | exact HS.out.1 | exact HS.out.2.1 | exact HS.out.2.2), hb2⟩
theorem rrunes_any (hr : RP w p ps h) : Calls Tryz.prog 49 #[.pointer p] w fun e w' => e = .returned (.int .i64 (ps.flatten.length : Int)) ∧ Below w.heap.size w w' := by
  have C1 := Lib.hid (rpsize_any hr 1 (by omega))
  rw [show szl ps.flatten 1 = (ps.flatten.length : Int) from rfl] at C1
  clear hr
  generalize (ps.flatten.length : Int) = n at *
  go_enter Tryz.func49, Tryz.ntmps49
  go_wp2_with fail
  refine C1.out.mono ?_
  rintro e w1 ⟨rfl, hb1⟩
  go_wp2_with fail
  go_ret
  exact ⟨rfl, hb1⟩
theorem rbreaks_any (hr : RP w p ps h) : Calls Tryz.prog 129 #[.pointer p] w fun e w' => e = .returned (.int .i64 (brks ps.flatten : Int)) ∧ Below w.heap.size w w' := by
  have C1 := Lib.hid (rpsize_any hr 2 (by omega))
  rw [show szl ps.flatten 2 = (brks ps.flatten : Int) from rfl] at C1
  clear hr
  go_enter Tryz.func129, Tryz.ntmps129
  go_wp2_with fail
  refine C1.out.mono ?_
  rintro e w1 ⟨rfl, hb1⟩
  go_wp2_with fail
  go_ret
  exact ⟨rfl, hb1⟩
theorem place_any (hr : RP w p ps h) (at_ : Int) (pb : Bool) (hpb : pb = true ↔ 0 ≤ at_ ∧ at_ ≤ ps.flatten.length) : Calls Tryz.prog 87 #[.pointer p, .int .i64 at_] w fun e w' => e = .returned (.bool pb) ∧ Below w.heap.size w w' := by
  have C1 := Lib.hid (rrunes_any hr)
  have HF := Lib.hid hpb; clear hpb
  clear hr
  by_cases g1 : 0 ≤ at_
  · by_cases g2 : at_ ≤ ps.flatten.length
    · have HX := Lib.hid (ab_yes HF.out ⟨g1, g2⟩)
      generalize (ps.flatten.length : Int) = n at *
      go_enter Tryz.func87, Tryz.ntmps87
      go_wp2_with fail
      refine C1.out.mono ?_
      rintro e w1 ⟨rfl, hb1⟩
      go_wp2_with fail
      go_ret
      exact ⟨ret_bool (by simpa using HX.out), hb1⟩
    · have HX := Lib.hid (ab_no HF.out (fun h => g2 h.2))
      generalize (ps.flatten.length : Int) = n at *
      go_enter Tryz.func87, Tryz.ntmps87
      go_wp2_with fail
      refine C1.out.mono ?_
      rintro e w1 ⟨rfl, hb1⟩
      go_wp2_with fail
      go_ret
      exact ⟨ret_bool (by first | exact HX.out | exact (decide_eq_false (by omega)).trans HX.out), hb1⟩
  · have HX := Lib.hid (ab_no HF.out (fun h => g1 h.1))
    go_enter Tryz.func87, Tryz.ntmps87
    go_wp2_with fail
    go_ret
    exact ⟨ret_bool HX.out, Below.refl _ _⟩
theorem rspans_any (hr : RP w p ps h) (x y : Int) (sb : Bool) (hsb : sb = true ↔ 0 ≤ x ∧ x ≤ y ∧ y ≤ ps.flatten.length) : Calls Tryz.prog 66 #[.pointer p, .int .i64 x, .int .i64 y] w fun e w' => e = .returned (.bool sb) ∧ Below w.heap.size w w' := by
  have C1 := Lib.hid fun (at_ : Int) (pb : Bool) (hpb : pb = true ↔ 0 ≤ at_ ∧ at_ ≤ ps.flatten.length) => place_any hr at_ pb hpb
  have C2 := Lib.hid fun (W : World) (hW : Below w.heap.size w W) (at_ : Int) (pb : Bool) (hpb : pb = true ↔ 0 ≤ at_ ∧ at_ ≤ ps.flatten.length) => place_any (hr.below hW) at_ pb hpb
  have HF := Lib.hid hsb; clear hsb
  clear hr
  generalize (ps.flatten.length : Int) = n at *
  by_cases g1 : x ≤ y
  · by_cases g2 : 0 ≤ x ∧ x ≤ n
    · have CX := Lib.hid (C1.out x true ⟨fun _ => g2, fun _ => rfl⟩)
      by_cases g3 : 0 ≤ y ∧ y ≤ n
      · have HX := Lib.hid (ab_yes HF.out ⟨g2.1, g1, g3.2⟩)
        have CY := Lib.hid fun (W : World) (hW : Below w.heap.size w W) => C2.out W hW y true ⟨fun _ => g3, fun _ => rfl⟩
        clear C1 C2 g2 g3
        go_enter Tryz.func66, Tryz.ntmps66
        go_wp2_with fail
        refine CX.out.mono ?_
        rintro e w1 ⟨rfl, hb1⟩
        go_wp2_with fail
        refine (CY.out _ hb1).mono ?_
        rintro e w2 ⟨rfl, hb2⟩
        go_wp2_with fail
        go_ret
        exact ⟨ret_bool HX.out, hb1.trans (hb2.mono hb1.size)⟩
      · have HX := Lib.hid (ab_no HF.out (fun h => g3 ⟨by omega, h.2.2⟩))
        have CY := Lib.hid fun (W : World) (hW : Below w.heap.size w W) => C2.out W hW y false ⟨fun e => absurd e (by simp), fun e => absurd e g3⟩
        clear C1 C2 g2 g3
        go_enter Tryz.func66, Tryz.ntmps66
        go_wp2_with fail
        refine CX.out.mono ?_
        rintro e w1 ⟨rfl, hb1⟩
        go_wp2_with fail
        refine (CY.out _ hb1).mono ?_
        rintro e w2 ⟨rfl, hb2⟩
        go_wp2_with fail
        go_ret
        exact ⟨ret_bool HX.out, hb1.trans (hb2.mono hb1.size)⟩
    · have CX := Lib.hid (C1.out x false ⟨fun e => absurd e (by simp), fun e => absurd e g2⟩)
      have HX := Lib.hid (ab_no HF.out (fun h => g2 ⟨h.1, by omega⟩))
      clear C1 C2 g2
      go_enter Tryz.func66, Tryz.ntmps66
      go_wp2_with fail
      refine CX.out.mono ?_
      rintro e w1 ⟨rfl, hb1⟩
      go_wp2_with fail
      go_ret
      exact ⟨ret_bool HX.out, hb1⟩
  · have HX := Lib.hid (ab_no HF.out (fun h => g1 h.2.1))
    clear C1 C2
    go_enter Tryz.func66, Tryz.ntmps66
    go_wp2_with fail
    go_ret
    exact ⟨ret_bool HX.out, Below.refl _ _⟩
end
section
variable {p : Option Addr} {ps : List (List Int)} {h : Nat} {w : World}
theorem CAt.any {w w' : World} {b : Nat} {row : Option Addr} {l : List I7} {h m : Nat} (ht : TP w row l h) (hb : Below w.heap.size w w') (hlt : w.heap.size ≤ b) (C : CAt TP w' b b row l h m) (c : Nat) (hc : w.heap.size ≤ c) : CAt TP w' b c row l h m :=
  ⟨C.raw, fun _ hW => ht.below (hb.trans (hW.below hlt hc hb.size)), C.le, C.ok, C.len⟩
set_option maxHeartbeats 4000000 in
set_option maxRecDepth 100000 in
theorem rto_any (hr : RP w p ps h) (d : Nat) (hd : d ≤ 2) (v : Int) (hv : 0 ≤ v) (hs : v ≤ szl ps.flatten d) :
    Calls Tryz.prog 68 #[.pointer p, .int .i64 d, .int .i64 v] w fun e w' => ∃ (b m : Nat) (row : Option Addr), e = .returned (.pointer (some ⟨b, 0, none⟩)) ∧ FindIs (ps.map pit) d v 0 m ∧ w.heap.size ≤ b ∧ TP w row (ps.map pit) h ∧ CAt TP w' b b row (ps.map pit) h m ∧ Below w.heap.size w w' := by
  obtain ⟨row, hT, hp⟩ := pieces_fix hr
  have C1 := Lib.hid (hp w (Below.refl _ _))
  have C2 := Lib.hid (seeknew_any row w)
  have HT := Lib.hid hT
  have C3 : Hid (∀ W, CAt TP W w.heap.size w.heap.size row (ps.map pit) h 0 → Calls Tryz.prog 98 #[.pointer (some ⟨w.heap.size, 0, none⟩), .int .i64 d, .int .i64 v, .int .i64 0] W fun e w' => ∃ m, FindIs (ps.map pit) d v 0 m ∧ e = .returned (.int .i64 0) ∧ CAt TP w' w.heap.size w.heap.size row (ps.map pit) h m ∧ Off w.heap.size w.heap.size W w') := fun W hC => by
    have := cto_yes treeQo hC d v 0 ⟨by omega, by omega, hv, by rw [Int.toNat_natCast, sdim_pit_all hr.1 hd]; exact hs, .inl rfl⟩
    rwa [Int.toNat_natCast] at this
  have CM := Lib.hid fun (W : World) (hb : Below w.heap.size w W) (hraw : RawAt 167 W w.heap.size (ccs row s0)) => CAt.make treeQo hT hb hraw w.heap.size (Nat.le_refl _)
  clear hr hT hp hv hs hd
  generalize ps.map pit = l at *
  generalize (d : Int) = dd at *
  go_enter Tryz.func68, Tryz.ntmps68
  go_wp2_with fail
  refine C1.out.mono ?_
  rintro e w1 ⟨rfl, rfl⟩
  go_wp2_with fail
  refine C2.out.mono ?_
  rintro e w2 ⟨rfl, hraw, hb2⟩
  have hC := CM.out _ hb2 hraw
  clear hraw
  go_wp2_with fail
  refine (C3.out _ hC).mono ?_
  rintro e w3 ⟨m, hf, rfl, hC3, ho⟩
  go_wp2_with fail
  go_ret
  exact ⟨_, m, row, rfl, hf, Nat.le_refl _, HT.out, hC3, hb2.trans (ho.below (Nat.le_refl _) (Nat.le_refl _) hb2.size)⟩
end
section
variable {p : Option Addr} {ps : List (List Int)} {h : Nat} {w0 : World}
set_option maxHeartbeats 4000000 in
set_option maxRecDepth 100000 in
/-- A cursor at a place: the tree is that of the world ahead. -/
theorem rto_fix (hr : RP w0 p ps h) : ∃ row, TP w0 row (ps.map pit) h ∧ (∀ W, Below w0.heap.size w0 W → Calls Tryz.prog 76 #[.pointer p] W fun e w' => e = .returned (.pointer row) ∧ w' = W) ∧ ∀ (w : World) (d : Nat) (v : Int), Below w0.heap.size w0 w → d ≤ 2 → 0 ≤ v → v ≤ szl ps.flatten d →
    Calls Tryz.prog 68 #[.pointer p, .int .i64 d, .int .i64 v] w fun e w' => ∃ (b m : Nat), e = .returned (.pointer (some ⟨b, 0, none⟩)) ∧ FindIs (ps.map pit) d v 0 m ∧ w.heap.size ≤ b ∧ CAt TP w' b b row (ps.map pit) h m ∧ Below w.heap.size w w' := by
  obtain ⟨row, hT0, hp⟩ := pieces_fix hr
  refine ⟨row, hT0, hp, fun w d v hb0 hd hv hs => ?_⟩
  have hT := hT0.below hb0
  have C1 := Lib.hid (hp w hb0)
  have C2 := Lib.hid (seeknew_any row w)
  have C3 : Hid (∀ W, CAt TP W w.heap.size w.heap.size row (ps.map pit) h 0 → Calls Tryz.prog 98 #[.pointer (some ⟨w.heap.size, 0, none⟩), .int .i64 d, .int .i64 v, .int .i64 0] W fun e w' => ∃ m, FindIs (ps.map pit) d v 0 m ∧ e = .returned (.int .i64 0) ∧ CAt TP w' w.heap.size w.heap.size row (ps.map pit) h m ∧ Off w.heap.size w.heap.size W w') := fun W hC => by
    have := cto_yes treeQo hC d v 0 ⟨by omega, by omega, hv, by rw [Int.toNat_natCast, sdim_pit_all hr.1 hd]; exact hs, .inl rfl⟩
    rwa [Int.toNat_natCast] at this
  have CM := Lib.hid fun (W : World) (hb : Below w.heap.size w W) (hraw : RawAt 167 W w.heap.size (ccs row s0)) => CAt.make treeQo hT hb hraw w.heap.size (Nat.le_refl _)
  clear hr hT hp hv hs hd hT0 hb0
  generalize ps.map pit = l at *
  generalize (d : Int) = dd at *
  go_enter Tryz.func68, Tryz.ntmps68
  go_wp2_with fail
  refine C1.out.mono ?_
  rintro e w1 ⟨rfl, rfl⟩
  go_wp2_with fail
  refine C2.out.mono ?_
  rintro e w2 ⟨rfl, hraw, hb2⟩
  have hC := CM.out _ hb2 hraw
  clear hraw
  go_wp2_with fail
  refine (C3.out _ hC).mono ?_
  rintro e w3 ⟨m, hf, rfl, hC3, ho⟩
  go_wp2_with fail
  go_ret
  exact ⟨_, m, rfl, hf, Nat.le_refl _, hC3, hb2.trans (ho.below (Nat.le_refl _) (Nat.le_refl _) hb2.size)⟩
theorem CAt.of {w w' : World} {b : Nat} {row : Option Addr} {l : List I7} {h m : Nat} (ht : TP w row l h) (hb : Below w.heap.size w w') (hlt : w.heap.size ≤ b) (hraw : RawAt 167 w' b (ccs row (sall (l.take m)))) (hm : m ≤ l.length) (c : Nat) (hc : w.heap.size ≤ c) : CAt TP w' b c row l h m :=
  ⟨hraw, fun _ hW => ht.below (hb.trans (hW.below hlt hc hb.size)), hm, ht.okl.1, ht.okl.2⟩
end
end Go.Proofs.YtpnjokhhbjpciaaGreatDoor
