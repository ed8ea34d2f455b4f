/- Lines of ropes: the contracts of spans, Span, PointAt, PlaceAt, Clip. -/
import Derived.Test.YtaemndioleofjaaLnA
namespace Go.Proofs.Ytaemndioleofjaa
open Go.RowKit
theorem brks_le (l : List Int) : brks l ≤ l.length := List.countP_le_length
section
variable {p : Option Addr} {ps : List (List Int)} {h : Nat} {w : World}
set_option maxHeartbeats 4000000 in
set_option maxRecDepth 100000 in
theorem lspans_any (hr : RP w p ps h) : Calls Try.prog 47 #[.pointer p] w fun e w' => ∃ pb lb, e = .returned (.func (.func 73) #[] #[.pointer (some ⟨pb, 0, none⟩), .pointer (some ⟨lb, 0, none⟩)]) ∧ RawAt 23 w' pb #[.pointer p] ∧ RawAt 3 w' lb #[.int .i64 (brks ps.flatten : Int)] ∧ Below w.heap.size w w' := by
  have hmf : ∀ (fn : Fn) (first cap : Array Value) (w : World), (Instr.makeFunc fn first cap).run Try.prog w = .ok (.func fn first cap) w := fun _ _ _ _ => rfl
  have C1 := Lib.hid fun (W : World) (hW : Below w.heap.size w W) => lrows_any (hr.below hW)
  have hb : (brks ps.flatten : Int) ≤ 20000 := by have := hr.1.most; have h2 := brks_le ps.flatten; omega
  have hb0 : (0 : Int) ≤ (brks ps.flatten : Int) := by omega
  clear hr
  generalize (brks ps.flatten : Int) = n at *
  have x1 : Below w.heap.size w (w.alloc (.cells #[.pointer p] 23)) := (Below.refl _ _).alloc (Nat.le_refl _) _
  have R0 : RawAt 23 (w.alloc (.cells #[.pointer p] 23)) w.heap.size #[.pointer p] := heap_alloc_new w _
  have e0 := RawAt.cell R0 0
  simp at e0
  have HR0 := Lib.hid R0
  clear R0
  go_enter Try.func47, Try.ntmps47
  go_wp2_with fail
  refine (C1.out _ x1).mono ?_
  rintro e w1 ⟨rfl, hb1⟩
  have HR1 := Lib.hid (RawAt.below HR0.out hb1 (RawAt.lt HR0.out))
  have a1 := x1.trans (hb1.mono x1.size)
  have x2 : Below w1.heap.size w1 (w1.alloc (.cells #[.int .i64 n] 3)) := (Below.refl _ _).alloc (Nat.le_refl _) _
  have HR2 := Lib.hid (RawAt.below HR1.out x2 (RawAt.lt HR1.out))
  have HL2 := Lib.hid (show RawAt 3 (w1.alloc (.cells #[.int .i64 n] 3)) w1.heap.size #[.int .i64 n] from heap_alloc_new w1 _)
  have a2 := a1.trans (x2.mono a1.size)
  clear x2 x1 e0
  have hw : IntKind.i64.wrap (n + 1 - 1) = n := by rw [show n + 1 - 1 = n from by omega]; exact IntWalk.i64_in _ (by omega)
  have hw' : n + 1 - 1 = n := by omega
  go_wp2
  go_ret
  exact ⟨w.heap.size, w1.heap.size, rfl, HR2.out, HL2.out, a2⟩
set_option maxHeartbeats 4000000 in
set_option maxRecDepth 100000 in
theorem lspan_any (hr : RP w p ps h) (row : Int) : Calls Try.prog 22 #[.pointer p, .int .i64 row] w fun e w' => ∃ f t d, SpanIs ps.flatten row f t d ∧ e = .returned (.tuple #[.agg #[.int .i64 f, .int .i64 t], .int .i64 d]) ∧ Below w.heap.size w w' := by
  have C1 := Lib.hid fun (W : World) (hW : Below w.heap.size w W) => lspans_any (hr.below hW)
  have HR := Lib.hid hr
  clear hr
  have x1 : Below w.heap.size w (w.alloc (.cells #[.int .i64 0, .int .i64 0] 41)) := (Below.refl _ _).alloc (Nat.le_refl _) _
  have R0 : RawAt 41 (w.alloc (.cells #[.int .i64 0, .int .i64 0] 41)) w.heap.size #[.int .i64 0, .int .i64 0] := heap_alloc_new w _
  go_enter Try.func22, Try.ntmps22
  go_wp2_with fail
  generalize w.alloc (.cells #[.int .i64 0, .int .i64 0] 41) = W1 at *
  have HR0 := Lib.hid R0
  clear R0
  refine (C1.out _ x1).mono ?_
  rintro e w2 ⟨pb, lb, rfl, hp, hl, hb2⟩
  have a2 := x1.trans (hb2.mono x1.size)
  have R2 := Lib.hid (RawAt.below HR0.out hb2 (RawAt.lt HR0.out))
  have C2 := Lib.hid (spn_any (HR.out.below a2) pb lb hp hl row)
  clear hp hl
  go_wp2_with fail
  refine C2.out.mono ?_
  rintro e w3 ⟨f, t, d, hi, rfl, hb3⟩
  have HI := Lib.hid hi
  clear hi
  have a3 := a2.trans (hb3.mono a2.size)
  have R3 := RawAt.below R2.out hb3 (RawAt.lt R2.out)
  have f0 := RawAt.free R3 0
  have f1 := RawAt.free R3 1
  have p0 := RawAt.cell R3 0
  have p1 := RawAt.cell R3 1
  simp at p0 p1
  clear R3
  go_wp2
  refine bodyPost_ret (v := .tuple #[.agg #[.int .i64 f, .int .i64 t], .int .i64 d]) (by simp [results, Try.results22, go_sem, p0, p1]) rfl ⟨f, t, d, HI.out, rfl, ?_⟩
  (repeat' (first | (with_reducible exact a3) | (with_reducible refine Below.setCell ?_ ?_ _) | (with_reducible refine Below.drew ?_))) <;> (simp; done)
/-- What is told of a place. -/
def PointIs (l : List Int) (at_ r c e : Int) : Prop :=
  (¬ (0 ≤ at_ ∧ at_ ≤ l.length) ∧ r = 0 ∧ c = 0 ∧ e = 1) ∨ (0 ≤ at_ ∧ at_ ≤ l.length ∧ e = 0 ∧ r = szl (l.take at_.toNat) 2 ∧ ∃ j : Nat, AheadIs l 2 r j ∧ c = at_ - j)
theorem PointIs.unique {l : List Int} {t r c e r' c' e' : Int} (h : PointIs l t r c e) (g : PointIs l t r' c' e') : r = r' ∧ c = c' ∧ e = e' := by
  rcases h with ⟨h1, rfl, rfl, rfl⟩ | ⟨h1, h2, rfl, rfl, j, hj, rfl⟩ <;> rcases g with ⟨g1, rfl, rfl, rfl⟩ | ⟨g1, g2, rfl, rfl, k, hk, rfl⟩
  · exact ⟨rfl, rfl, rfl⟩
  · exact absurd ⟨g1, g2⟩ h1
  · exact absurd ⟨h1, h2⟩ g1
  · obtain rfl := hj.unique hk
    exact ⟨rfl, rfl, rfl⟩
set_option maxHeartbeats 4000000 in
set_option maxRecDepth 100000 in
theorem lpoint_any (hr : RP w p ps h) (at_ : Int) : Calls Try.prog 48 #[.pointer p, .int .i64 at_] w fun e w' => ∃ r c d, PointIs ps.flatten at_ r c d ∧ e = .returned (.tuple #[.agg #[.int .i64 r, .int .i64 c], .int .i64 d]) ∧ Below w.heap.size w w' := by
  have hmost := hr.1.most
  have CA := Lib.hid fun (W : World) (hW : Below w.heap.size w W) => raheadOf_any (hr.below hW) at_
  have CB := Lib.hid fun (W : World) (hW : Below w.heap.size w W) (k : Int) => behind_any (hr.below hW) k
  clear hr
  have x1 : Below w.heap.size w (w.alloc (.cells #[.int .i64 0, .int .i64 0] 39)) := (Below.refl _ _).alloc (Nat.le_refl _) _
  have R0 : RawAt 39 (w.alloc (.cells #[.int .i64 0, .int .i64 0] 39)) w.heap.size #[.int .i64 0, .int .i64 0] := heap_alloc_new w _
  go_enter Try.func48, Try.ntmps48
  go_wp2_with fail
  generalize w.alloc (.cells #[.int .i64 0, .int .i64 0] 39) = W1 at *
  have HR0 := Lib.hid R0
  clear R0
  refine (CA.out _ x1).mono ?_
  rintro e w2 ⟨a, d, hi, rfl, hb2⟩
  have a2 := x1.trans (hb2.mono x1.size)
  have R2 := RawAt.below HR0.out hb2 (RawAt.lt HR0.out)
  have HR2 := Lib.hid R2
  rcases hi with ⟨h1, rfl, rfl⟩ | ⟨h1, h2, rfl, rfl⟩
  · have H := Lib.hid (show PointIs ps.flatten at_ 0 0 1 from .inl ⟨h1, rfl, rfl, rfl⟩)
    have f0 := RawAt.free R2 0
    have f1 := RawAt.free R2 1
    have p0 := RawAt.cell R2 0
    have p1 := RawAt.cell R2 1
    simp at p0 p1
    clear h1 R2
    go_wp2
    refine bodyPost_ret (v := .tuple #[.agg #[.int .i64 0, .int .i64 0], .int .i64 1]) (by simp [results, Try.results48, go_sem, p0, p1]) rfl ⟨0, 0, 1, H.out, rfl, ?_⟩
    (repeat' (first | (with_reducible exact a2) | (with_reducible refine Below.setCell ?_ ?_ _) | (with_reducible refine Below.drew ?_))) <;> (simp; done)
  · have hz0 := szl_nonneg (ps.flatten.take at_.toNat) 2
    have hz1 : szl (ps.flatten.take at_.toNat) 2 ≤ (brks ps.flatten : Int) := by
      have := szl_mono ps.flatten 2 (show at_.toNat ≤ ps.flatten.length by omega)
      rwa [szl_all] at this
    have CB2 := Lib.hid (CB.out _ a2 (szl (ps.flatten.take at_.toNat) 2))
    clear R2
    generalize hz : szl (ps.flatten.take at_.toNat) 2 = z at *
    have HZ := Lib.hid hz
    clear hz
    go_wp2_with fail
    refine CB2.out.mono ?_
    rintro e w3 ⟨b, d, hi3, rfl, hb3⟩
    have a3 := a2.trans (hb3.mono a2.size)
    have R3 := RawAt.below HR2.out hb3 (RawAt.lt HR2.out)
    have f0 := RawAt.free R3 0
    have f1 := RawAt.free R3 1
    have p0 := RawAt.cell R3 0
    have p1 := RawAt.cell R3 1
    simp at p0 p1
    clear R3
    rcases hi3 with ⟨g1, _, _⟩ | ⟨g1, g2, j, hj, rfl, rfl⟩
    · exact absurd ⟨hz0, hz1⟩ g1
    have hjl := hj.le
    have H := Lib.hid (show PointIs ps.flatten at_ z (at_ - (j : Int)) 0 from .inr ⟨h1, h2, rfl, HZ.out.symm, j, hj, rfl⟩)
    have hw : IntKind.i64.wrap (at_ - (j : Int)) = at_ - (j : Int) := IntWalk.i64_in _ (by omega)
    have hw2 : wrap64 (at_ - (j : Int)) = at_ - (j : Int) := IntWalk.wrap64_in _ ⟨by omega, by omega⟩
    clear hj g1 g2 hz0 hz1
    go_wp2
    refine bodyPost_ret (v := .tuple #[.agg #[.int .i64 z, .int .i64 (at_ - (j : Int))], .int .i64 0]) (by simp [results, Try.results48, go_sem, p0, p1]) rfl ⟨z, at_ - (j : Int), 0, H.out, rfl, ?_⟩
    (repeat' (first | (with_reducible exact a3) | (with_reducible refine Below.setCell ?_ ?_ _) | (with_reducible refine Below.drew ?_))) <;> (simp; done)
end
end Go.Proofs.Ytaemndioleofjaa
