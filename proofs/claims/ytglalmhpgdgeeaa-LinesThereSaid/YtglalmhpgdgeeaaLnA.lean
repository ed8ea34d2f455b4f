/- Lines of ropes: the contracts of Rows, spans, Span. Lines of ropes: the contracts of spans, Span, PointAt, PlaceAt, Clip. Lines of ropes: the contracts of PlaceAt and Clip. The small case of the laws on lines. Lines of ropes: a row's text: the contract of lines.Text. Lines: plain facts on points and places there and back: nothing of the program. -/
import Derived.Test.YtglalmhpgdgeeaaRopeAsk
import Derived.Shelf.Abstract
import Derived.Test.YtglalmhpgdgeeaaRWide
import Derived.Test.YtglalmhpgdgeeaaRSlice
namespace Go.Proofs.Ytglalmhpgdgeeaa
open Go.RowKit
/-- What is told of a row's places. -/
def SpanIs (l : List Int) (row f t e : Int) : Prop :=
  (¬ (0 ≤ row ∧ row ≤ brks l) ∧ f = 0 ∧ t = 0 ∧ e = 1) ∨ (0 ≤ row ∧ row ≤ brks l ∧ e = 0 ∧ ∃ j : Nat, AheadIs l 2 row j ∧ f = j ∧ ((row = brks l ∧ t = l.length) ∨ (row < brks l ∧ ∃ j' : Nat, AheadIs l 2 (row + 1) j' ∧ t = (j' : Int) - 1)))
theorem SpanIs.unique {l : List Int} {r f t e f' t' e' : Int} (h : SpanIs l r f t e) (g : SpanIs l r f' t' e') : f = f' ∧ t = t' ∧ e = e' := by
  rcases h with ⟨h1, rfl, rfl, rfl⟩ | ⟨h1, h2, rfl, j, hj, rfl, h3⟩ <;> rcases g with ⟨g1, rfl, rfl, rfl⟩ | ⟨g1, g2, rfl, k, hk, rfl, g3⟩
  · exact ⟨rfl, rfl, rfl⟩
  · exact absurd ⟨g1, g2⟩ h1
  · exact absurd ⟨h1, h2⟩ g1
  · obtain rfl := hj.unique hk
    refine ⟨rfl, ?_, rfl⟩
    rcases h3 with ⟨h4, rfl⟩ | ⟨h4, a, ha, rfl⟩ <;> rcases g3 with ⟨g4, rfl⟩ | ⟨g4, b, hb, rfl⟩
    · rfl
    · omega
    · omega
    · rw [ha.unique hb]
section
variable {p : Option Addr} {ps : List (List Int)} {h : Nat} {w : World}
theorem lrows_any (hr : RP w p ps h) : Calls Try.prog 11 #[.pointer p] w fun e w' => e = .returned (.int .i64 ((brks ps.flatten : Int) + 1)) ∧ Below w.heap.size w w' := by
  have C1 := Lib.hid (rbreaks_any hr)
  have hb : (brks ps.flatten : Int) ≤ 20000 := by have := hr.1.most; have h2 : brks ps.flatten ≤ ps.flatten.length := List.countP_le_length; omega
  clear hr
  have hb0 : (0 : Int) ≤ (brks ps.flatten : Int) := by omega
  generalize (brks ps.flatten : Int) = n at *
  go_enter Try.func11, Try.ntmps11
  go_wp2_with fail
  refine C1.out.mono ?_
  rintro e w1 ⟨rfl, hb1⟩
  go_wp2
  go_ret
  exact ⟨rfl, hb1⟩
set_option maxHeartbeats 4000000 in
set_option maxRecDepth 100000 in
theorem spn_any (hr : RP w p ps h) (pb lb : Nat) (hp : RawAt 23 w pb #[.pointer p]) (hlb : RawAt 3 w lb #[.int .i64 (brks ps.flatten : Int)]) (row : Int) :
    Calls Try.prog 74 #[.int .i64 row, .pointer (some ⟨pb, 0, none⟩), .pointer (some ⟨lb, 0, none⟩)] w fun e w' => ∃ f t d, SpanIs ps.flatten row f t d ∧ e = .returned (.tuple #[.agg #[.int .i64 f, .int .i64 t], .int .i64 d]) ∧ Below w.heap.size w w' := by
  have hmost := hr.1.most
  have CB := Lib.hid fun (W : World) (hW : Below w.heap.size w W) (k : Int) => behind_any (hr.below hW) k
  have CR := Lib.hid fun (W : World) (hW : Below w.heap.size w W) => rrunes_any (hr.below hW)
  have HP := Lib.hid hp
  have HLB := Lib.hid hlb
  clear hr hp hlb
  have hbl : (brks ps.flatten : Int) ≤ 20000 := by have h2 : brks ps.flatten ≤ ps.flatten.length := List.countP_le_length; omega
  have x1 : Below w.heap.size w (w.alloc (.cells #[.int .i64 0, .int .i64 0] 50)) := (Below.refl _ _).alloc (Nat.le_refl _) _
  have R0 : RawAt 50 (w.alloc (.cells #[.int .i64 0, .int .i64 0] 50)) w.heap.size #[.int .i64 0, .int .i64 0] := heap_alloc_new w _
  have P1 := RawAt.below HP.out x1 (RawAt.lt HP.out)
  have e0 := RawAt.cell P1 0
  simp at e0
  go_enter Try.func74, Try.ntmps74
  go_wp2_with fail
  generalize w.alloc (.cells #[.int .i64 0, .int .i64 0] 50) = W1 at *
  clear P1 e0
  have HR0 := Lib.hid R0
  clear R0
  refine (CB.out _ x1 row).mono ?_
  rintro e w2 ⟨a, d, hi, rfl, hb2⟩
  have a2 := x1.trans (hb2.mono x1.size)
  have R2 := RawAt.below HR0.out hb2 (RawAt.lt HR0.out)
  have f0 := RawAt.free R2 0
  have f1 := RawAt.free R2 1
  have p0 := RawAt.cell R2 0
  have p1 := RawAt.cell R2 1
  simp at p0 p1
  have L2 := RawAt.cell (RawAt.below HLB.out a2 (RawAt.lt HLB.out)) 0
  have P2 := RawAt.cell (RawAt.below HP.out a2 (RawAt.lt HP.out)) 0
  simp at L2 P2
  have HR2 := Lib.hid R2
  clear R2
  rcases hi with ⟨h1, rfl, rfl⟩ | ⟨h1, h2, j, hj, rfl, rfl⟩
  · have H := Lib.hid (show SpanIs ps.flatten row 0 0 1 from .inl ⟨h1, rfl, rfl, rfl⟩)
    clear h1
    go_wp2
    refine bodyPost_ret (v := .tuple #[.agg #[.int .i64 0, .int .i64 0], .int .i64 1]) (by simp [results, Try.results74, go_sem, p0, p1]) rfl ⟨0, 0, 1, H.out, rfl, ?_⟩
    (repeat' (first | (with_reducible exact a2) | (with_reducible refine Below.setCell ?_ ?_ _) | (with_reducible refine Below.drew ?_))) <;> (simp; done)
  · have HJ := Lib.hid hj
    have hjl := hj.le
    clear hj
    by_cases hlast : row = (brks ps.flatten : Int)
    · have H := Lib.hid (show SpanIs ps.flatten row j ps.flatten.length 0 from .inr ⟨h1, h2, rfl, j, HJ.out, rfl, .inl ⟨hlast, rfl⟩⟩)
      have CR2 := Lib.hid (CR.out _ a2)
      rw [← hlast] at L2
      clear hlast h2 hbl
      generalize hn : (ps.flatten.length : Int) = n at *
      have HN := Lib.hid hn
      clear hn
      go_wp2_with fail
      refine CR2.out.mono ?_
      rintro e w3 ⟨rfl, hb3⟩
      have a3 := a2.trans (hb3.mono a2.size)
      have R3 := RawAt.below HR2.out hb3 (RawAt.lt HR2.out)
      clear f0 f1 p0 p1
      have f0 := RawAt.free R3 0
      have f1 := RawAt.free R3 1
      have p0 := RawAt.cell R3 0
      have p1 := RawAt.cell R3 1
      simp at p0 p1
      clear R3
      go_wp2
      refine bodyPost_ret (v := .tuple #[.agg #[.int .i64 j, .int .i64 n], .int .i64 0]) (by simp [results, Try.results74, go_sem, p0, p1]) rfl ⟨j, n, 0, by rw [← HN.out]; rw [← HN.out] at H; exact H.out, rfl, ?_⟩
      (repeat' (first | (with_reducible exact a3) | (with_reducible refine Below.setCell ?_ ?_ _) | (with_reducible refine Below.drew ?_))) <;> (simp; done)
    · have hbe : (row == (brks ps.flatten : Int)) = false := by simpa using hlast
      have hlt : row < (brks ps.flatten : Int) := by omega
      have CB3 := Lib.hid (CB.out _ a2 (row + 1))
      have HG := Lib.hid (show 0 ≤ row ∧ row < (brks ps.flatten : Int) from ⟨h1, hlt⟩)
      have hw : IntKind.i64.wrap (row + 1) = row + 1 := IntWalk.i64_in _ (by omega)
      have hrow : row ≤ 20000 := by omega
      generalize hbn : (brks ps.flatten : Int) = bn at *
      have HBN := Lib.hid hbn
      clear hlast hbn h2 hlt
      go_wp2_with fail
      refine CB3.out.mono ?_
      rintro e w3 ⟨a, d, hi3, rfl, hb3⟩
      have a3 := a2.trans (hb3.mono a2.size)
      have R3 := RawAt.below HR2.out hb3 (RawAt.lt HR2.out)
      clear f0 f1 p0 p1
      have f0 := RawAt.free R3 0
      have f1 := RawAt.free R3 1
      have p0 := RawAt.cell R3 0
      have p1 := RawAt.cell R3 1
      simp at p0 p1
      clear R3
      rcases hi3 with ⟨g1, _, _⟩ | ⟨g1, g2, j', hj', rfl, rfl⟩
      · exact absurd ⟨by have := HG.out; omega, by rw [HBN.out]; have := HG.out; omega⟩ g1
      have hjl' := hj'.le
      have H := Lib.hid (show SpanIs ps.flatten row j ((j' : Int) - 1) 0 from .inr ⟨HG.out.1, by rw [HBN.out]; have := HG.out; omega, rfl, j, HJ.out, rfl, .inr ⟨by rw [HBN.out]; exact HG.out.2, j', hj', rfl⟩⟩)
      clear hj' g1 g2
      have hw2 : IntKind.i64.wrap ((j' : Int) - 1) = (j' : Int) - 1 := IntWalk.i64_in _ (by omega)
      go_wp2
      refine bodyPost_ret (v := .tuple #[.agg #[.int .i64 j, .int .i64 ((j' : Int) - 1)], .int .i64 0]) (by simp [results, Try.results74, go_sem, p0, p1]) rfl ⟨j, (j' : Int) - 1, 0, H.out, rfl, ?_⟩
      (repeat' (first | (with_reducible exact a3) | (with_reducible refine Below.setCell ?_ ?_ _) | (with_reducible refine Below.drew ?_))) <;> (simp; done)
end
theorem brks_le (l : List Int) : brks l ≤ l.length := List.countP_le_length
section
variable {p : Option Addr} {ps : List (List Int)} {h : Nat} {w : World}
set_option maxHeartbeats 4000000 in
set_option maxRecDepth 100000 in
theorem lspans_any (hr : RP w p ps h) : Calls Try.prog 52 #[.pointer p] w fun e w' => ∃ pb lb, e = .returned (.func (.func 74) #[] #[.pointer (some ⟨pb, 0, none⟩), .pointer (some ⟨lb, 0, none⟩)]) ∧ RawAt 23 w' pb #[.pointer p] ∧ RawAt 3 w' lb #[.int .i64 (brks ps.flatten : Int)] ∧ Below w.heap.size w w' := by
  have hmf : ∀ (fn : Fn) (first cap : Array Value) (w : World), (Instr.makeFunc fn first cap).run Try.prog w = .ok (.func fn first cap) w := fun _ _ _ _ => rfl
  have C1 := Lib.hid fun (W : World) (hW : Below w.heap.size w W) => lrows_any (hr.below hW)
  have hb : (brks ps.flatten : Int) ≤ 20000 := by have := hr.1.most; have h2 := brks_le ps.flatten; omega
  have hb0 : (0 : Int) ≤ (brks ps.flatten : Int) := by omega
  clear hr
  generalize (brks ps.flatten : Int) = n at *
  have x1 : Below w.heap.size w (w.alloc (.cells #[.pointer p] 23)) := (Below.refl _ _).alloc (Nat.le_refl _) _
  have R0 : RawAt 23 (w.alloc (.cells #[.pointer p] 23)) w.heap.size #[.pointer p] := heap_alloc_new w _
  have e0 := RawAt.cell R0 0
  simp at e0
  have HR0 := Lib.hid R0
  clear R0
  go_enter Try.func52, Try.ntmps52
  go_wp2_with fail
  refine (C1.out _ x1).mono ?_
  rintro e w1 ⟨rfl, hb1⟩
  have HR1 := Lib.hid (RawAt.below HR0.out hb1 (RawAt.lt HR0.out))
  have a1 := x1.trans (hb1.mono x1.size)
  have x2 : Below w1.heap.size w1 (w1.alloc (.cells #[.int .i64 n] 3)) := (Below.refl _ _).alloc (Nat.le_refl _) _
  have HR2 := Lib.hid (RawAt.below HR1.out x2 (RawAt.lt HR1.out))
  have HL2 := Lib.hid (show RawAt 3 (w1.alloc (.cells #[.int .i64 n] 3)) w1.heap.size #[.int .i64 n] from heap_alloc_new w1 _)
  have a2 := a1.trans (x2.mono a1.size)
  clear x2 x1 e0
  have hw : IntKind.i64.wrap (n + 1 - 1) = n := by rw [show n + 1 - 1 = n from by omega]; exact IntWalk.i64_in _ (by omega)
  have hw' : n + 1 - 1 = n := by omega
  go_wp2
  go_ret
  exact ⟨w.heap.size, w1.heap.size, rfl, HR2.out, HL2.out, a2⟩
set_option maxHeartbeats 4000000 in
set_option maxRecDepth 100000 in
theorem lspan_any (hr : RP w p ps h) (row : Int) : Calls Try.prog 23 #[.pointer p, .int .i64 row] w fun e w' => ∃ f t d, SpanIs ps.flatten row f t d ∧ e = .returned (.tuple #[.agg #[.int .i64 f, .int .i64 t], .int .i64 d]) ∧ Below w.heap.size w w' := by
  have C1 := Lib.hid fun (W : World) (hW : Below w.heap.size w W) => lspans_any (hr.below hW)
  have HR := Lib.hid hr
  clear hr
  have x1 : Below w.heap.size w (w.alloc (.cells #[.int .i64 0, .int .i64 0] 50)) := (Below.refl _ _).alloc (Nat.le_refl _) _
  have R0 : RawAt 50 (w.alloc (.cells #[.int .i64 0, .int .i64 0] 50)) w.heap.size #[.int .i64 0, .int .i64 0] := heap_alloc_new w _
  go_enter Try.func23, Try.ntmps23
  go_wp2_with fail
  generalize w.alloc (.cells #[.int .i64 0, .int .i64 0] 50) = W1 at *
  have HR0 := Lib.hid R0
  clear R0
  refine (C1.out _ x1).mono ?_
  rintro e w2 ⟨pb, lb, rfl, hp, hl, hb2⟩
  have a2 := x1.trans (hb2.mono x1.size)
  have R2 := Lib.hid (RawAt.below HR0.out hb2 (RawAt.lt HR0.out))
  have C2 := Lib.hid (spn_any (HR.out.below a2) pb lb hp hl row)
  clear hp hl
  go_wp2_with fail
  refine C2.out.mono ?_
  rintro e w3 ⟨f, t, d, hi, rfl, hb3⟩
  have HI := Lib.hid hi
  clear hi
  have a3 := a2.trans (hb3.mono a2.size)
  have R3 := RawAt.below R2.out hb3 (RawAt.lt R2.out)
  have f0 := RawAt.free R3 0
  have f1 := RawAt.free R3 1
  have p0 := RawAt.cell R3 0
  have p1 := RawAt.cell R3 1
  simp at p0 p1
  clear R3
  go_wp2
  refine bodyPost_ret (v := .tuple #[.agg #[.int .i64 f, .int .i64 t], .int .i64 d]) (by simp [results, Try.results23, go_sem, p0, p1]) rfl ⟨f, t, d, HI.out, rfl, ?_⟩
  (repeat' (first | (with_reducible exact a3) | (with_reducible refine Below.setCell ?_ ?_ _) | (with_reducible refine Below.drew ?_))) <;> (simp; done)
/-- What is told of a place. -/
def PointIs (l : List Int) (at_ r c e : Int) : Prop :=
  (¬ (0 ≤ at_ ∧ at_ ≤ l.length) ∧ r = 0 ∧ c = 0 ∧ e = 1) ∨ (0 ≤ at_ ∧ at_ ≤ l.length ∧ e = 0 ∧ r = szl (l.take at_.toNat) 2 ∧ ∃ j : Nat, AheadIs l 2 r j ∧ c = at_ - j)
theorem PointIs.unique {l : List Int} {t r c e r' c' e' : Int} (h : PointIs l t r c e) (g : PointIs l t r' c' e') : r = r' ∧ c = c' ∧ e = e' := by
  rcases h with ⟨h1, rfl, rfl, rfl⟩ | ⟨h1, h2, rfl, rfl, j, hj, rfl⟩ <;> rcases g with ⟨g1, rfl, rfl, rfl⟩ | ⟨g1, g2, rfl, rfl, k, hk, rfl⟩
  · exact ⟨rfl, rfl, rfl⟩
  · exact absurd ⟨g1, g2⟩ h1
  · exact absurd ⟨h1, h2⟩ g1
  · obtain rfl := hj.unique hk
    exact ⟨rfl, rfl, rfl⟩
set_option maxHeartbeats 4000000 in
set_option maxRecDepth 100000 in
theorem lpoint_any (hr : RP w p ps h) (at_ : Int) : Calls Try.prog 9 #[.pointer p, .int .i64 at_] w fun e w' => ∃ r c d, PointIs ps.flatten at_ r c d ∧ e = .returned (.tuple #[.agg #[.int .i64 r, .int .i64 c], .int .i64 d]) ∧ Below w.heap.size w w' := by
  have hmost := hr.1.most
  have CA := Lib.hid fun (W : World) (hW : Below w.heap.size w W) => raheadOf_any (hr.below hW) at_
  have CB := Lib.hid fun (W : World) (hW : Below w.heap.size w W) (k : Int) => behind_any (hr.below hW) k
  clear hr
  have x1 : Below w.heap.size w (w.alloc (.cells #[.int .i64 0, .int .i64 0] 28)) := (Below.refl _ _).alloc (Nat.le_refl _) _
  have R0 : RawAt 28 (w.alloc (.cells #[.int .i64 0, .int .i64 0] 28)) w.heap.size #[.int .i64 0, .int .i64 0] := heap_alloc_new w _
  go_enter Try.func9, Try.ntmps9
  go_wp2_with fail
  generalize w.alloc (.cells #[.int .i64 0, .int .i64 0] 28) = W1 at *
  have HR0 := Lib.hid R0
  clear R0
  refine (CA.out _ x1).mono ?_
  rintro e w2 ⟨a, d, hi, rfl, hb2⟩
  have a2 := x1.trans (hb2.mono x1.size)
  have R2 := RawAt.below HR0.out hb2 (RawAt.lt HR0.out)
  have HR2 := Lib.hid R2
  rcases hi with ⟨h1, rfl, rfl⟩ | ⟨h1, h2, rfl, rfl⟩
  · have H := Lib.hid (show PointIs ps.flatten at_ 0 0 1 from .inl ⟨h1, rfl, rfl, rfl⟩)
    have f0 := RawAt.free R2 0
    have f1 := RawAt.free R2 1
    have p0 := RawAt.cell R2 0
    have p1 := RawAt.cell R2 1
    simp at p0 p1
    clear h1 R2
    go_wp2
    refine bodyPost_ret (v := .tuple #[.agg #[.int .i64 0, .int .i64 0], .int .i64 1]) (by simp [results, Try.results9, go_sem, p0, p1]) rfl ⟨0, 0, 1, H.out, rfl, ?_⟩
    (repeat' (first | (with_reducible exact a2) | (with_reducible refine Below.setCell ?_ ?_ _) | (with_reducible refine Below.drew ?_))) <;> (simp; done)
  · have hz0 := szl_nonneg (ps.flatten.take at_.toNat) 2
    have hz1 : szl (ps.flatten.take at_.toNat) 2 ≤ (brks ps.flatten : Int) := by
      have := szl_mono ps.flatten 2 (show at_.toNat ≤ ps.flatten.length by omega)
      rwa [szl_all] at this
    have CB2 := Lib.hid (CB.out _ a2 (szl (ps.flatten.take at_.toNat) 2))
    clear R2
    generalize hz : szl (ps.flatten.take at_.toNat) 2 = z at *
    have HZ := Lib.hid hz
    clear hz
    go_wp2_with fail
    refine CB2.out.mono ?_
    rintro e w3 ⟨b, d, hi3, rfl, hb3⟩
    have a3 := a2.trans (hb3.mono a2.size)
    have R3 := RawAt.below HR2.out hb3 (RawAt.lt HR2.out)
    have f0 := RawAt.free R3 0
    have f1 := RawAt.free R3 1
    have p0 := RawAt.cell R3 0
    have p1 := RawAt.cell R3 1
    simp at p0 p1
    clear R3
    rcases hi3 with ⟨g1, _, _⟩ | ⟨g1, g2, j, hj, rfl, rfl⟩
    · exact absurd ⟨hz0, hz1⟩ g1
    have hjl := hj.le
    have H := Lib.hid (show PointIs ps.flatten at_ z (at_ - (j : Int)) 0 from .inr ⟨h1, h2, rfl, HZ.out.symm, j, hj, rfl⟩)
    have hw : IntKind.i64.wrap (at_ - (j : Int)) = at_ - (j : Int) := IntWalk.i64_in _ (by omega)
    have hw2 : wrap64 (at_ - (j : Int)) = at_ - (j : Int) := IntWalk.wrap64_in _ ⟨by omega, by omega⟩
    clear hj g1 g2 hz0 hz1
    go_wp2
    refine bodyPost_ret (v := .tuple #[.agg #[.int .i64 z, .int .i64 (at_ - (j : Int))], .int .i64 0]) (by simp [results, Try.results9, go_sem, p0, p1]) rfl ⟨z, at_ - (j : Int), 0, H.out, rfl, ?_⟩
    (repeat' (first | (with_reducible exact a3) | (with_reducible refine Below.setCell ?_ ?_ _) | (with_reducible refine Below.drew ?_))) <;> (simp; done)
end
theorem span_bd {l : List Int} {r f t d : Int} (h : SpanIs l r f t d) : 0 ≤ f ∧ f ≤ l.length ∧ -1 ≤ t ∧ t ≤ l.length ∧ (d = 0 ∨ d = 1) := by
  rcases h with ⟨_, rfl, rfl, rfl⟩ | ⟨_, _, rfl, j, hj, rfl, ⟨_, rfl⟩ | ⟨_, k, hk, rfl⟩⟩
  · omega
  · have := hj.le; omega
  · have := hj.le; have := hk.le; omega
/-- What is told of a point. -/
def PlaceIs (l : List Int) (r c n e : Int) : Prop := ∃ f t d, SpanIs l r f t d ∧ ((d = 1 ∧ n = 0 ∧ e = 1) ∨ (d = 0 ∧ ¬ (0 ≤ c ∧ c ≤ t - f) ∧ n = 0 ∧ e = 1) ∨ (d = 0 ∧ 0 ≤ c ∧ c ≤ t - f ∧ n = f + c ∧ e = 0))
theorem PlaceIs.unique {l : List Int} {r c n e n' e' : Int} (h : PlaceIs l r c n e) (g : PlaceIs l r c n' e') : n = n' ∧ e = e' := by
  obtain ⟨f, t, d, h1, h2⟩ := h
  obtain ⟨f', t', d', g1, g2⟩ := g
  obtain ⟨rfl, rfl, rfl⟩ := h1.unique g1
  rcases h2 with ⟨h3, rfl, rfl⟩ | ⟨h3, h4, rfl, rfl⟩ | ⟨h3, h4, h5, rfl, rfl⟩ <;> rcases g2 with ⟨g3, rfl, rfl⟩ | ⟨g3, g4, rfl, rfl⟩ | ⟨g3, g4, g5, rfl, rfl⟩ <;> first | exact ⟨rfl, rfl⟩ | omega | exact absurd ⟨by assumption, by assumption⟩ (by assumption)
/-- What a point is clipped to. -/
def ClipIs (l : List Int) (r c a b : Int) : Prop := (r < 0 ∧ a = 0 ∧ b = 0) ∨ (0 ≤ r ∧ (brks l : Int) < r ∧ PointIs l l.length a b 0) ∨ (0 ≤ r ∧ r ≤ brks l ∧ ∃ f t, SpanIs l r f t 0 ∧ a = r ∧ b = min (max c 0) (t - f))
theorem ClipIs.unique {l : List Int} {r c a b a' b' : Int} (h : ClipIs l r c a b) (g : ClipIs l r c a' b') : a = a' ∧ b = b' := by
  rcases h with ⟨h1, rfl, rfl⟩ | ⟨h1, h2, h3⟩ | ⟨h1, h2, f, t, h3, rfl, rfl⟩ <;> rcases g with ⟨g1, rfl, rfl⟩ | ⟨g1, g2, g3⟩ | ⟨g1, g2, f', t', g3, rfl, rfl⟩ <;> first | exact ⟨rfl, rfl⟩ | omega | skip
  · obtain ⟨rfl, rfl, _⟩ := h3.unique g3
    exact ⟨rfl, rfl⟩
  · obtain ⟨rfl, rfl, _⟩ := h3.unique g3
    exact ⟨rfl, rfl⟩
section
variable {p : Option Addr} {ps : List (List Int)} {h : Nat} {w : World}
set_option maxHeartbeats 4000000 in
set_option maxRecDepth 100000 in
theorem lplace_any (hr : RP w p ps h) (r c : Int) (hc0 : -9223372036854775808 ≤ c) (hc1 : c ≤ 9223372036854775807) : Calls Try.prog 10 #[.pointer p, .agg #[.int .i64 r, .int .i64 c]] w fun e w' => ∃ n d, PlaceIs ps.flatten r c n d ∧ e = .returned (.tuple #[.int .i64 n, .int .i64 d]) ∧ Below w.heap.size w w' := by
  have hmost := hr.1.most
  have CS := Lib.hid fun (W : World) (hW : Below w.heap.size w W) => lspan_any (hr.below hW) r
  clear hr
  have x1 : Below w.heap.size w (w.alloc (.cells #[.int .i64 r, .int .i64 c] 28)) := (Below.refl _ _).alloc (Nat.le_refl _) _
  have R0 : RawAt 28 (w.alloc (.cells #[.int .i64 r, .int .i64 c] 28)) w.heap.size #[.int .i64 r, .int .i64 c] := heap_alloc_new w _
  have e0 := RawAt.cell R0 0
  simp at e0
  go_enter Try.func10, Try.ntmps10
  go_wp2_with fail
  generalize w.alloc (.cells #[.int .i64 r, .int .i64 c] 28) = W1 at *
  have HR0 := Lib.hid R0
  clear R0 e0
  refine (CS.out _ x1).mono ?_
  rintro e w2 ⟨f, t, d, hi, rfl, hb2⟩
  have a2 := x1.trans (hb2.mono x1.size)
  have HR2 := Lib.hid (RawAt.below HR0.out hb2 (RawAt.lt HR0.out))
  obtain ⟨b1, b2, b3, b4, b5⟩ := span_bd hi
  have x3 : Below w2.heap.size w2 (w2.alloc (.cells #[.int .i64 f, .int .i64 t] 50)) := (Below.refl _ _).alloc (Nat.le_refl _) _
  have RS : RawAt 50 (w2.alloc (.cells #[.int .i64 f, .int .i64 t] 50)) w2.heap.size #[.int .i64 f, .int .i64 t] := heap_alloc_new w2 _
  have R3 := RawAt.below HR2.out x3 (RawAt.lt HR2.out)
  have s0 := RawAt.cell RS 0
  have s1 := RawAt.cell RS 1
  have q1 := RawAt.cell R3 1
  simp at s0 s1 q1
  have a3 := a2.trans (x3.mono a2.size)
  clear RS R3 x3
  have hlen : (ps.flatten.length : Int) ≤ 20000 := by omega
  have b2' : f ≤ 20000 := by omega
  have b4' : t ≤ 20000 := by omega
  rcases b5 with rfl | rfl
  · by_cases hcn : c < 0
    · have H := Lib.hid (show PlaceIs ps.flatten r c 0 1 from ⟨f, t, 0, hi, .inr (.inl ⟨rfl, fun h => by omega, rfl, rfl⟩)⟩)
      clear hi b2 b4 hlen
      go_wp2
      refine bodyPost_ret (v := .tuple #[.int .i64 0, .int .i64 1]) (by simp [results, Try.results10, go_sem]) rfl ⟨_, _, H.out, rfl, a3⟩
    · have hw : IntKind.i64.wrap (t - f) = t - f := IntWalk.i64_in _ (by omega)
      by_cases hcg : t - f < c
      · have H := Lib.hid (show PlaceIs ps.flatten r c 0 1 from ⟨f, t, 0, hi, .inr (.inl ⟨rfl, fun h => by omega, rfl, rfl⟩)⟩)
        clear hi b2 b4 hlen
        go_wp2
        refine bodyPost_ret (v := .tuple #[.int .i64 0, .int .i64 1]) (by simp [results, Try.results10, go_sem]) rfl ⟨_, _, H.out, rfl, a3⟩
      · have H := Lib.hid (show PlaceIs ps.flatten r c (f + c) 0 from ⟨f, t, 0, hi, .inr (.inr ⟨rfl, by omega, by omega, rfl, rfl⟩)⟩)
        have hw2 : IntKind.i64.wrap (f + c) = f + c := IntWalk.i64_in _ (by omega)
        clear hi b2 b4 hlen
        go_wp2
        refine bodyPost_ret (v := .tuple #[.int .i64 (f + c), .int .i64 0]) (by simp [results, Try.results10, go_sem]) rfl ⟨_, _, H.out, rfl, a3⟩
  · have H := Lib.hid (show PlaceIs ps.flatten r c 0 1 from ⟨f, t, 1, hi, .inl ⟨rfl, rfl, rfl⟩⟩)
    clear hi b2 b4 hlen
    go_wp2
    refine bodyPost_ret (v := .tuple #[.int .i64 0, .int .i64 1]) (by simp [results, Try.results10, go_sem]) rfl ⟨_, _, H.out, rfl, a3⟩
set_option maxHeartbeats 4000000 in
set_option maxRecDepth 100000 in
theorem lclip_any (hr : RP w p ps h) (r c : Int) (_hc0 : -9223372036854775808 ≤ c) (_hc1 : c ≤ 9223372036854775807) : Calls Try.prog 18 #[.pointer p, .agg #[.int .i64 r, .int .i64 c]] w fun e w' => ∃ a b, ClipIs ps.flatten r c a b ∧ e = .returned (.agg #[.int .i64 a, .int .i64 b]) ∧ Below w.heap.size w w' := by
  have hmost := hr.1.most
  have hbr := brks_le ps.flatten
  have CN := Lib.hid fun (W : World) (hW : Below w.heap.size w W) => lrows_any (hr.below hW)
  have CS := Lib.hid fun (W : World) (hW : Below w.heap.size w W) => lspan_any (hr.below hW) r
  have CR := Lib.hid fun (W : World) (hW : Below w.heap.size w W) => rrunes_any (hr.below hW)
  have CP := Lib.hid fun (W : World) (hW : Below w.heap.size w W) => lpoint_any (hr.below hW) ps.flatten.length
  clear hr
  have x1 := (Below.refl w.heap.size w).alloc (Nat.le_refl _) (.cells #[.int .i64 r, .int .i64 c] 28)
  have x2 := x1.alloc x1.size (.cells #[.int .i64 0, .int .i64 0] 28)
  obtain ⟨R0, R1, _, hz2⟩ := new2 w 28 28 #[.int .i64 r, .int .i64 c] #[.int .i64 0, .int .i64 0]
  have HR0 := Lib.hid R0
  have HR1 := Lib.hid R1
  clear R0 R1 hz2
  have hbn0 : (0 : Int) ≤ (brks ps.flatten : Int) := by omega
  have hbn1 : (brks ps.flatten : Int) ≤ 20000 := by omega
  have hdef : Hid (∀ a b, ClipIs ps.flatten r c a b ↔ ((r < 0 ∧ a = 0 ∧ b = 0) ∨ (0 ≤ r ∧ (brks ps.flatten : Int) < r ∧ PointIs ps.flatten ps.flatten.length a b 0) ∨ (0 ≤ r ∧ r ≤ brks ps.flatten ∧ ∃ f t, SpanIs ps.flatten r f t 0 ∧ a = r ∧ b = min (max c 0) (t - f)))) := fun a b => Iff.rfl
  generalize hbn : (brks ps.flatten : Int) = bn at *
  have HBN := Lib.hid hbn
  clear hbn hbr
  have hln0 : (0 : Int) ≤ (ps.flatten.length : Int) := by omega
  have hln1 : (ps.flatten.length : Int) ≤ 20000 := by omega
  generalize hln : (ps.flatten.length : Int) = ln at *
  have HLN := Lib.hid hln
  clear hln
  go_enter Try.func18, Try.ntmps18
  go_wp2_with fail
  generalize ((w.alloc (.cells #[.int .i64 r, .int .i64 c] 28)).alloc (.cells #[.int .i64 0, .int .i64 0] 28)) = W2 at *
  refine (CN.out _ x2).mono ?_
  rintro e w3 ⟨rfl, hb3⟩
  have a3 := x2.trans (hb3.mono x2.size)
  have HA3 := Lib.hid (RawAt.below HR0.out hb3 (RawAt.lt HR0.out))
  have HB3 := Lib.hid (RawAt.below HR1.out hb3 (RawAt.lt HR1.out))
  have hw : bn + 1 - 1 = bn := by omega
  have hww : IntKind.i64.wrap (bn + 1 - 1) = bn := by rw [hw]; exact IntWalk.i64_in _ (by omega)
  have q0 := RawAt.cell HA3.out 0
  have q1 := RawAt.cell HA3.out 1
  have f0 := RawAt.free HB3.out 0
  have f1 := RawAt.free HB3.out 1
  have p0 := RawAt.cell HB3.out 0
  have p1 := RawAt.cell HB3.out 1
  simp at q0 q1 p0 p1
  by_cases hn : r < 0
  · have H := Lib.hid ((hdef.out 0 0).2 (.inl ⟨hn, rfl, rfl⟩))
    go_wp2
    refine bodyPost_ret (v := .agg #[.int .i64 0, .int .i64 0]) (by simp [results, Try.results18, go_sem, p0, p1]) rfl ⟨0, 0, H.out, rfl, ?_⟩
    (repeat' (first | (with_reducible exact a3) | (with_reducible refine Below.setCell ?_ ?_ _) | (with_reducible refine Below.drew ?_))) <;> (simp; done)
  by_cases hg : bn < r
  · go_wp2_with fail
    refine (CR.out _ a3).mono ?_
    rintro e w4 ⟨rfl, hb4⟩
    have a4 := a3.trans (hb4.mono a3.size)
    have HB4 := Lib.hid (RawAt.below HB3.out hb4 (RawAt.lt HB3.out))
    clear f0 f1 p0 p1
    go_wp2_with fail
    refine (CP.out _ a4).mono ?_
    rintro e w5 ⟨x, y, d, hi, rfl, hb5⟩
    have a5 := a4.trans (hb5.mono a4.size)
    have hd : d = 0 := by
      rcases hi with ⟨h1, _, _, _⟩ | ⟨_, _, h3, _⟩
      · exact absurd ⟨hln0, by rw [HLN.out]; exact Int.le_refl _⟩ h1
      · exact h3
    subst hd
    have H := Lib.hid ((hdef.out x y).2 (.inr (.inl ⟨by omega, hg, hi⟩)))
    clear hi
    have HB5 := Lib.hid (RawAt.below HB4.out hb5 (RawAt.lt HB4.out))
    have x6 : Below w5.heap.size w5 (w5.alloc (.cells #[.int .i64 x, .int .i64 y] 28)) := (Below.refl _ _).alloc (Nat.le_refl _) _
    have R6 : RawAt 28 (w5.alloc (.cells #[.int .i64 x, .int .i64 y] 28)) w5.heap.size #[.int .i64 x, .int .i64 y] := heap_alloc_new w5 _
    have HB6 := RawAt.below HB5.out x6 (RawAt.lt HB5.out)
    have s0 := RawAt.cell R6 0
    have s1 := RawAt.cell R6 1
    have f0 := RawAt.free HB6 0
    have f1 := RawAt.free HB6 1
    have p0 := RawAt.cell HB6 0
    have p1 := RawAt.cell HB6 1
    simp at s0 s1 p0 p1
    have a6 := a5.trans (x6.mono a5.size)
    clear R6 HB6 x6
    go_wp2
    refine bodyPost_ret (v := .agg #[.int .i64 x, .int .i64 y]) (by simp [results, Try.results18, go_sem, p0, p1]) rfl ⟨x, y, H.out, rfl, ?_⟩
    (repeat' (first | (with_reducible exact a6) | (with_reducible refine Below.setCell ?_ ?_ _) | (with_reducible refine Below.drew ?_))) <;> (simp; done)
  · have HG := Lib.hid (show 0 ≤ r ∧ r ≤ bn from ⟨by omega, by omega⟩)
    go_wp2_with fail
    refine (CS.out _ a3).mono ?_
    rintro e w4 ⟨f, t, d, hi, rfl, hb4⟩
    have a4 := a3.trans (hb4.mono a3.size)
    obtain ⟨b1, b2, b3, b4, b5⟩ := span_bd hi
    have hd : d = 0 := by
      rcases hi with ⟨h1, _, _, _⟩ | ⟨_, _, h3, _⟩
      · exact absurd ⟨HG.out.1, by rw [HBN.out]; exact HG.out.2⟩ h1
      · exact h3
    subst hd
    have H := Lib.hid ((hdef.out r (min (max c 0) (t - f))).2 (.inr (.inr ⟨HG.out.1, by first | exact HG.out.2 | (rw [HBN.out]; exact HG.out.2), f, t, hi, rfl, rfl⟩)))
    rw [HLN.out] at b2 b4
    clear hi
    have HB4 := Lib.hid (RawAt.below HB3.out hb4 (RawAt.lt HB3.out))
    have HA4 := Lib.hid (RawAt.below HA3.out hb4 (RawAt.lt HA3.out))
    clear f0 f1 p0 p1 q0 q1 hw hww HG
    have x5 : Below w4.heap.size w4 (w4.alloc (.cells #[.int .i64 f, .int .i64 t] 50)) := (Below.refl _ _).alloc (Nat.le_refl _) _
    have R5 : RawAt 50 (w4.alloc (.cells #[.int .i64 f, .int .i64 t] 50)) w4.heap.size #[.int .i64 f, .int .i64 t] := heap_alloc_new w4 _
    have HB5 := RawAt.below HB4.out x5 (RawAt.lt HB4.out)
    have HA5 := RawAt.below HA4.out x5 (RawAt.lt HA4.out)
    have a5 := a4.trans (x5.mono a4.size)
    have s0 := RawAt.cell R5 0
    have s1 := RawAt.cell R5 1
    have q0 := RawAt.cell HA5 0
    have q1 := RawAt.cell HA5 1
    have f0 := RawAt.free HB5 0
    have f1 := RawAt.free HB5 1
    have p0 := RawAt.cell HB5 0
    have p1 := RawAt.cell HB5 1
    simp at s0 s1 q0 q1 p0 p1
    clear R5 HB5 HA5 x5
    have hw : wrap64 (t - f) = t - f := IntWalk.wrap64_in _ ⟨by omega, by omega⟩
    have hw2 : IntKind.i64.wrap (t - f) = t - f := IntWalk.i64_in _ (by omega)
    go_wp2
    all_goals
      refine bodyPost_ret (v := .agg #[.int .i64 r, .int .i64 (min (max c 0) (t - f))]) (by simp [results, Try.results18, go_sem, p0, p1] <;> omega) rfl ⟨r, _, H.out, rfl, ?_⟩
      (repeat' (first | (with_reducible exact a5) | (with_reducible refine Below.setCell ?_ ?_ _) | (with_reducible refine Below.drew ?_))) <;> (simp; done)
end
theorem two_dec : dec ⟨#[97, 98, 10, 99]⟩ = [97, 98, 10, 99] := by decide
theorem two_ah1 : AheadIs [97, 98, 10, 99] 2 1 3 := ⟨by decide, fun i hi => by
  have : i = 0 ∨ i = 1 ∨ i = 2 := by omega
  rcases this with rfl | rfl | rfl <;> decide, by decide⟩
theorem ah_zero (l : List Int) : AheadIs l 2 0 0 := ⟨Nat.zero_le _, fun i hi => by omega, by rw [List.take_zero, szl_nil]; exact Int.le_refl _⟩
theorem two_place : PlaceIs [97, 98, 10, 99] 1 1 4 0 := ⟨3, 4, 0, .inr ⟨by decide, by decide, rfl, 3, two_ah1, rfl, .inl ⟨by decide, rfl⟩⟩, .inr (.inr ⟨rfl, by decide, by decide, rfl, rfl⟩)⟩
theorem two_clip : ClipIs [97, 98, 10, 99] 0 9 0 2 := .inr (.inr ⟨by decide, by decide, 0, 2, .inr ⟨by decide, by decide, rfl, 0, ah_zero _, rfl, .inr ⟨by decide, 3, two_ah1, rfl⟩⟩, rfl, by decide⟩)
set_option maxHeartbeats 4000000 in
set_option maxRecDepth 100000 in
theorem two_any (w : World) : Calls Try.prog 6 #[] w fun e w' => e = .returned (.bool true) ∧ Below w.heap.size w w' := by
  have CN := Lib.hid (rnew_any ⟨#[97, 98, 10, 99]⟩ w (by decide) (by rw [two_dec]; decide))
  go_enter Try.func6, Try.ntmps6
  go_wp2_with fail
  refine CN.out.mono ?_
  rintro e w1 ⟨b, ps, h, rfl, hR, hf, hb1⟩
  rw [two_dec] at hf
  have C1 := Lib.hid fun (W : World) (hW : Below w1.heap.size w1 W) => (lplace_any (hR.below hW) 1 1 (by decide) (by decide)).mono fun e w' ⟨n, d, hi, he, hb⟩ => (by rw [hf] at hi; obtain ⟨rfl, rfl⟩ := hi.unique two_place; exact ⟨he, hb⟩ : e = Ending.returned (.tuple #[.int .i64 4, .int .i64 0]) ∧ Below W.heap.size W w')
  have C2 := Lib.hid fun (W : World) (hW : Below w1.heap.size w1 W) => (lclip_any (hR.below hW) 0 9 (by decide) (by decide)).mono fun e w' ⟨n, d, hi, he, hb⟩ => (by rw [hf] at hi; obtain ⟨rfl, rfl⟩ := hi.unique two_clip; exact ⟨he, hb⟩ : e = Ending.returned (.agg #[.int .i64 0, .int .i64 2]) ∧ Below W.heap.size W w')
  have C3 := Lib.hid fun (W : World) (hW : Below w1.heap.size w1 W) => (by have := lrows_any (hR.below hW); rwa [hf] at this : Calls Try.prog 11 #[.pointer (some ⟨b, 0, none⟩)] W fun e w' => e = .returned (.int .i64 2) ∧ Below W.heap.size W w')
  clear hR hf
  go_wp2_with fail
  refine (C1.out _ (Below.refl _ _)).mono ?_
  rintro e w2 ⟨rfl, hb2⟩
  go_wp2_with fail
  refine (C2.out _ hb2).mono ?_
  rintro e w3 ⟨rfl, hb3⟩
  have a3 := hb2.trans (hb3.mono hb2.size)
  go_wp2_with fail
  refine (C3.out _ a3).mono ?_
  rintro e w4 ⟨rfl, hb4⟩
  have a4 := a3.trans (hb4.mono a3.size)
  go_wp2_with fail
  go_ret
  exact ⟨rfl, hb1.trans (a4.mono hb1.size)⟩
theorem ahead_lt {l : List Int} {k : Int} {j j' : Nat} (h0 : 0 ≤ k) (h : AheadIs l 2 k j) (g : AheadIs l 2 (k + 1) j') : j < j' := by
  rcases Nat.lt_or_ge j j' with q | q
  · exact q
  · exfalso
    have h1 := szl_mono l 2 q
    have h2 := g.yes
    rcases Nat.eq_zero_or_pos j with rfl | hp
    · rw [List.take_zero, szl_nil] at h1; omega
    · have h3 := h.no (j - 1) (by omega)
      have h4 := nth_szl (q := l) (i := j - 1) (by have := h.le; omega) 2
      rw [show j - 1 + 1 = j from by omega, szl_one2] at h4
      split at h4 <;> omega
theorem span_nat {l : List Int} {r f t : Int} (h : SpanIs l r f t 0) : ∃ a b : Nat, f = a ∧ t = b ∧ a ≤ b ∧ b ≤ l.length := by
  rcases h with ⟨_, _, _, h4⟩ | ⟨h1, h2, _, j, hj, rfl, ⟨h3, rfl⟩ | ⟨h3, k, hk, rfl⟩⟩
  · cases h4
  · exact ⟨j, l.length, rfl, rfl, hj.le, Nat.le_refl _⟩
  · have := ahead_lt h1 hj hk
    exact ⟨j, k - 1, rfl, by omega, by omega, by have := hk.le; omega⟩
section
variable {p : Option Addr} {ps : List (List Int)} {h : Nat} {w : World}
end
theorem ahead_ex {l : List Int} {d : Nat} {v : Int} (h : v ≤ szl l d) : ∃ j, AheadIs l d v j := by
  have key : ∀ n, (∃ j, j ≤ n ∧ j ≤ l.length ∧ v ≤ szl (l.take j) d) → ∃ j, AheadIs l d v j := by
    intro n
    induction n with
    | zero => rintro ⟨j, hj, hl, hv⟩; exact ⟨j, hl, fun i hi => by omega, hv⟩
    | succ n ih =>
      rintro ⟨j, hj, hl, hv⟩
      by_cases hn : ∃ i, i < j ∧ v ≤ szl (l.take i) d
      · obtain ⟨i, hi, hv'⟩ := hn
        exact ih ⟨i, by omega, by omega, hv'⟩
      · exact ⟨j, hl, fun i hi => by
          rcases Int.lt_or_le (szl (l.take i) d) v with h9 | h9
          · exact h9
          · exact absurd ⟨i, hi, h9⟩ hn, hv⟩
  exact key l.length ⟨l.length, Nat.le_refl _, Nat.le_refl _, by rw [szl_all]; exact h⟩
theorem szl_le_brks {l : List Int} {j : Nat} (hj : j ≤ l.length) : szl (l.take j) 2 ≤ (brks l : Int) := by
  have hm := szl_mono l 2 hj
  rwa [szl_all, brks_szl] at hm
theorem point_ex {l : List Int} {j : Nat} (hj : j ≤ l.length) : ∃ r c, PointIs l j r c 0 := by
  obtain ⟨f, hf⟩ := ahead_ex (l := l) (d := 2) (v := szl (l.take j) 2) (by rw [brks_szl l]; exact szl_le_brks hj)
  exact ⟨_, _, .inr ⟨by omega, by omega, rfl, rfl, f, by rw [Int.toNat_natCast]; exact hf, rfl⟩⟩
theorem point_place {l : List Int} {j : Nat} (hj : j ≤ l.length) {r c : Int} (h : PointIs l j r c 0) : PlaceIs l r c j 0 := by
  rcases h with ⟨h1, _, _, h4⟩ | ⟨h1, h2, _, rfl, f, hf, rfl⟩
  · exact absurd h4 (by decide)
  rw [Int.toNat_natCast] at hf ⊢
  have hz := szl_nonneg (l.take j) 2
  have hm := szl_le_brks hj
  have hfj : f ≤ j := Nat.le_of_not_lt fun hlt => by have := hf.no j hlt; omega
  by_cases hb : szl (l.take j) 2 = brks l
  · exact ⟨f, l.length, 0, .inr ⟨hz, hm, rfl, f, hf, rfl, .inl ⟨hb, rfl⟩⟩, .inr (.inr ⟨rfl, by omega, by omega, by omega, rfl⟩)⟩
  · obtain ⟨k, hk⟩ := ahead_ex (l := l) (d := 2) (v := szl (l.take j) 2 + 1) (by rw [brks_szl l]; omega)
    have hjk : j < k := Nat.lt_of_not_le fun hle => by have := szl_mono l 2 hle; have := hk.yes; omega
    exact ⟨f, (k : Int) - 1, 0, .inr ⟨hz, hm, rfl, f, hf, rfl, .inr ⟨by omega, k, hk, rfl⟩⟩, .inr (.inr ⟨rfl, by omega, by omega, by omega, rfl⟩)⟩
theorem point_step {l : List Int} {j : Nat} (_hj : j < l.length) {r c r' c' : Int} (h : PointIs l j r c 0) (g : PointIs l (j + 1 : Nat) r' c' 0) : ¬ (r' < r) ∧ (r' = r → c < c') := by
  rcases h with ⟨_, _, _, h4⟩ | ⟨_, _, _, rfl, f, hf, rfl⟩
  · exact absurd h4 (by decide)
  rcases g with ⟨_, _, _, g4⟩ | ⟨_, _, _, rfl, f', hf', rfl⟩
  · exact absurd g4 (by decide)
  rw [Int.toNat_natCast] at hf ⊢
  rw [Int.toNat_natCast] at hf' ⊢
  have := szl_mono l 2 (show j ≤ j + 1 by omega)
  refine ⟨by omega, fun e => ?_⟩
  rw [e] at hf'
  obtain rfl := hf.unique hf'
  omega
theorem point_zero (l : List Int) : PointIs l (0 : Nat) 0 0 0 := .inr ⟨by omega, by omega, rfl, by simp [szl_nil], 0, ah_zero l, rfl⟩
theorem point_last {l : List Int} {r c : Int} (h : PointIs l l.length r c 0) : r = brks l := by
  rcases h with ⟨_, _, _, h4⟩ | ⟨_, _, _, rfl, _⟩
  · exact absurd h4 (by decide)
  rw [Int.toNat_natCast, szl_all, brks_szl]
theorem span_le {l : List Int} {r f t : Int} (h : SpanIs l r f t 0) : 0 ≤ r ∧ r ≤ brks l ∧ f ≤ t := by
  rcases h with ⟨_, _, _, h4⟩ | ⟨h1, h2, _, j, hj, rfl, ⟨_, rfl⟩ | ⟨_, k, hk, rfl⟩⟩
  · exact absurd h4 (by decide)
  · exact ⟨h1, h2, by have := hj.le; omega⟩
  · refine ⟨h1, h2, ?_⟩
    have : j < k := Nat.lt_of_not_le fun hle => by
      rcases Nat.lt_or_eq_of_le hle with h9 | h9
      · have := hj.no k h9; have := hk.yes; omega
      · subst h9
        rcases Nat.eq_zero_or_pos k with h0 | h0
        · subst h0; have := hk.yes; rw [List.take_zero, szl_nil] at this; omega
        · have h8 := hj.no (k - 1) (by omega)
          have h7 := hk.yes
          have h6 := nth_szl (q := l) (i := k - 1) (by have := hk.le; omega) 2
          rw [show k - 1 + 1 = k from by omega, szl_one2] at h6
          split at h6 <;> omega
    omega
theorem span_ex {l : List Int} {r : Int} (h0 : 0 ≤ r) (h1 : r ≤ brks l) : ∃ f t, SpanIs l r f t 0 := by
  obtain ⟨j, hj⟩ := ahead_ex (l := l) (d := 2) (v := r) (by rw [brks_szl l]; exact h1)
  by_cases hb : r = brks l
  · exact ⟨j, l.length, .inr ⟨h0, h1, rfl, j, hj, rfl, .inl ⟨hb, rfl⟩⟩⟩
  · obtain ⟨k, hk⟩ := ahead_ex (l := l) (d := 2) (v := r + 1) (by rw [brks_szl l]; omega)
    exact ⟨j, (k : Int) - 1, .inr ⟨h0, h1, rfl, j, hj, rfl, .inr ⟨by omega, k, hk, rfl⟩⟩⟩
theorem clip_place {l : List Int} {r k a b : Int} (h : ClipIs l r k a b) : ∃ n, PlaceIs l a b n 0 := by
  rcases h with ⟨_, rfl, rfl⟩ | ⟨_, _, h3⟩ | ⟨_, _, f, t, h3, rfl, rfl⟩
  · obtain ⟨f, t, hs⟩ := span_ex (l := l) (r := 0) (Int.le_refl _) (by omega)
    have := span_le hs
    exact ⟨_, f, t, 0, hs, .inr (.inr ⟨rfl, Int.le_refl _, by omega, rfl, rfl⟩)⟩
  · exact ⟨_, point_place (Nat.le_refl _) h3⟩
  · have := span_le h3
    exact ⟨_, f, t, 0, h3, .inr (.inr ⟨rfl, by omega, by omega, rfl, rfl⟩)⟩
theorem place_clip {l : List Int} {r k n : Int} (h : PlaceIs l r k n 0) : ClipIs l r k r k := by
  obtain ⟨f, t, d, hs, ⟨_, _, h3⟩ | ⟨_, _, _, h3⟩ | ⟨rfl, h1, h2, _, _⟩⟩ := h
  · exact absurd h3 (by decide)
  · exact absurd h3 (by decide)
  · have := span_le hs
    exact .inr (.inr ⟨this.1, this.2.1, f, t, hs, rfl, by omega⟩)
end Go.Proofs.Ytglalmhpgdgeeaa
