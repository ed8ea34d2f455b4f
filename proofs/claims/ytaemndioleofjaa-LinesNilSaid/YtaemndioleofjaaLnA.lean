/- Lines of ropes: the contracts of Rows, spans, Span. -/
import Derived.Test.YtaemndioleofjaaRopeAsk
import Derived.Shelf.Abstract
namespace Go.Proofs.Ytaemndioleofjaa
open Go.RowKit
/-- What is told of a row's places. -/
def SpanIs (l : List Int) (row f t e : Int) : Prop :=
  (¬ (0 ≤ row ∧ row ≤ brks l) ∧ f = 0 ∧ t = 0 ∧ e = 1) ∨ (0 ≤ row ∧ row ≤ brks l ∧ e = 0 ∧ ∃ j : Nat, AheadIs l 2 row j ∧ f = j ∧ ((row = brks l ∧ t = l.length) ∨ (row < brks l ∧ ∃ j' : Nat, AheadIs l 2 (row + 1) j' ∧ t = (j' : Int) - 1)))
theorem SpanIs.unique {l : List Int} {r f t e f' t' e' : Int} (h : SpanIs l r f t e) (g : SpanIs l r f' t' e') : f = f' ∧ t = t' ∧ e = e' := by
  rcases h with ⟨h1, rfl, rfl, rfl⟩ | ⟨h1, h2, rfl, j, hj, rfl, h3⟩ <;> rcases g with ⟨g1, rfl, rfl, rfl⟩ | ⟨g1, g2, rfl, k, hk, rfl, g3⟩
  · exact ⟨rfl, rfl, rfl⟩
  · exact absurd ⟨g1, g2⟩ h1
  · exact absurd ⟨h1, h2⟩ g1
  · obtain rfl := hj.unique hk
    refine ⟨rfl, ?_, rfl⟩
    rcases h3 with ⟨h4, rfl⟩ | ⟨h4, a, ha, rfl⟩ <;> rcases g3 with ⟨g4, rfl⟩ | ⟨g4, b, hb, rfl⟩
    · rfl
    · omega
    · omega
    · rw [ha.unique hb]
section
variable {p : Option Addr} {ps : List (List Int)} {h : Nat} {w : World}
theorem lrows_any (hr : RP w p ps h) : Calls Try.prog 24 #[.pointer p] w fun e w' => e = .returned (.int .i64 ((brks ps.flatten : Int) + 1)) ∧ Below w.heap.size w w' := by
  have C1 := Lib.hid (rbreaks_any hr)
  have hb : (brks ps.flatten : Int) ≤ 20000 := by have := hr.1.most; have h2 : brks ps.flatten ≤ ps.flatten.length := List.countP_le_length; omega
  clear hr
  have hb0 : (0 : Int) ≤ (brks ps.flatten : Int) := by omega
  generalize (brks ps.flatten : Int) = n at *
  go_enter Try.func24, Try.ntmps24
  go_wp2_with fail
  refine C1.out.mono ?_
  rintro e w1 ⟨rfl, hb1⟩
  go_wp2
  go_ret
  exact ⟨rfl, hb1⟩
set_option maxHeartbeats 4000000 in
set_option maxRecDepth 100000 in
theorem spn_any (hr : RP w p ps h) (pb lb : Nat) (hp : RawAt 23 w pb #[.pointer p]) (hlb : RawAt 3 w lb #[.int .i64 (brks ps.flatten : Int)]) (row : Int) :
    Calls Try.prog 73 #[.int .i64 row, .pointer (some ⟨pb, 0, none⟩), .pointer (some ⟨lb, 0, none⟩)] w fun e w' => ∃ f t d, SpanIs ps.flatten row f t d ∧ e = .returned (.tuple #[.agg #[.int .i64 f, .int .i64 t], .int .i64 d]) ∧ Below w.heap.size w w' := by
  have hmost := hr.1.most
  have CB := Lib.hid fun (W : World) (hW : Below w.heap.size w W) (k : Int) => behind_any (hr.below hW) k
  have CR := Lib.hid fun (W : World) (hW : Below w.heap.size w W) => rrunes_any (hr.below hW)
  have HP := Lib.hid hp
  have HLB := Lib.hid hlb
  clear hr hp hlb
  have hbl : (brks ps.flatten : Int) ≤ 20000 := by have h2 : brks ps.flatten ≤ ps.flatten.length := List.countP_le_length; omega
  have x1 : Below w.heap.size w (w.alloc (.cells #[.int .i64 0, .int .i64 0] 41)) := (Below.refl _ _).alloc (Nat.le_refl _) _
  have R0 : RawAt 41 (w.alloc (.cells #[.int .i64 0, .int .i64 0] 41)) w.heap.size #[.int .i64 0, .int .i64 0] := heap_alloc_new w _
  have P1 := RawAt.below HP.out x1 (RawAt.lt HP.out)
  have e0 := RawAt.cell P1 0
  simp at e0
  go_enter Try.func73, Try.ntmps73
  go_wp2_with fail
  generalize w.alloc (.cells #[.int .i64 0, .int .i64 0] 41) = W1 at *
  clear P1 e0
  have HR0 := Lib.hid R0
  clear R0
  refine (CB.out _ x1 row).mono ?_
  rintro e w2 ⟨a, d, hi, rfl, hb2⟩
  have a2 := x1.trans (hb2.mono x1.size)
  have R2 := RawAt.below HR0.out hb2 (RawAt.lt HR0.out)
  have f0 := RawAt.free R2 0
  have f1 := RawAt.free R2 1
  have p0 := RawAt.cell R2 0
  have p1 := RawAt.cell R2 1
  simp at p0 p1
  have L2 := RawAt.cell (RawAt.below HLB.out a2 (RawAt.lt HLB.out)) 0
  have P2 := RawAt.cell (RawAt.below HP.out a2 (RawAt.lt HP.out)) 0
  simp at L2 P2
  have HR2 := Lib.hid R2
  clear R2
  rcases hi with ⟨h1, rfl, rfl⟩ | ⟨h1, h2, j, hj, rfl, rfl⟩
  · have H := Lib.hid (show SpanIs ps.flatten row 0 0 1 from .inl ⟨h1, rfl, rfl, rfl⟩)
    clear h1
    go_wp2
    refine bodyPost_ret (v := .tuple #[.agg #[.int .i64 0, .int .i64 0], .int .i64 1]) (by simp [results, Try.results73, go_sem, p0, p1]) rfl ⟨0, 0, 1, H.out, rfl, ?_⟩
    (repeat' (first | (with_reducible exact a2) | (with_reducible refine Below.setCell ?_ ?_ _) | (with_reducible refine Below.drew ?_))) <;> (simp; done)
  · have HJ := Lib.hid hj
    have hjl := hj.le
    clear hj
    by_cases hlast : row = (brks ps.flatten : Int)
    · have H := Lib.hid (show SpanIs ps.flatten row j ps.flatten.length 0 from .inr ⟨h1, h2, rfl, j, HJ.out, rfl, .inl ⟨hlast, rfl⟩⟩)
      have CR2 := Lib.hid (CR.out _ a2)
      rw [← hlast] at L2
      clear hlast h2 hbl
      generalize hn : (ps.flatten.length : Int) = n at *
      have HN := Lib.hid hn
      clear hn
      go_wp2_with fail
      refine CR2.out.mono ?_
      rintro e w3 ⟨rfl, hb3⟩
      have a3 := a2.trans (hb3.mono a2.size)
      have R3 := RawAt.below HR2.out hb3 (RawAt.lt HR2.out)
      clear f0 f1 p0 p1
      have f0 := RawAt.free R3 0
      have f1 := RawAt.free R3 1
      have p0 := RawAt.cell R3 0
      have p1 := RawAt.cell R3 1
      simp at p0 p1
      clear R3
      go_wp2
      refine bodyPost_ret (v := .tuple #[.agg #[.int .i64 j, .int .i64 n], .int .i64 0]) (by simp [results, Try.results73, go_sem, p0, p1]) rfl ⟨j, n, 0, by rw [← HN.out]; rw [← HN.out] at H; exact H.out, rfl, ?_⟩
      (repeat' (first | (with_reducible exact a3) | (with_reducible refine Below.setCell ?_ ?_ _) | (with_reducible refine Below.drew ?_))) <;> (simp; done)
    · have hbe : (row == (brks ps.flatten : Int)) = false := by simpa using hlast
      have hlt : row < (brks ps.flatten : Int) := by omega
      have CB3 := Lib.hid (CB.out _ a2 (row + 1))
      have HG := Lib.hid (show 0 ≤ row ∧ row < (brks ps.flatten : Int) from ⟨h1, hlt⟩)
      have hw : IntKind.i64.wrap (row + 1) = row + 1 := IntWalk.i64_in _ (by omega)
      have hrow : row ≤ 20000 := by omega
      generalize hbn : (brks ps.flatten : Int) = bn at *
      have HBN := Lib.hid hbn
      clear hlast hbn h2 hlt
      go_wp2_with fail
      refine CB3.out.mono ?_
      rintro e w3 ⟨a, d, hi3, rfl, hb3⟩
      have a3 := a2.trans (hb3.mono a2.size)
      have R3 := RawAt.below HR2.out hb3 (RawAt.lt HR2.out)
      clear f0 f1 p0 p1
      have f0 := RawAt.free R3 0
      have f1 := RawAt.free R3 1
      have p0 := RawAt.cell R3 0
      have p1 := RawAt.cell R3 1
      simp at p0 p1
      clear R3
      rcases hi3 with ⟨g1, _, _⟩ | ⟨g1, g2, j', hj', rfl, rfl⟩
      · exact absurd ⟨by have := HG.out; omega, by rw [HBN.out]; have := HG.out; omega⟩ g1
      have hjl' := hj'.le
      have H := Lib.hid (show SpanIs ps.flatten row j ((j' : Int) - 1) 0 from .inr ⟨HG.out.1, by rw [HBN.out]; have := HG.out; omega, rfl, j, HJ.out, rfl, .inr ⟨by rw [HBN.out]; exact HG.out.2, j', hj', rfl⟩⟩)
      clear hj' g1 g2
      have hw2 : IntKind.i64.wrap ((j' : Int) - 1) = (j' : Int) - 1 := IntWalk.i64_in _ (by omega)
      go_wp2
      refine bodyPost_ret (v := .tuple #[.agg #[.int .i64 j, .int .i64 ((j' : Int) - 1)], .int .i64 0]) (by simp [results, Try.results73, go_sem, p0, p1]) rfl ⟨j, (j' : Int) - 1, 0, H.out, rfl, ?_⟩
      (repeat' (first | (with_reducible exact a3) | (with_reducible refine Below.setCell ?_ ?_ _) | (with_reducible refine Below.drew ?_))) <;> (simp; done)
end
end Go.Proofs.Ytaemndioleofjaa
