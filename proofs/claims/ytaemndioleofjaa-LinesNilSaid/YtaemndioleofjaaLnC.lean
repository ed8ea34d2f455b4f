/- Lines of ropes: the contracts of PlaceAt and Clip. -/
import Derived.Test.YtaemndioleofjaaLnB
namespace Go.Proofs.Ytaemndioleofjaa
open Go.RowKit
theorem span_bd {l : List Int} {r f t d : Int} (h : SpanIs l r f t d) : 0 ≤ f ∧ f ≤ l.length ∧ -1 ≤ t ∧ t ≤ l.length ∧ (d = 0 ∨ d = 1) := by
  rcases h with ⟨_, rfl, rfl, rfl⟩ | ⟨_, _, rfl, j, hj, rfl, ⟨_, rfl⟩ | ⟨_, k, hk, rfl⟩⟩
  · omega
  · have := hj.le; omega
  · have := hj.le; have := hk.le; omega
/-- What is told of a point. -/
def PlaceIs (l : List Int) (r c n e : Int) : Prop := ∃ f t d, SpanIs l r f t d ∧ ((d = 1 ∧ n = 0 ∧ e = 1) ∨ (d = 0 ∧ ¬ (0 ≤ c ∧ c ≤ t - f) ∧ n = 0 ∧ e = 1) ∨ (d = 0 ∧ 0 ≤ c ∧ c ≤ t - f ∧ n = f + c ∧ e = 0))
theorem PlaceIs.unique {l : List Int} {r c n e n' e' : Int} (h : PlaceIs l r c n e) (g : PlaceIs l r c n' e') : n = n' ∧ e = e' := by
  obtain ⟨f, t, d, h1, h2⟩ := h
  obtain ⟨f', t', d', g1, g2⟩ := g
  obtain ⟨rfl, rfl, rfl⟩ := h1.unique g1
  rcases h2 with ⟨h3, rfl, rfl⟩ | ⟨h3, h4, rfl, rfl⟩ | ⟨h3, h4, h5, rfl, rfl⟩ <;> rcases g2 with ⟨g3, rfl, rfl⟩ | ⟨g3, g4, rfl, rfl⟩ | ⟨g3, g4, g5, rfl, rfl⟩ <;> first | exact ⟨rfl, rfl⟩ | omega | exact absurd ⟨by assumption, by assumption⟩ (by assumption)
/-- What a point is clipped to. -/
def ClipIs (l : List Int) (r c a b : Int) : Prop := (r < 0 ∧ a = 0 ∧ b = 0) ∨ (0 ≤ r ∧ (brks l : Int) < r ∧ PointIs l l.length a b 0) ∨ (0 ≤ r ∧ r ≤ brks l ∧ ∃ f t, SpanIs l r f t 0 ∧ a = r ∧ b = min (max c 0) (t - f))
theorem ClipIs.unique {l : List Int} {r c a b a' b' : Int} (h : ClipIs l r c a b) (g : ClipIs l r c a' b') : a = a' ∧ b = b' := by
  rcases h with ⟨h1, rfl, rfl⟩ | ⟨h1, h2, h3⟩ | ⟨h1, h2, f, t, h3, rfl, rfl⟩ <;> rcases g with ⟨g1, rfl, rfl⟩ | ⟨g1, g2, g3⟩ | ⟨g1, g2, f', t', g3, rfl, rfl⟩ <;> first | exact ⟨rfl, rfl⟩ | omega | skip
  · obtain ⟨rfl, rfl, _⟩ := h3.unique g3
    exact ⟨rfl, rfl⟩
  · obtain ⟨rfl, rfl, _⟩ := h3.unique g3
    exact ⟨rfl, rfl⟩
section
variable {p : Option Addr} {ps : List (List Int)} {h : Nat} {w : World}
set_option maxHeartbeats 4000000 in
set_option maxRecDepth 100000 in
theorem lplace_any (hr : RP w p ps h) (r c : Int) (hc0 : -9223372036854775808 ≤ c) (hc1 : c ≤ 9223372036854775807) : Calls Try.prog 23 #[.pointer p, .agg #[.int .i64 r, .int .i64 c]] w fun e w' => ∃ n d, PlaceIs ps.flatten r c n d ∧ e = .returned (.tuple #[.int .i64 n, .int .i64 d]) ∧ Below w.heap.size w w' := by
  have hmost := hr.1.most
  have CS := Lib.hid fun (W : World) (hW : Below w.heap.size w W) => lspan_any (hr.below hW) r
  clear hr
  have x1 : Below w.heap.size w (w.alloc (.cells #[.int .i64 r, .int .i64 c] 39)) := (Below.refl _ _).alloc (Nat.le_refl _) _
  have R0 : RawAt 39 (w.alloc (.cells #[.int .i64 r, .int .i64 c] 39)) w.heap.size #[.int .i64 r, .int .i64 c] := heap_alloc_new w _
  have e0 := RawAt.cell R0 0
  simp at e0
  go_enter Try.func23, Try.ntmps23
  go_wp2_with fail
  generalize w.alloc (.cells #[.int .i64 r, .int .i64 c] 39) = W1 at *
  have HR0 := Lib.hid R0
  clear R0 e0
  refine (CS.out _ x1).mono ?_
  rintro e w2 ⟨f, t, d, hi, rfl, hb2⟩
  have a2 := x1.trans (hb2.mono x1.size)
  have HR2 := Lib.hid (RawAt.below HR0.out hb2 (RawAt.lt HR0.out))
  obtain ⟨b1, b2, b3, b4, b5⟩ := span_bd hi
  have x3 : Below w2.heap.size w2 (w2.alloc (.cells #[.int .i64 f, .int .i64 t] 41)) := (Below.refl _ _).alloc (Nat.le_refl _) _
  have RS : RawAt 41 (w2.alloc (.cells #[.int .i64 f, .int .i64 t] 41)) w2.heap.size #[.int .i64 f, .int .i64 t] := heap_alloc_new w2 _
  have R3 := RawAt.below HR2.out x3 (RawAt.lt HR2.out)
  have s0 := RawAt.cell RS 0
  have s1 := RawAt.cell RS 1
  have q1 := RawAt.cell R3 1
  simp at s0 s1 q1
  have a3 := a2.trans (x3.mono a2.size)
  clear RS R3 x3
  have hlen : (ps.flatten.length : Int) ≤ 20000 := by omega
  have b2' : f ≤ 20000 := by omega
  have b4' : t ≤ 20000 := by omega
  rcases b5 with rfl | rfl
  · by_cases hcn : c < 0
    · have H := Lib.hid (show PlaceIs ps.flatten r c 0 1 from ⟨f, t, 0, hi, .inr (.inl ⟨rfl, fun h => by omega, rfl, rfl⟩)⟩)
      clear hi b2 b4 hlen
      go_wp2
      refine bodyPost_ret (v := .tuple #[.int .i64 0, .int .i64 1]) (by simp [results, Try.results23, go_sem]) rfl ⟨_, _, H.out, rfl, a3⟩
    · have hw : IntKind.i64.wrap (t - f) = t - f := IntWalk.i64_in _ (by omega)
      by_cases hcg : t - f < c
      · have H := Lib.hid (show PlaceIs ps.flatten r c 0 1 from ⟨f, t, 0, hi, .inr (.inl ⟨rfl, fun h => by omega, rfl, rfl⟩)⟩)
        clear hi b2 b4 hlen
        go_wp2
        refine bodyPost_ret (v := .tuple #[.int .i64 0, .int .i64 1]) (by simp [results, Try.results23, go_sem]) rfl ⟨_, _, H.out, rfl, a3⟩
      · have H := Lib.hid (show PlaceIs ps.flatten r c (f + c) 0 from ⟨f, t, 0, hi, .inr (.inr ⟨rfl, by omega, by omega, rfl, rfl⟩)⟩)
        have hw2 : IntKind.i64.wrap (f + c) = f + c := IntWalk.i64_in _ (by omega)
        clear hi b2 b4 hlen
        go_wp2
        refine bodyPost_ret (v := .tuple #[.int .i64 (f + c), .int .i64 0]) (by simp [results, Try.results23, go_sem]) rfl ⟨_, _, H.out, rfl, a3⟩
  · have H := Lib.hid (show PlaceIs ps.flatten r c 0 1 from ⟨f, t, 1, hi, .inl ⟨rfl, rfl, rfl⟩⟩)
    clear hi b2 b4 hlen
    go_wp2
    refine bodyPost_ret (v := .tuple #[.int .i64 0, .int .i64 1]) (by simp [results, Try.results23, go_sem]) rfl ⟨_, _, H.out, rfl, a3⟩
set_option maxHeartbeats 4000000 in
set_option maxRecDepth 100000 in
theorem lclip_any (hr : RP w p ps h) (r c : Int) (hc0 : -9223372036854775808 ≤ c) (hc1 : c ≤ 9223372036854775807) : Calls Try.prog 25 #[.pointer p, .agg #[.int .i64 r, .int .i64 c]] w fun e w' => ∃ a b, ClipIs ps.flatten r c a b ∧ e = .returned (.agg #[.int .i64 a, .int .i64 b]) ∧ Below w.heap.size w w' := by
  have hmost := hr.1.most
  have hbr := brks_le ps.flatten
  have CN := Lib.hid fun (W : World) (hW : Below w.heap.size w W) => lrows_any (hr.below hW)
  have CS := Lib.hid fun (W : World) (hW : Below w.heap.size w W) => lspan_any (hr.below hW) r
  have CR := Lib.hid fun (W : World) (hW : Below w.heap.size w W) => rrunes_any (hr.below hW)
  have CP := Lib.hid fun (W : World) (hW : Below w.heap.size w W) => lpoint_any (hr.below hW) ps.flatten.length
  clear hr
  have x1 := (Below.refl w.heap.size w).alloc (Nat.le_refl _) (.cells #[.int .i64 r, .int .i64 c] 39)
  have x2 := x1.alloc x1.size (.cells #[.int .i64 0, .int .i64 0] 39)
  obtain ⟨R0, R1, _, hz2⟩ := new2 w 39 39 #[.int .i64 r, .int .i64 c] #[.int .i64 0, .int .i64 0]
  have HR0 := Lib.hid R0
  have HR1 := Lib.hid R1
  clear R0 R1 hz2
  have hbn0 : (0 : Int) ≤ (brks ps.flatten : Int) := by omega
  have hbn1 : (brks ps.flatten : Int) ≤ 20000 := by omega
  have hdef : Hid (∀ a b, ClipIs ps.flatten r c a b ↔ ((r < 0 ∧ a = 0 ∧ b = 0) ∨ (0 ≤ r ∧ (brks ps.flatten : Int) < r ∧ PointIs ps.flatten ps.flatten.length a b 0) ∨ (0 ≤ r ∧ r ≤ brks ps.flatten ∧ ∃ f t, SpanIs ps.flatten r f t 0 ∧ a = r ∧ b = min (max c 0) (t - f)))) := fun a b => Iff.rfl
  generalize hbn : (brks ps.flatten : Int) = bn at *
  have HBN := Lib.hid hbn
  clear hbn hbr
  have hln0 : (0 : Int) ≤ (ps.flatten.length : Int) := by omega
  have hln1 : (ps.flatten.length : Int) ≤ 20000 := by omega
  generalize hln : (ps.flatten.length : Int) = ln at *
  have HLN := Lib.hid hln
  clear hln
  go_enter Try.func25, Try.ntmps25
  go_wp2_with fail
  generalize ((w.alloc (.cells #[.int .i64 r, .int .i64 c] 39)).alloc (.cells #[.int .i64 0, .int .i64 0] 39)) = W2 at *
  refine (CN.out _ x2).mono ?_
  rintro e w3 ⟨rfl, hb3⟩
  have a3 := x2.trans (hb3.mono x2.size)
  have HA3 := Lib.hid (RawAt.below HR0.out hb3 (RawAt.lt HR0.out))
  have HB3 := Lib.hid (RawAt.below HR1.out hb3 (RawAt.lt HR1.out))
  have hw : bn + 1 - 1 = bn := by omega
  have hww : IntKind.i64.wrap (bn + 1 - 1) = bn := by rw [hw]; exact IntWalk.i64_in _ (by omega)
  have q0 := RawAt.cell HA3.out 0
  have q1 := RawAt.cell HA3.out 1
  have f0 := RawAt.free HB3.out 0
  have f1 := RawAt.free HB3.out 1
  have p0 := RawAt.cell HB3.out 0
  have p1 := RawAt.cell HB3.out 1
  simp at q0 q1 p0 p1
  by_cases hn : r < 0
  · have H := Lib.hid ((hdef.out 0 0).2 (.inl ⟨hn, rfl, rfl⟩))
    go_wp2
    refine bodyPost_ret (v := .agg #[.int .i64 0, .int .i64 0]) (by simp [results, Try.results25, go_sem, p0, p1]) rfl ⟨0, 0, H.out, rfl, ?_⟩
    (repeat' (first | (with_reducible exact a3) | (with_reducible refine Below.setCell ?_ ?_ _) | (with_reducible refine Below.drew ?_))) <;> (simp; done)
  by_cases hg : bn < r
  · go_wp2_with fail
    refine (CR.out _ a3).mono ?_
    rintro e w4 ⟨rfl, hb4⟩
    have a4 := a3.trans (hb4.mono a3.size)
    have HB4 := Lib.hid (RawAt.below HB3.out hb4 (RawAt.lt HB3.out))
    clear f0 f1 p0 p1
    go_wp2_with fail
    refine (CP.out _ a4).mono ?_
    rintro e w5 ⟨x, y, d, hi, rfl, hb5⟩
    have a5 := a4.trans (hb5.mono a4.size)
    have hd : d = 0 := by
      rcases hi with ⟨h1, _, _, _⟩ | ⟨_, _, h3, _⟩
      · exact absurd ⟨hln0, by rw [HLN.out]; exact Int.le_refl _⟩ h1
      · exact h3
    subst hd
    have H := Lib.hid ((hdef.out x y).2 (.inr (.inl ⟨by omega, hg, hi⟩)))
    clear hi
    have HB5 := Lib.hid (RawAt.below HB4.out hb5 (RawAt.lt HB4.out))
    have x6 : Below w5.heap.size w5 (w5.alloc (.cells #[.int .i64 x, .int .i64 y] 39)) := (Below.refl _ _).alloc (Nat.le_refl _) _
    have R6 : RawAt 39 (w5.alloc (.cells #[.int .i64 x, .int .i64 y] 39)) w5.heap.size #[.int .i64 x, .int .i64 y] := heap_alloc_new w5 _
    have HB6 := RawAt.below HB5.out x6 (RawAt.lt HB5.out)
    have s0 := RawAt.cell R6 0
    have s1 := RawAt.cell R6 1
    have f0 := RawAt.free HB6 0
    have f1 := RawAt.free HB6 1
    have p0 := RawAt.cell HB6 0
    have p1 := RawAt.cell HB6 1
    simp at s0 s1 p0 p1
    have a6 := a5.trans (x6.mono a5.size)
    clear R6 HB6 x6
    go_wp2
    refine bodyPost_ret (v := .agg #[.int .i64 x, .int .i64 y]) (by simp [results, Try.results25, go_sem, p0, p1]) rfl ⟨x, y, H.out, rfl, ?_⟩
    (repeat' (first | (with_reducible exact a6) | (with_reducible refine Below.setCell ?_ ?_ _) | (with_reducible refine Below.drew ?_))) <;> (simp; done)
  · have HG := Lib.hid (show 0 ≤ r ∧ r ≤ bn from ⟨by omega, by omega⟩)
    go_wp2_with fail
    refine (CS.out _ a3).mono ?_
    rintro e w4 ⟨f, t, d, hi, rfl, hb4⟩
    have a4 := a3.trans (hb4.mono a3.size)
    obtain ⟨b1, b2, b3, b4, b5⟩ := span_bd hi
    have hd : d = 0 := by
      rcases hi with ⟨h1, _, _, _⟩ | ⟨_, _, h3, _⟩
      · exact absurd ⟨HG.out.1, by rw [HBN.out]; exact HG.out.2⟩ h1
      · exact h3
    subst hd
    have H := Lib.hid ((hdef.out r (min (max c 0) (t - f))).2 (.inr (.inr ⟨HG.out.1, by first | exact HG.out.2 | (rw [HBN.out]; exact HG.out.2), f, t, hi, rfl, rfl⟩)))
    rw [HLN.out] at b2 b4
    clear hi
    have HB4 := Lib.hid (RawAt.below HB3.out hb4 (RawAt.lt HB3.out))
    have HA4 := Lib.hid (RawAt.below HA3.out hb4 (RawAt.lt HA3.out))
    clear f0 f1 p0 p1 q0 q1 hw hww HG
    have x5 : Below w4.heap.size w4 (w4.alloc (.cells #[.int .i64 f, .int .i64 t] 41)) := (Below.refl _ _).alloc (Nat.le_refl _) _
    have R5 : RawAt 41 (w4.alloc (.cells #[.int .i64 f, .int .i64 t] 41)) w4.heap.size #[.int .i64 f, .int .i64 t] := heap_alloc_new w4 _
    have HB5 := RawAt.below HB4.out x5 (RawAt.lt HB4.out)
    have HA5 := RawAt.below HA4.out x5 (RawAt.lt HA4.out)
    have a5 := a4.trans (x5.mono a4.size)
    have s0 := RawAt.cell R5 0
    have s1 := RawAt.cell R5 1
    have q0 := RawAt.cell HA5 0
    have q1 := RawAt.cell HA5 1
    have f0 := RawAt.free HB5 0
    have f1 := RawAt.free HB5 1
    have p0 := RawAt.cell HB5 0
    have p1 := RawAt.cell HB5 1
    simp at s0 s1 q0 q1 p0 p1
    clear R5 HB5 HA5 x5
    have hw : wrap64 (t - f) = t - f := IntWalk.wrap64_in _ ⟨by omega, by omega⟩
    have hw2 : IntKind.i64.wrap (t - f) = t - f := IntWalk.i64_in _ (by omega)
    go_wp2
    all_goals
      refine bodyPost_ret (v := .agg #[.int .i64 r, .int .i64 (min (max c 0) (t - f))]) (by simp [results, Try.results25, go_sem, p0, p1] <;> omega) rfl ⟨r, _, H.out, rfl, ?_⟩
      (repeat' (first | (with_reducible exact a5) | (with_reducible refine Below.setCell ?_ ?_ _) | (with_reducible refine Below.drew ?_))) <;> (simp; done)
end
end Go.Proofs.Ytaemndioleofjaa
