/- Histories: the contract of move, from the one list to the other one, and where there is nothing to move. -/
import Derived.Test.YtncbhbjhfmbbkaaHsC
namespace Go.Proofs.Ytncbhbjhfmbbkaa
open Go.RowKit
set_option linter.unusedVariables false
theorem own_rawB {w : World} {B : Nat} {e : TypeId} {g cap n : Nat} {xs : List Value} (h : w.ownsRow B e 2 (.slice (some ⟨g, 0, none⟩) n cap) n xs) : ∃ cur, RawAt e w g cur ∧ B ≤ g := by
  rcases h.2 with ⟨h2, _⟩ | ⟨g', cap', cur, hv, hB, c, h3, h4, h5, h6⟩
  · cases h2
  · injection hv with hv1 hv2 hv3
    injection hv1 with hv1
    injection hv1 with hv1
    subst hv1
    exact ⟨cur, c, hB⟩
theorem sflat_at (s : List (Value × Value)) (p : Value × Value) : (sflat (s ++ [p]))[s.length * 2]? = some p.1 ∧ (sflat (s ++ [p]))[s.length * 2 + 1]? = some p.2 := by
  have h := sflat_length s
  rw [sflat_append]
  constructor
  · rw [List.getElem?_append_right (by omega), h, Nat.sub_self]; rfl
  · rw [List.getElem?_append_right (by omega), h, show s.length * 2 + 1 - s.length * 2 = 1 by omega]; rfl
theorem own_onB {w w' : World} {base n size g : Nat} {e : TypeId} {v : Value} {xs : List Value} (h : w.ownsRow base e size v n xs) (ho : OnB g w w') (hne : v.ownBlock ≠ some g) : w'.ownsRow base e size v n xs := by
  refine ⟨h.1, ?_⟩
  rcases h.2 with k | ⟨k, cap, cur, e', hB, c, h3⟩
  · exact .inl k
  · refine .inr ⟨k, cap, cur, e', hB, ho.raw c ?_, h3⟩
    rintro rfl
    rw [e'] at hne
    exact hne rfl
theorem sflat_but (s : List (Value × Value)) (p : Value × Value) : (sflat (s ++ [p])).take (s.length * 2) ++ (sflat (s ++ [p])).drop ((s.length + 1) * 2) = sflat s := by
  have h := sflat_length s
  rw [sflat_append, List.take_append_of_le_length (by omega), List.take_of_length_le (by omega), List.drop_of_length_le (by rw [List.length_append, h, show (sflat [p]).length = 2 from rfl]; omega), List.append_nil]
theorem own_grownH {w w' : World} {base n size : Nat} {e : TypeId} {v : Value} {xs : List Value} {row : Option Nat} (h : w.ownsRow base e size v n xs) (hg : w.grownBy w' row) (hne : ∀ k, v.ownBlock = some k → row ≠ some k) : w'.ownsRow base e size v n xs := by
  refine ⟨h.1, ?_⟩
  rcases h.2 with k | ⟨k, cap, cur, e', hB, c, h3⟩
  · exact .inl k
  · refine .inr ⟨k, cap, cur, e', hB, (hg.block k (block_lt c) fun hk => ?_).trans c, h3⟩
    rw [e'] at hne
    exact hne k rfl hk.symm
theorem hist_fin {B hb hs : Nat} {W4 W0 : World} {cs : Array Value} {v0 v1 : Value} {s0 s1 : List (Value × Value)} {d u : List S2} {k : Nat} {V : Value} (hR : RawAt 131 W4 hb cs) (hcs : cs.setIfInBounds k V = #[v0, v1]) (hS : RawAt 69 W4 hs #[.slice none 0 0, .slice none 0 0]) (hne : hs ≠ hb)
    (o0 : W4.ownsRow B 69 2 v0 s0.length (sflat s0)) (o1 : W4.ownsRow B 69 2 v1 s1.length (sflat s1)) (hd : ∀ g, v0.ownBlock = some g → v1.ownBlock ≠ some g) (n0 : v0.ownBlock ≠ some hs) (n1 : v1.ownBlock ≠ some hs) (st0 : StsAt W4 s0 d) (st1 : StsAt W4 s1 u)
    (hB : B ≤ hb) (hBs : B ≤ hs) (hT : OnT [69, 131] W0 W4) (hb0 : Below B W0 W4) (a b : Value) :
    HAt B (((W4.setCell ⟨hb, k, none⟩ V).setCell ⟨hs, 0, none⟩ a).setCell ⟨hs, 1, none⟩ b) hb d u ∧ OnT [69, 131] W0 (((W4.setCell ⟨hb, k, none⟩ V).setCell ⟨hs, 0, none⟩ a).setCell ⟨hs, 1, none⟩ b) ∧ Below B W0 (((W4.setCell ⟨hb, k, none⟩ V).setCell ⟨hs, 0, none⟩ a).setCell ⟨hs, 1, none⟩ b) := by
  have r1 := hR.set_ k V
  rw [hcs] at r1
  have s1' := hS.set_other (b' := hb) hne k V
  have s2' := s1'.set_ 0 a
  have r2 := r1.set_other (b' := hs) (Ne.symm hne) 0 a
  have r3 := r2.set_other (b' := hs) (Ne.symm hne) 1 b
  have t1 : OnT [131] W4 (W4.setCell ⟨hb, k, none⟩ V) := (OnT.refl _ W4).set hR (by simp) k V
  have t2 : OnB hs (W4.setCell ⟨hb, k, none⟩ V) (((W4.setCell ⟨hb, k, none⟩ V).setCell ⟨hs, 0, none⟩ a).setCell ⟨hs, 1, none⟩ b) := ((OnB.refl hs _).set 0 a).set 1 b
  have t3 : OnT [69] (W4.setCell ⟨hb, k, none⟩ V) (((W4.setCell ⟨hb, k, none⟩ V).setCell ⟨hs, 0, none⟩ a).setCell ⟨hs, 1, none⟩ b) := t2.onT s1' (by simp)
  have t4 : OnT [69, 131] W4 (((W4.setCell ⟨hb, k, none⟩ V).setCell ⟨hs, 0, none⟩ a).setCell ⟨hs, 1, none⟩ b) := (t1.mono (by simp)).trans (t3.mono (by simp))
  exact ⟨⟨⟨v0, v1, s0, s1, r3, own_onB (own_onT o0 t1 (by decide)) t2 n0, own_onB (own_onT o1 t1 (by decide)) t2 n1, hd, st0.onT t4 (by decide), st1.onT t4 (by decide)⟩, hB⟩, hT.trans t4, ((hb0.setCell (p := ⟨hb, k, none⟩) hB V).setCell (p := ⟨hs, 0, none⟩) hBs a).setCell (p := ⟨hs, 1, none⟩) hBs b⟩
set_option maxHeartbeats 4000000 in
set_option maxRecDepth 100000 in
theorem hMove01 {B hb : Nat} {w : World} {d u : List S2} {y : S2} (h : HAt B w hb (d ++ [y]) u) (hBw : B ≤ w.heap.size) (hd : d.length ≤ 100) (hu : u.length ≤ 100) :
    Calls Try.prog 68 #[.pointer (some ⟨hb, 0, none⟩), .int .i64 0, .int .i64 1] w fun e w' => ∃ vb vf, e = .returned (.tuple #[.agg #[vb, vf], .int .i64 0]) ∧ OwnE w' vb y.b ∧ OwnE w' vf y.f ∧ HAt B w' hb d (u ++ [y]) ∧ OnT [69, 131] w w' ∧ Below B w w' := by
  have hle := h.le
  obtain ⟨⟨v0, v1, s0, s1, a1, a2, a3, a4, a5, a6⟩, _⟩ := h
  obtain ⟨s, p, rfl, b1, b2, b3⟩ := a5.last
  have hsl := b1.len
  have hs1 := a6.len
  have hat := sflat_at s p
  rw [show (s ++ [p]).length = s.length + 1 by simp] at a2
  obtain ⟨g0, c0, rfl⟩ := own_slice a2 (by omega)
  obtain ⟨cur0, hr0, hBg⟩ := own_rawB a2
  obtain ⟨A1, c1, rfl⟩ := own_form a3
  obtain ⟨Ab, cb, e1⟩ := own_form b2
  obtain ⟨Af, cf, e2⟩ := own_form b3
  have x1 : Below w.heap.size w (w.alloc (.cells #[.slice none 0 0, .slice none 0 0] 69)) := (Below.refl _ _).alloc (Nat.le_refl _) _
  have R1 := RawAt.below a1 x1 a1.lt
  have e0 := RawAt.cell R1 0
  simp at e0
  have P1 := own_below a2 x1
  have k0 := P1.cellAt (s.length * 2) (by omega)
  have k1 := P1.cellAt (s.length * 2 + 1) (by omega)
  rw [hat.1] at k0
  rw [hat.2] at k1
  have ONE := Lib.hid (sflat_one a5)
  have ep : p = (.slice Ab y.b.length cb, .slice Af y.f.length cf) := by rw [← e1, ← e2]
  rw [ep] at a2 ONE
  rw [e1] at b2 k0
  rw [e2] at b3 k1
  clear R1 P1
  have K6 : ∀ k, (Value.slice A1 s1.length c1).ownBlock = some k → k = w.heap.size → False := fun k hk h => by have := (a3.lt k hk).2; omega
  have K7 : ∀ k, (Value.slice A1 s1.length c1).ownBlock = some k → k = w.heap.size + 1 → False := fun k hk h => by have := (a3.lt k hk).2; omega
  have RH := Lib.hid a1
  have O0 := Lib.hid a2
  have O1 := Lib.hid a3
  have NE := Lib.hid a4
  have ST := Lib.hid b1
  have SU := Lib.hid a6
  have OB := Lib.hid b2
  have OF := Lib.hid b3
  have RG := Lib.hid hr0
  have HS1 := Lib.hid hs1
  have HSL := Lib.hid hsl
  have hm : s.length ≤ 100 := by omega
  have hm1 : s1.length ≤ 100 := by omega
  clear a1 a2 a3 a4 a5 a6 b1 b2 b3 hr0 hs1 hsl hat
  generalize hmm : s.length = m at *
  have HMM := Lib.hid hmm
  clear hmm
  have n1 : decide ((m : Int) + 1 = 0) = false := decide_eq_false (by omega)
  have n3 : IntKind.i64.wrap ((m : Int) + 1) = (m : Int) + 1 := IntWalk.i64_in _ (by omega)
  have n2 : (m : Int) + 1 - 1 = m := by omega
  go_enter Try.func68, Try.ntmps68
  go_wp2_with fail
  have x2 : Below w.heap.size w ((w.alloc (.cells #[.slice none 0 0, .slice none 0 0] 69)).alloc (.cells #[.slice Ab y.b.length cb, .slice Af y.f.length cf] 69)) := x1.alloc x1.size _
  have R6 : RawAt 69 ((w.alloc (.cells #[.slice none 0 0, .slice none 0 0] 69)).alloc (.cells #[.slice Ab y.b.length cb, .slice Af y.f.length cf] 69)) w.heap.size #[.slice none 0 0, .slice none 0 0] := RawAt.below (heap_alloc_new w _) ((Below.refl _ _).alloc (Nat.le_refl _) _) (RawAt.lt (t := 69) (heap_alloc_new w _))
  have R9 : RawAt 69 ((w.alloc (.cells #[.slice none 0 0, .slice none 0 0] 69)).alloc (.cells #[.slice Ab y.b.length cb, .slice Af y.f.length cf] 69)) (w.heap.size + 1) #[.slice Ab y.b.length cb, .slice Af y.f.length cf] := by
    have := heap_alloc_new (w.alloc (.cells #[.slice none 0 0, .slice none 0 0] 69)) (.cells #[.slice Ab y.b.length cb, .slice Af y.f.length cf] 69)
    have hz : (w.alloc (.cells #[.slice none 0 0, .slice none 0 0] 69)).heap.size = w.heap.size + 1 := by simp
    rw [hz] at this
    exact this
  clear e0 k0 k1
  generalize ((w.alloc (.cells #[.slice none 0 0, .slice none 0 0] 69)).alloc (.cells #[.slice Ab y.b.length cb, .slice Af y.f.length cf] 69)) = W1 at *
  have xd : Below w.heap.size w W1.drew := x2.drew
  have Rd := RawAt.below RH.out xd RH.out.lt
  have e0 := RawAt.cell Rd 0
  simp at e0
  have Od := own_below O0.out xd
  have HDL := Lib.hid fun (W : World) (h : W.ownsRow B 69 2 (.slice (some ⟨g0, 0, none⟩) (m + 1) c0) (m + 1) (sflat (s ++ [(.slice Ab y.b.length cb, .slice Af y.f.length cf)]))) => hDelete_any (i := m) (m := 0) h ONE.out (by omega)
  simp only [Nat.add_zero] at HDL
  refine wp_region_noPanic ?_
  refine wp_region_held_drew (S := (fun _ => True)) (by kernel_rfl) (trivial) (fun hHeld => ?_)
  refine wpAnyH_take (i := 0) (v := ?_) rfl (by kernel_rfl) (by kernel_rfl) (by kernel_rfl) (fun _ _ _ h => h) (Or.inl ⟨by rfl, ?_⟩) hHeld ?_
  rotate_left
  · intro w hSw
    (try dsimp only at hSw)
    go_simp
    try with_reducible rfl
  go_simp
  refine wpAnyH_take (i := 1) (v := ?_) rfl (by kernel_rfl) (by kernel_rfl) (by kernel_rfl) (fun _ _ _ h => h) (Or.inl ⟨by rfl, ?_⟩) hHeld ?_
  rotate_left
  · intro w hSw
    (try dsimp only at hSw)
    go_simp
    try with_reducible rfl
  go_simp
  refine wpAnyH_take (i := 2) (v := ?_) rfl (by kernel_rfl) (by kernel_rfl) (by kernel_rfl) (fun _ _ _ h => h) (Or.inl ⟨by rfl, ?_⟩) hHeld ?_
  rotate_left
  · intro w hSw
    (try dsimp only at hSw)
    go_simp
    try with_reducible rfl
  go_simp
  refine wpAnyH_take (i := 3) (v := ?_) rfl (by kernel_rfl) (by kernel_rfl) (by kernel_rfl) (fun _ _ _ h => h) (Or.inl ⟨by rfl, ?_⟩) hHeld ?_
  rotate_left
  · intro w hSw
    (try dsimp only at hSw)
    go_simp
    try with_reducible rfl
  go_simp
  refine wpAnyH_take (i := 4) (v := ?_) rfl (by kernel_rfl) (by kernel_rfl) (by kernel_rfl) (fun _ _ _ h => h) (Or.inl ⟨by rfl, ?_⟩) hHeld ?_
  rotate_left
  · intro w hSw
    (try dsimp only at hSw)
    go_simp
    try with_reducible rfl
  go_simp
  refine wpAnyH_take (i := 5) (v := ?_) rfl (by kernel_rfl) (by kernel_rfl) (by kernel_rfl) (fun _ _ _ h => h) (Or.inl ⟨by rfl, ?_⟩) hHeld ?_
  rotate_left
  · intro w hSw
    (try dsimp only at hSw)
    go_simp
    try with_reducible rfl
  go_simp
  refine wpAnyH_take (i := 6) (v := ?_) rfl (by kernel_rfl) (by kernel_rfl) (by kernel_rfl) (fun _ _ _ h => h) (Or.inl ⟨by rfl, ?_⟩) hHeld ?_
  rotate_left
  · intro w hSw
    (try dsimp only at hSw)
    go_simp
    try with_reducible rfl
  go_simp
  refine wpAnyH_take (i := 8) (v := ?_) rfl (by kernel_rfl) (by kernel_rfl) (by kernel_rfl) (fun _ _ _ h => h) (Or.inl ⟨by rfl, ?_⟩) hHeld ?_
  rotate_left
  · intro w hSw
    (try dsimp only at hSw)
    go_simp
    try with_reducible rfl
  go_simp
  refine wpAnyH_take (i := 9) (v := ?_) rfl (by kernel_rfl) (by kernel_rfl) (by kernel_rfl) (fun _ _ _ h => h) (Or.inl ⟨by rfl, ?_⟩) hHeld ?_
  rotate_left
  · intro w hSw
    (try dsimp only at hSw)
    go_simp
    try with_reducible rfl
  go_simp
  refine wpAnyH_take (i := 10) (v := ?_) rfl (by kernel_rfl) (by kernel_rfl) (by kernel_rfl) (fun _ _ _ h => h) (Or.inl ⟨by rfl, ?_⟩) hHeld ?_
  rotate_left
  · intro w hSw
    (try dsimp only at hSw)
    go_simp
    try with_reducible rfl
  go_simp
  refine wpAnyH_take (i := 12) (v := ?_) rfl (by kernel_rfl) (by kernel_rfl) (by kernel_rfl) (fun _ _ _ h => h) (Or.inl ⟨by rfl, ?_⟩) hHeld ?_
  rotate_left
  · intro w hSw
    (try dsimp only at hSw)
    go_simp
    try with_reducible rfl
  go_simp
  refine wpAnyH_take (i := 13) (v := ?_) rfl (by kernel_rfl) (by kernel_rfl) (by kernel_rfl) (fun _ _ _ h => h) (Or.inl ⟨by rfl, ?_⟩) hHeld ?_
  rotate_left
  · intro w hSw
    (try dsimp only at hSw)
    go_simp
    try with_reducible rfl
  go_simp
  refine wpAnyH_ready (rs := [7]) (by kernel_rfl) (by simp) ?_
  refine AllReadyH.cons rfl (fun K hK => ?_) ?_
  rotate_left
  · exact AllReadyH.nil
  go_simp
  go_wp2_with (go_at_call 67; (try rw [n3]); ((with_reducible refine (HDL.out _ Od).mono ?_); rintro e w5 ⟨rfl, ho5, hb5⟩); have T5 := hb5.onT (ts := [69]) (RG.out.below xd RG.out.lt) (by simp); have R5 := T5 _ _ _ (by decide) Rd; have e5 := RawAt.cell R5 0; have f5 := RawAt.free R5 0; simp at e5)
  refine hK.out _ _ (trivial) (fun hHeld => ?_)
  clear hK K
  go_simp
  refine wpAnyH_ready (rs := [11]) (by kernel_rfl) (by simp) ?_
  refine AllReadyH.cons rfl (fun K hK => ?_) ?_
  rotate_left
  · exact AllReadyH.nil
  go_simp
  go_wp2_with (go_at_call 67; (try rw [n3]); ((with_reducible refine (HDL.out _ Od).mono ?_); rintro e w5 ⟨rfl, ho5, hb5⟩); have T5 := hb5.onT (ts := [69]) (RG.out.below xd RG.out.lt) (by simp); have R5 := T5 _ _ _ (by decide) Rd; have e5 := RawAt.cell R5 0; have f5 := RawAt.free R5 0; simp at e5)
  refine hK.out _ _ (trivial) (fun hHeld => ?_)
  clear hK K
  go_simp
  refine wpAnyH_take (i := 14) (v := ?_) rfl (by kernel_rfl) (by kernel_rfl) (by kernel_rfl) (fun _ _ _ h => h) (Or.inl ⟨by rfl, ?_⟩) hHeld ?_
  rotate_left
  · intro w hSw
    (try dsimp only at hSw)
    go_simp
    try with_reducible rfl
  go_simp
  refine wpAnyH_ready (rs := [15]) (by kernel_rfl) (by simp) ?_
  refine AllReadyH.cons rfl (fun K hK => ?_) ?_
  rotate_left
  · exact AllReadyH.nil
  go_simp
  go_wp2_with (go_at_call 67; (try rw [n3]); ((with_reducible refine (HDL.out _ Od).mono ?_); rintro e w5 ⟨rfl, ho5, hb5⟩); have T5 := hb5.onT (ts := [69]) (RG.out.below xd RG.out.lt) (by simp); have R5 := T5 _ _ _ (by decide) Rd; have e5 := RawAt.cell R5 0; have f5 := RawAt.free R5 0; simp at e5)
  refine hK.out _ _ (trivial) (fun hHeld => ?_)
  clear hK K
  go_simp
  refine wpAnyH_done (by kernel_rfl) ?_ _
  refine NoPanic.normal ?_
  have hgl : g0 < w.heap.size := RG.out.lt
  have hbl : hb < w.heap.size := RH.out.lt
  have z1 := xd.size
  have z5 := hb5.below.size
  have R6' := hb5.raw (w' := w5) (show RawAt 69 W1.drew w.heap.size _ from R6) (by omega)
  have R9' := hb5.raw (w' := w5) (show RawAt 69 W1.drew (w.heap.size + 1) _ from R9) (by omega)
  have R6 := R6'.set_other (b' := hb) (by omega) 0 (.slice (some ⟨g0, 0, none⟩) m c0)
  have R9 := R9'.set_other (b' := hb) (by omega) 0 (.slice (some ⟨g0, 0, none⟩) m c0)
  have Q5 : OnT [131] w5 (w5.setCell ⟨hb, 0, none⟩ (.slice (some ⟨g0, 0, none⟩) m c0)) := (OnT.refl _ w5).set R5 (by simp) 0 _
  have RH5 : RawAt 131 (w5.setCell ⟨hb, 0, none⟩ (.slice (some ⟨g0, 0, none⟩) m c0)) hb #[.slice (some ⟨g0, 0, none⟩) m c0, .slice A1 s1.length c1] := R5.set_ 0 _
  have O15 := own_onT (own_onB (own_below O1.out xd) hb5 (NE.out g0 rfl)) Q5 (by decide)
  have O05 : (w5.setCell ⟨hb, 0, none⟩ (.slice (some ⟨g0, 0, none⟩) m c0)).ownsRow B 69 2 (.slice (some ⟨g0, 0, none⟩) m c0) m (sflat s) := by
    have := sflat_but s (.slice Ab y.b.length cb, .slice Af y.f.length cf)
    rw [HMM.out] at this
    rw [this] at ho5
    exact own_onT ho5 Q5 (by decide)
  have T05 : OnT [69, 131] w (w5.setCell ⟨hb, 0, none⟩ (.slice (some ⟨g0, 0, none⟩) m c0)) := ((OnT.of xd).trans (T5.mono (by simp))).trans (Q5.mono (by simp))
  have B05 : Below B w (w5.setCell ⟨hb, 0, none⟩ (.slice (some ⟨g0, 0, none⟩) m c0)) := ((xd.mono hBw).trans (hb5.below.mono hBg)).setCell (p := ⟨hb, 0, none⟩) hle _
  have hsz5 : w.heap.size + 1 < (w5.setCell ⟨hb, 0, none⟩ (.slice (some ⟨g0, 0, none⟩) m c0)).heap.size := R9.lt
  have U05 := Lib.hid O05
  have U15 := Lib.hid O15
  have UT := Lib.hid T05
  have UB := Lib.hid B05
  have lt1 := O15.lt
  clear HDL Od Rd xd e0 hb5 T5 R5 e5 f5 R6' R9' Q5 O15 O05 T05 B05 ho5 z5 z1
  clear x1 x2
  generalize w5.setCell ⟨hb, 0, none⟩ (.slice (some ⟨g0, 0, none⟩) m c0) = W5 at *
  obtain ⟨i0, hi0, hz0, hz1, hz2⟩ := info_parts step_infoH
  have e6 := RawAt.cell RH5 1
  simp at e6
  have f6 := RawAt.free RH5 1
  have hne6 : w.heap.size + 1 ≠ hb := by omega
  have MK : Hid (∀ W : World, RawAt 69 W (w.heap.size + 1) #[.slice Ab y.b.length cb, .slice Af y.f.length cf] → (fun W : World => W.cell? ⟨w.heap.size + 1, 0, none⟩ = some (.slice Ab y.b.length cb) ∧ W.cell? ⟨w.heap.size + 1, 1, none⟩ = some (.slice Af y.f.length cf)) W) := fun W h => ⟨RawAt.cell h 0, RawAt.cell h 1⟩
  have R9 : RawAt 69 W5.drew (w.heap.size + 1) #[.slice Ab y.b.length cb, .slice Af y.f.length cf] := R9
  have x9 : Below W5.heap.size W5 (W5.drew.alloc (.cells #[.slice Ab y.b.length cb, .slice Af y.f.length cf] 69)) := (Below.refl _ _).drew.alloc (Nat.le_refl _) _
  have hown9 := own_below U15.out x9
  have hown0 := own_below U05.out x9
  have Rh9 := RawAt.below RH5 x9 RH5.lt
  have R69 := RawAt.below R6 x9 R6.lt
  have R99 := RawAt.below (show RawAt 69 W5 (w.heap.size + 1) _ from R9) x9 R9.lt
  have e7 := RawAt.cell Rh9 1
  simp at e7
  have e7b := RawAt.cell (RawAt.below RH5 ((Below.refl W5.heap.size W5).alloc (Nat.le_refl _) (.cells #[.slice Ab y.b.length cb, .slice Af y.f.length cf] 69)) RH5.lt) 1
  simp at e7b
  go_wp2_with fail
  refine wp_region_noPanic ?_
  refine wp_region_held_drew (S := (fun W => W.cell? ⟨w.heap.size + 1, 0, none⟩ = some (.slice Ab y.b.length cb) ∧ W.cell? ⟨w.heap.size + 1, 1, none⟩ = some (.slice Af y.f.length cf))) (by kernel_rfl) (MK.out _ R9) (fun hHeld => ?_)
  refine wpAnyH_take (i := 0) (v := ?_) rfl (by kernel_rfl) (by kernel_rfl) (by kernel_rfl) (fun _ _ _ h => h) (Or.inl ⟨by rfl, ?_⟩) hHeld ?_
  rotate_left
  · intro w hSw
    (try dsimp only at hSw)
    go_simp
    try with_reducible rfl
  go_simp
  refine wpAnyH_take (i := 1) (v := ?_) rfl (by kernel_rfl) (by kernel_rfl) (by kernel_rfl) (fun _ _ _ h => h) (Or.inl ⟨by rfl, ?_⟩) hHeld ?_
  rotate_left
  · intro w hSw
    (try dsimp only at hSw)
    go_simp
    try with_reducible rfl
  go_simp
  refine wpAnyH_take (i := 2) (v := ?_) rfl (by kernel_rfl) (by kernel_rfl) (by kernel_rfl) (fun _ _ _ h => h) (Or.inl ⟨by rfl, ?_⟩) hHeld ?_
  rotate_left
  · intro w hSw
    (try dsimp only at hSw)
    go_simp
    try with_reducible rfl
  go_simp
  refine wpAnyH_take (i := 3) (v := ?_) rfl (by kernel_rfl) (by kernel_rfl) (by kernel_rfl) (fun _ _ _ h => h) (Or.inl ⟨by rfl, ?_⟩) hHeld ?_
  rotate_left
  · intro w hSw
    (try dsimp only at hSw)
    go_simp
    try with_reducible rfl
  go_simp
  refine wpAnyH_take (i := 4) (v := ?_) rfl (by kernel_rfl) (by kernel_rfl) (by kernel_rfl) (fun _ _ _ h => h) (Or.inl ⟨by rfl, ?_⟩) hHeld ?_
  rotate_left
  · intro w hSw
    (try dsimp only at hSw)
    go_simp
    try with_reducible rfl
  go_simp
  refine wpAnyH_take (i := 5) (v := ?_) rfl (by kernel_rfl) (by kernel_rfl) (by kernel_rfl) (fun _ _ _ h => h) (Or.inl ⟨by rfl, ?_⟩) hHeld ?_
  rotate_left
  · intro w hSw
    (try dsimp only at hSw)
    go_simp
    try with_reducible rfl
  go_simp
  refine wpAnyH_take (i := 6) (v := ?_) rfl (by kernel_rfl) (by kernel_rfl) (by kernel_rfl) (fun _ _ _ h => h) (Or.inl ⟨by rfl, ?_⟩) hHeld ?_
  rotate_left
  · intro w hSw
    (try dsimp only at hSw)
    go_simp
    try with_reducible rfl
  go_simp
  refine wpAnyH_take (i := 8) (v := ?_) rfl (by kernel_rfl) (by kernel_rfl) (by kernel_rfl) (fun _ _ _ h => h) (Or.inl ⟨by rfl, ?_⟩) hHeld ?_
  rotate_left
  · intro w hSw
    (try dsimp only at hSw)
    go_simp
    try with_reducible rfl
  go_simp
  refine wpAnyH_take (i := 11) (v := ?_) rfl (by kernel_rfl) (by kernel_rfl) (by kernel_rfl) (fun _ _ _ h => h) (Or.inl ⟨by rfl, ?_⟩) hHeld ?_
  rotate_left
  · intro w hSw
    (try dsimp only at hSw)
    go_simp
    try with_reducible rfl
  go_simp
  refine wpAnyH_take (i := 12) (v := ?_) rfl (by kernel_rfl) (by kernel_rfl) (by kernel_rfl) (fun _ _ _ h => h) (Or.inl ⟨by rfl, ?_⟩) hHeld ?_
  rotate_left
  · intro w hSw
    (try dsimp only at hSw)
    go_simp
    try with_reducible rfl
  go_simp
  refine wpAnyH_ready (rs := [7, 9]) (by kernel_rfl) (by simp) ?_
  refine AllReadyH.cons rfl (fun K hK => ?_) (AllReadyH.cons rfl (fun K hK => ?_) AllReadyH.nil)
  · go_simp
    go_wp2_with (fail)
    refine hK.out _ _ (by first | (with_reducible exact MK.out _ R9) | exact MK.out _ (RawAt.below R9 ((Below.refl _ _).alloc (Nat.le_refl _) _) R9.lt) | exact MK.out _ (RawAt.set_other R9 hne6 _ _)) (fun hHeld => ?_)
    clear hK K
    go_simp
    refine wpAnyH_ready (rs := [9]) (by kernel_rfl) (by simp) ?_
    refine AllReadyH.cons rfl (fun K hK => ?_) ?_
    rotate_left
    · exact AllReadyH.nil
    go_simp
    go_wp2_with (fail)
    refine hK.out _ _ (by first | (with_reducible exact MK.out _ R9) | exact MK.out _ (RawAt.below R9 ((Below.refl _ _).alloc (Nat.le_refl _) _) R9.lt) | exact MK.out _ (RawAt.set_other R9 hne6 _ _)) (fun hHeld => ?_)
    clear hK K
    go_simp
    refine wpAnyH_ready (rs := [10]) (by kernel_rfl) (by simp) ?_
    refine AllReadyH.cons rfl (fun K hK => ?_) ?_
    rotate_left
    · exact AllReadyH.nil
    refine step_append_lies _ rfl (.tmp 62) (.tmp 64) 128 rfl B 69 i0 _ 2 48 Try.underlying128 hi0 hz0 hz1 hz2 rfl (by omega) (.slice A1 s1.length c1) s1.length (sflat s1) (by simp [Act.eval]) hown9 ⟨W5.heap.size, 0, none⟩ 1 1 [.slice Ab y.b.length cb, .slice Af y.f.length cf] (by simp [Act.eval]) rfl (World.news_of_block (cs := #[.slice Ab y.b.length cb, .slice Af y.f.length cf]) (t := 69) (fr := (0, 0)) (heap_alloc_new W5.drew _)) (by simp [Value.oneCell']) (by omega) (by simp only [maxLen]; omega) (by omega) (by simp; omega) _ rfl ?_
    intro g4 cap4 w4 hown4 hg4 hor4 hlt4
    have T4 := OnT.grown (ts := [69]) hown9 hg4 (by simp)
    have hz4 := x9.size
    have RH8 := T4 _ _ _ (by decide) Rh9
    have R68 : RawAt 69 w4 w.heap.size #[.slice none 0 0, .slice none 0 0] := (hg4.block w.heap.size R69.lt (fun hk => by exact K6 _ hk.symm rfl)).trans R69
    have R9 : RawAt 69 w4 (w.heap.size + 1) #[.slice Ab y.b.length cb, .slice Af y.f.length cf] := (hg4.block (w.heap.size + 1) R99.lt (fun hk => by exact K7 _ hk.symm rfl)).trans R99
    have f6 := RawAt.free RH8 1
    have f6c := RawAt.cell RH8 1
    refine hK.out _ _ (by first | (with_reducible exact MK.out _ R9) | exact MK.out _ (RawAt.below R9 ((Below.refl _ _).alloc (Nat.le_refl _) _) R9.lt) | exact MK.out _ (RawAt.set_other R9 hne6 _ _)) (fun hHeld => ?_)
    clear hK K
    go_simp
    refine wpAnyH_take (i := 13) (v := ?_) rfl (by kernel_rfl) (by kernel_rfl) (by kernel_rfl) (fun _ _ _ h => h) (Or.inl ⟨by rfl, ?_⟩) hHeld ?_
    rotate_left
    · intro w hSw
      (try dsimp only at hSw)
      go_simp
      try with_reducible rfl
    go_simp
    refine wpAnyH_ready (rs := [14]) (by kernel_rfl) (by simp) ?_
    refine AllReadyH.cons rfl (fun K hK => ?_) ?_
    rotate_left
    · exact AllReadyH.nil
    go_simp
    go_wp2_with (fail)
    refine hK.out _ _ (by first | (with_reducible exact MK.out _ R9) | exact MK.out _ (RawAt.below R9 ((Below.refl _ _).alloc (Nat.le_refl _) _) R9.lt) | exact MK.out _ (RawAt.set_other R9 hne6 _ _)) (fun hHeld => ?_)
    clear hK K
    go_simp
    refine wpAnyH_done (by kernel_rfl) ?_ _
    refine NoPanic.normal ?_
    have hne8 : w.heap.size ≠ hb := by omega
    have R7 := R68.set_other (b' := hb) hne8 1 (.slice (some ⟨g4, 0, none⟩) (s1.length + 1) cap4)
    have e8 := RawAt.cell R7 0
    have e9 := RawAt.cell R7 1
    have f8 := RawAt.free R7 0
    have f9 := RawAt.free R7 1
    have RF := (R7.set_ 0 (.slice Ab y.b.length cb)).set_ 1 (.slice Af y.f.length cf)
    have p0 := RawAt.cell RF 0
    have p1 := RawAt.cell RF 1
    simp at e8 e9
    simp at p0 p1
    clear RF
    obtain ⟨hc0, hc1⟩ := hHeld
    have zz : W5.heap.size < (W5.drew.alloc (.cells #[.slice Ab y.b.length cb, .slice Af y.f.length cf] 69)).heap.size := by simp
    have TT4 : OnT [69, 131] w w4 := (UT.out.trans (OnT.of x9)).trans (T4.mono (by simp))
    have BB4 : Below B w w4 := (UB.out.trans (x9.mono (by omega))).grown hg4 (by simp; omega) (fun k hk => (lt1 k hk).1)
    have own0 := own_grownH hown0 hg4 (fun k hk hr => NE.out k hk hr)
    have ho4 : ∀ g, g < W5.heap.size → (Value.slice A1 s1.length c1).ownBlock ≠ some g → g4 ≠ g := fun g hg hn he => by
      rcases hor4 with hz | hz
      · exact hn (he ▸ hz)
      · have : g4 = W5.heap.size + 1 ∨ g4 = (W5.drew.alloc (.cells #[.slice Ab y.b.length cb, .slice Af y.f.length cf] 69)).heap.size := .inr hz
        omega
    have hn0 : (Value.slice (some ⟨g0, 0, none⟩) m c0).ownBlock ≠ some w.heap.size := fun he => by simp [Value.ownBlock] at he; omega
    have hn1 : (Value.slice (some ⟨g4, 0, none⟩) (s1.length + 1) cap4).ownBlock ≠ some w.heap.size := fun he => by
      simp [Value.ownBlock] at he
      exact ho4 w.heap.size (by omega) (fun h => K6 _ h rfl) he
    have hd4 : g4 ≠ g0 := ho4 g0 (by omega) (NE.out g0 rfl)
    have hm4 : s.length = m := HMM.out
    subst hm4
    have hp := hist_fin (B := B) (W0 := w) (k := 1) (V := .slice (some ⟨g4, 0, none⟩) (s1.length + 1) cap4) RH8 rfl R68 hne8 (s0 := s) (s1 := s1 ++ [(.slice Ab y.b.length cb, .slice Af y.f.length cf)]) own0 (by rw [sflat_append, List.length_append]; exact hown4) (fun g h1 h2 => hd4 (by simp [Value.ownBlock] at h1 h2; omega)) hn0 hn1 (ST.out.onT TT4 (by decide)) ((SU.out.onT TT4 (by decide)).snoc (p := (.slice Ab y.b.length cb, .slice Af y.f.length cf)) (y := y) (own_onT OB.out TT4 (by decide)) (own_onT OF.out TT4 (by decide))) hle hBw TT4 BB4 (.slice Ab y.b.length cb) (.slice Af y.f.length cf)
    have HP := Lib.hid hp
    have OB' := Lib.hid (own_onT OB.out hp.2.1 (by decide))
    have OF' := Lib.hid (own_onT OF.out hp.2.1 (by decide))
    clear hp hd4 hn0 hn1 ho4 own0 BB4 TT4 zz R7 R68 R9 RH8 T4 hz4 hor4 hlt4 hown4 hg4 f6 f6c e7 e7b e6 x9 hown9 hown0 Rh9 R69 R99 MK RH5 R6
    generalize hW7 : w4.setCell ⟨hb, 1, none⟩ (.slice (some ⟨g4, 0, none⟩) (s1.length + 1) cap4) = W7 at *
    clear hW7
    go_wp2
    refine bodyPost_ret (v := .tuple #[.agg #[.slice Ab y.b.length cb, .slice Af y.f.length cf], .int .i64 0]) (by simp [results, Try.results68, go_sem, p0, p1]) rfl ⟨_, _, rfl, OB'.out, OF'.out, HP.out⟩
  · go_simp
    go_wp2_with (fail)
    refine hK.out _ _ (by first | (with_reducible exact MK.out _ R9) | exact MK.out _ (RawAt.below R9 ((Below.refl _ _).alloc (Nat.le_refl _) _) R9.lt) | exact MK.out _ (RawAt.set_other R9 hne6 _ _)) (fun hHeld => ?_)
    clear hK K
    go_simp
    refine wpAnyH_ready (rs := [7]) (by kernel_rfl) (by simp) ?_
    refine AllReadyH.cons rfl (fun K hK => ?_) ?_
    rotate_left
    · exact AllReadyH.nil
    go_simp
    go_wp2_with (fail)
    refine hK.out _ _ (by first | (with_reducible exact MK.out _ R9) | exact MK.out _ (RawAt.below R9 ((Below.refl _ _).alloc (Nat.le_refl _) _) R9.lt) | exact MK.out _ (RawAt.set_other R9 hne6 _ _)) (fun hHeld => ?_)
    clear hK K
    go_simp
    refine wpAnyH_ready (rs := [10]) (by kernel_rfl) (by simp) ?_
    refine AllReadyH.cons rfl (fun K hK => ?_) ?_
    rotate_left
    · exact AllReadyH.nil
    refine step_append_lies _ rfl (.tmp 62) (.tmp 64) 128 rfl B 69 i0 _ 2 48 Try.underlying128 hi0 hz0 hz1 hz2 rfl (by omega) (.slice A1 s1.length c1) s1.length (sflat s1) (by simp [Act.eval]) hown9 ⟨W5.heap.size, 0, none⟩ 1 1 [.slice Ab y.b.length cb, .slice Af y.f.length cf] (by simp [Act.eval]) rfl (World.news_of_block (cs := #[.slice Ab y.b.length cb, .slice Af y.f.length cf]) (t := 69) (fr := (0, 0)) (heap_alloc_new W5.drew _)) (by simp [Value.oneCell']) (by omega) (by simp only [maxLen]; omega) (by omega) (by simp; omega) _ rfl ?_
    intro g4 cap4 w4 hown4 hg4 hor4 hlt4
    have T4 := OnT.grown (ts := [69]) hown9 hg4 (by simp)
    have hz4 := x9.size
    have RH8 := T4 _ _ _ (by decide) Rh9
    have R68 : RawAt 69 w4 w.heap.size #[.slice none 0 0, .slice none 0 0] := (hg4.block w.heap.size R69.lt (fun hk => by exact K6 _ hk.symm rfl)).trans R69
    have R9 : RawAt 69 w4 (w.heap.size + 1) #[.slice Ab y.b.length cb, .slice Af y.f.length cf] := (hg4.block (w.heap.size + 1) R99.lt (fun hk => by exact K7 _ hk.symm rfl)).trans R99
    have f6 := RawAt.free RH8 1
    have f6c := RawAt.cell RH8 1
    refine hK.out _ _ (by first | (with_reducible exact MK.out _ R9) | exact MK.out _ (RawAt.below R9 ((Below.refl _ _).alloc (Nat.le_refl _) _) R9.lt) | exact MK.out _ (RawAt.set_other R9 hne6 _ _)) (fun hHeld => ?_)
    clear hK K
    go_simp
    refine wpAnyH_take (i := 13) (v := ?_) rfl (by kernel_rfl) (by kernel_rfl) (by kernel_rfl) (fun _ _ _ h => h) (Or.inl ⟨by rfl, ?_⟩) hHeld ?_
    rotate_left
    · intro w hSw
      (try dsimp only at hSw)
      go_simp
      try with_reducible rfl
    go_simp
    refine wpAnyH_ready (rs := [14]) (by kernel_rfl) (by simp) ?_
    refine AllReadyH.cons rfl (fun K hK => ?_) ?_
    rotate_left
    · exact AllReadyH.nil
    go_simp
    go_wp2_with (fail)
    refine hK.out _ _ (by first | (with_reducible exact MK.out _ R9) | exact MK.out _ (RawAt.below R9 ((Below.refl _ _).alloc (Nat.le_refl _) _) R9.lt) | exact MK.out _ (RawAt.set_other R9 hne6 _ _)) (fun hHeld => ?_)
    clear hK K
    go_simp
    refine wpAnyH_done (by kernel_rfl) ?_ _
    refine NoPanic.normal ?_
    have hne8 : w.heap.size ≠ hb := by omega
    have R7 := R68.set_other (b' := hb) hne8 1 (.slice (some ⟨g4, 0, none⟩) (s1.length + 1) cap4)
    have e8 := RawAt.cell R7 0
    have e9 := RawAt.cell R7 1
    have f8 := RawAt.free R7 0
    have f9 := RawAt.free R7 1
    have RF := (R7.set_ 0 (.slice Ab y.b.length cb)).set_ 1 (.slice Af y.f.length cf)
    have p0 := RawAt.cell RF 0
    have p1 := RawAt.cell RF 1
    simp at e8 e9
    simp at p0 p1
    clear RF
    obtain ⟨hc0, hc1⟩ := hHeld
    have zz : W5.heap.size < (W5.drew.alloc (.cells #[.slice Ab y.b.length cb, .slice Af y.f.length cf] 69)).heap.size := by simp
    have TT4 : OnT [69, 131] w w4 := (UT.out.trans (OnT.of x9)).trans (T4.mono (by simp))
    have BB4 : Below B w w4 := (UB.out.trans (x9.mono (by omega))).grown hg4 (by simp; omega) (fun k hk => (lt1 k hk).1)
    have own0 := own_grownH hown0 hg4 (fun k hk hr => NE.out k hk hr)
    have ho4 : ∀ g, g < W5.heap.size → (Value.slice A1 s1.length c1).ownBlock ≠ some g → g4 ≠ g := fun g hg hn he => by
      rcases hor4 with hz | hz
      · exact hn (he ▸ hz)
      · have : g4 = W5.heap.size + 1 ∨ g4 = (W5.drew.alloc (.cells #[.slice Ab y.b.length cb, .slice Af y.f.length cf] 69)).heap.size := .inr hz
        omega
    have hn0 : (Value.slice (some ⟨g0, 0, none⟩) m c0).ownBlock ≠ some w.heap.size := fun he => by simp [Value.ownBlock] at he; omega
    have hn1 : (Value.slice (some ⟨g4, 0, none⟩) (s1.length + 1) cap4).ownBlock ≠ some w.heap.size := fun he => by
      simp [Value.ownBlock] at he
      exact ho4 w.heap.size (by omega) (fun h => K6 _ h rfl) he
    have hd4 : g4 ≠ g0 := ho4 g0 (by omega) (NE.out g0 rfl)
    have hm4 : s.length = m := HMM.out
    subst hm4
    have hp := hist_fin (B := B) (W0 := w) (k := 1) (V := .slice (some ⟨g4, 0, none⟩) (s1.length + 1) cap4) RH8 rfl R68 hne8 (s0 := s) (s1 := s1 ++ [(.slice Ab y.b.length cb, .slice Af y.f.length cf)]) own0 (by rw [sflat_append, List.length_append]; exact hown4) (fun g h1 h2 => hd4 (by simp [Value.ownBlock] at h1 h2; omega)) hn0 hn1 (ST.out.onT TT4 (by decide)) ((SU.out.onT TT4 (by decide)).snoc (p := (.slice Ab y.b.length cb, .slice Af y.f.length cf)) (y := y) (own_onT OB.out TT4 (by decide)) (own_onT OF.out TT4 (by decide))) hle hBw TT4 BB4 (.slice Ab y.b.length cb) (.slice Af y.f.length cf)
    have HP := Lib.hid hp
    have OB' := Lib.hid (own_onT OB.out hp.2.1 (by decide))
    have OF' := Lib.hid (own_onT OF.out hp.2.1 (by decide))
    clear hp hd4 hn0 hn1 ho4 own0 BB4 TT4 zz R7 R68 R9 RH8 T4 hz4 hor4 hlt4 hown4 hg4 f6 f6c e7 e7b e6 x9 hown9 hown0 Rh9 R69 R99 MK RH5 R6
    generalize hW7 : w4.setCell ⟨hb, 1, none⟩ (.slice (some ⟨g4, 0, none⟩) (s1.length + 1) cap4) = W7 at *
    clear hW7
    go_wp2
    refine bodyPost_ret (v := .tuple #[.agg #[.slice Ab y.b.length cb, .slice Af y.f.length cf], .int .i64 0]) (by simp [results, Try.results68, go_sem, p0, p1]) rfl ⟨_, _, rfl, OB'.out, OF'.out, HP.out⟩
set_option maxHeartbeats 4000000 in
set_option maxRecDepth 100000 in
theorem hMove10 {B hb : Nat} {w : World} {d u : List S2} {y : S2} (h : HAt B w hb u (d ++ [y])) (hBw : B ≤ w.heap.size) (hd : d.length ≤ 100) (hu : u.length ≤ 100) :
    Calls Try.prog 68 #[.pointer (some ⟨hb, 0, none⟩), .int .i64 1, .int .i64 0] w fun e w' => ∃ vb vf, e = .returned (.tuple #[.agg #[vb, vf], .int .i64 0]) ∧ OwnE w' vb y.b ∧ OwnE w' vf y.f ∧ HAt B w' hb (u ++ [y]) d ∧ OnT [69, 131] w w' ∧ Below B w w' := by
  have hle := h.le
  obtain ⟨⟨v1, v0, s1, s0, a1, a3, a2, a4', a6, a5⟩, _⟩ := h
  have a4 : ∀ g, v0.ownBlock = some g → v1.ownBlock ≠ some g := fun g e0 e1 => a4' g e1 e0
  clear a4'
  obtain ⟨s, p, rfl, b1, b2, b3⟩ := a5.last
  have hsl := b1.len
  have hs1 := a6.len
  have hat := sflat_at s p
  rw [show (s ++ [p]).length = s.length + 1 by simp] at a2
  obtain ⟨g0, c0, rfl⟩ := own_slice a2 (by omega)
  obtain ⟨cur0, hr0, hBg⟩ := own_rawB a2
  obtain ⟨A1, c1, rfl⟩ := own_form a3
  obtain ⟨Ab, cb, e1⟩ := own_form b2
  obtain ⟨Af, cf, e2⟩ := own_form b3
  have x1 : Below w.heap.size w (w.alloc (.cells #[.slice none 0 0, .slice none 0 0] 69)) := (Below.refl _ _).alloc (Nat.le_refl _) _
  have R1 := RawAt.below a1 x1 a1.lt
  have e0 := RawAt.cell R1 1
  simp at e0
  have P1 := own_below a2 x1
  have k0 := P1.cellAt (s.length * 2) (by omega)
  have k1 := P1.cellAt (s.length * 2 + 1) (by omega)
  rw [hat.1] at k0
  rw [hat.2] at k1
  have ONE := Lib.hid (sflat_one a5)
  have ep : p = (.slice Ab y.b.length cb, .slice Af y.f.length cf) := by rw [← e1, ← e2]
  rw [ep] at a2 ONE
  rw [e1] at b2 k0
  rw [e2] at b3 k1
  clear R1 P1
  have K6 : ∀ k, (Value.slice A1 s1.length c1).ownBlock = some k → k = w.heap.size → False := fun k hk h => by have := (a3.lt k hk).2; omega
  have K7 : ∀ k, (Value.slice A1 s1.length c1).ownBlock = some k → k = w.heap.size + 1 → False := fun k hk h => by have := (a3.lt k hk).2; omega
  have RH := Lib.hid a1
  have O0 := Lib.hid a2
  have O1 := Lib.hid a3
  have NE := Lib.hid a4
  have ST := Lib.hid b1
  have SU := Lib.hid a6
  have OB := Lib.hid b2
  have OF := Lib.hid b3
  have RG := Lib.hid hr0
  have HS1 := Lib.hid hs1
  have HSL := Lib.hid hsl
  have hm : s.length ≤ 100 := by omega
  have hm1 : s1.length ≤ 100 := by omega
  clear a1 a2 a3 a4 a5 a6 b1 b2 b3 hr0 hs1 hsl hat
  generalize hmm : s.length = m at *
  have HMM := Lib.hid hmm
  clear hmm
  have n1 : decide ((m : Int) + 1 = 0) = false := decide_eq_false (by omega)
  have n3 : IntKind.i64.wrap ((m : Int) + 1) = (m : Int) + 1 := IntWalk.i64_in _ (by omega)
  have n2 : (m : Int) + 1 - 1 = m := by omega
  go_enter Try.func68, Try.ntmps68
  go_wp2_with fail
  have x2 : Below w.heap.size w ((w.alloc (.cells #[.slice none 0 0, .slice none 0 0] 69)).alloc (.cells #[.slice Ab y.b.length cb, .slice Af y.f.length cf] 69)) := x1.alloc x1.size _
  have R6 : RawAt 69 ((w.alloc (.cells #[.slice none 0 0, .slice none 0 0] 69)).alloc (.cells #[.slice Ab y.b.length cb, .slice Af y.f.length cf] 69)) w.heap.size #[.slice none 0 0, .slice none 0 0] := RawAt.below (heap_alloc_new w _) ((Below.refl _ _).alloc (Nat.le_refl _) _) (RawAt.lt (t := 69) (heap_alloc_new w _))
  have R9 : RawAt 69 ((w.alloc (.cells #[.slice none 0 0, .slice none 0 0] 69)).alloc (.cells #[.slice Ab y.b.length cb, .slice Af y.f.length cf] 69)) (w.heap.size + 1) #[.slice Ab y.b.length cb, .slice Af y.f.length cf] := by
    have := heap_alloc_new (w.alloc (.cells #[.slice none 0 0, .slice none 0 0] 69)) (.cells #[.slice Ab y.b.length cb, .slice Af y.f.length cf] 69)
    have hz : (w.alloc (.cells #[.slice none 0 0, .slice none 0 0] 69)).heap.size = w.heap.size + 1 := by simp
    rw [hz] at this
    exact this
  clear e0 k0 k1
  generalize ((w.alloc (.cells #[.slice none 0 0, .slice none 0 0] 69)).alloc (.cells #[.slice Ab y.b.length cb, .slice Af y.f.length cf] 69)) = W1 at *
  have xd : Below w.heap.size w W1.drew := x2.drew
  have Rd := RawAt.below RH.out xd RH.out.lt
  have e0 := RawAt.cell Rd 1
  simp at e0
  have Od := own_below O0.out xd
  have HDL := Lib.hid fun (W : World) (h : W.ownsRow B 69 2 (.slice (some ⟨g0, 0, none⟩) (m + 1) c0) (m + 1) (sflat (s ++ [(.slice Ab y.b.length cb, .slice Af y.f.length cf)]))) => hDelete_any (i := m) (m := 0) h ONE.out (by omega)
  simp only [Nat.add_zero] at HDL
  refine wp_region_noPanic ?_
  refine wp_region_held_drew (S := (fun _ => True)) (by kernel_rfl) (trivial) (fun hHeld => ?_)
  refine wpAnyH_take (i := 0) (v := ?_) rfl (by kernel_rfl) (by kernel_rfl) (by kernel_rfl) (fun _ _ _ h => h) (Or.inl ⟨by rfl, ?_⟩) hHeld ?_
  rotate_left
  · intro w hSw
    (try dsimp only at hSw)
    go_simp
    try with_reducible rfl
  go_simp
  refine wpAnyH_take (i := 1) (v := ?_) rfl (by kernel_rfl) (by kernel_rfl) (by kernel_rfl) (fun _ _ _ h => h) (Or.inl ⟨by rfl, ?_⟩) hHeld ?_
  rotate_left
  · intro w hSw
    (try dsimp only at hSw)
    go_simp
    try with_reducible rfl
  go_simp
  refine wpAnyH_take (i := 2) (v := ?_) rfl (by kernel_rfl) (by kernel_rfl) (by kernel_rfl) (fun _ _ _ h => h) (Or.inl ⟨by rfl, ?_⟩) hHeld ?_
  rotate_left
  · intro w hSw
    (try dsimp only at hSw)
    go_simp
    try with_reducible rfl
  go_simp
  refine wpAnyH_take (i := 3) (v := ?_) rfl (by kernel_rfl) (by kernel_rfl) (by kernel_rfl) (fun _ _ _ h => h) (Or.inl ⟨by rfl, ?_⟩) hHeld ?_
  rotate_left
  · intro w hSw
    (try dsimp only at hSw)
    go_simp
    try with_reducible rfl
  go_simp
  refine wpAnyH_take (i := 4) (v := ?_) rfl (by kernel_rfl) (by kernel_rfl) (by kernel_rfl) (fun _ _ _ h => h) (Or.inl ⟨by rfl, ?_⟩) hHeld ?_
  rotate_left
  · intro w hSw
    (try dsimp only at hSw)
    go_simp
    try with_reducible rfl
  go_simp
  refine wpAnyH_take (i := 5) (v := ?_) rfl (by kernel_rfl) (by kernel_rfl) (by kernel_rfl) (fun _ _ _ h => h) (Or.inl ⟨by rfl, ?_⟩) hHeld ?_
  rotate_left
  · intro w hSw
    (try dsimp only at hSw)
    go_simp
    try with_reducible rfl
  go_simp
  refine wpAnyH_take (i := 6) (v := ?_) rfl (by kernel_rfl) (by kernel_rfl) (by kernel_rfl) (fun _ _ _ h => h) (Or.inl ⟨by rfl, ?_⟩) hHeld ?_
  rotate_left
  · intro w hSw
    (try dsimp only at hSw)
    go_simp
    try with_reducible rfl
  go_simp
  refine wpAnyH_take (i := 8) (v := ?_) rfl (by kernel_rfl) (by kernel_rfl) (by kernel_rfl) (fun _ _ _ h => h) (Or.inl ⟨by rfl, ?_⟩) hHeld ?_
  rotate_left
  · intro w hSw
    (try dsimp only at hSw)
    go_simp
    try with_reducible rfl
  go_simp
  refine wpAnyH_take (i := 9) (v := ?_) rfl (by kernel_rfl) (by kernel_rfl) (by kernel_rfl) (fun _ _ _ h => h) (Or.inl ⟨by rfl, ?_⟩) hHeld ?_
  rotate_left
  · intro w hSw
    (try dsimp only at hSw)
    go_simp
    try with_reducible rfl
  go_simp
  refine wpAnyH_take (i := 10) (v := ?_) rfl (by kernel_rfl) (by kernel_rfl) (by kernel_rfl) (fun _ _ _ h => h) (Or.inl ⟨by rfl, ?_⟩) hHeld ?_
  rotate_left
  · intro w hSw
    (try dsimp only at hSw)
    go_simp
    try with_reducible rfl
  go_simp
  refine wpAnyH_take (i := 12) (v := ?_) rfl (by kernel_rfl) (by kernel_rfl) (by kernel_rfl) (fun _ _ _ h => h) (Or.inl ⟨by rfl, ?_⟩) hHeld ?_
  rotate_left
  · intro w hSw
    (try dsimp only at hSw)
    go_simp
    try with_reducible rfl
  go_simp
  refine wpAnyH_take (i := 13) (v := ?_) rfl (by kernel_rfl) (by kernel_rfl) (by kernel_rfl) (fun _ _ _ h => h) (Or.inl ⟨by rfl, ?_⟩) hHeld ?_
  rotate_left
  · intro w hSw
    (try dsimp only at hSw)
    go_simp
    try with_reducible rfl
  go_simp
  refine wpAnyH_ready (rs := [7]) (by kernel_rfl) (by simp) ?_
  refine AllReadyH.cons rfl (fun K hK => ?_) ?_
  rotate_left
  · exact AllReadyH.nil
  go_simp
  go_wp2_with (go_at_call 67; (try rw [n3]); ((with_reducible refine (HDL.out _ Od).mono ?_); rintro e w5 ⟨rfl, ho5, hb5⟩); have T5 := hb5.onT (ts := [69]) (RG.out.below xd RG.out.lt) (by simp); have R5 := T5 _ _ _ (by decide) Rd; have e5 := RawAt.cell R5 1; have f5 := RawAt.free R5 1; simp at e5)
  refine hK.out _ _ (trivial) (fun hHeld => ?_)
  clear hK K
  go_simp
  refine wpAnyH_ready (rs := [11]) (by kernel_rfl) (by simp) ?_
  refine AllReadyH.cons rfl (fun K hK => ?_) ?_
  rotate_left
  · exact AllReadyH.nil
  go_simp
  go_wp2_with (go_at_call 67; (try rw [n3]); ((with_reducible refine (HDL.out _ Od).mono ?_); rintro e w5 ⟨rfl, ho5, hb5⟩); have T5 := hb5.onT (ts := [69]) (RG.out.below xd RG.out.lt) (by simp); have R5 := T5 _ _ _ (by decide) Rd; have e5 := RawAt.cell R5 1; have f5 := RawAt.free R5 1; simp at e5)
  refine hK.out _ _ (trivial) (fun hHeld => ?_)
  clear hK K
  go_simp
  refine wpAnyH_take (i := 14) (v := ?_) rfl (by kernel_rfl) (by kernel_rfl) (by kernel_rfl) (fun _ _ _ h => h) (Or.inl ⟨by rfl, ?_⟩) hHeld ?_
  rotate_left
  · intro w hSw
    (try dsimp only at hSw)
    go_simp
    try with_reducible rfl
  go_simp
  refine wpAnyH_ready (rs := [15]) (by kernel_rfl) (by simp) ?_
  refine AllReadyH.cons rfl (fun K hK => ?_) ?_
  rotate_left
  · exact AllReadyH.nil
  go_simp
  go_wp2_with (go_at_call 67; (try rw [n3]); ((with_reducible refine (HDL.out _ Od).mono ?_); rintro e w5 ⟨rfl, ho5, hb5⟩); have T5 := hb5.onT (ts := [69]) (RG.out.below xd RG.out.lt) (by simp); have R5 := T5 _ _ _ (by decide) Rd; have e5 := RawAt.cell R5 1; have f5 := RawAt.free R5 1; simp at e5)
  refine hK.out _ _ (trivial) (fun hHeld => ?_)
  clear hK K
  go_simp
  refine wpAnyH_done (by kernel_rfl) ?_ _
  refine NoPanic.normal ?_
  have hgl : g0 < w.heap.size := RG.out.lt
  have hbl : hb < w.heap.size := RH.out.lt
  have z1 := xd.size
  have z5 := hb5.below.size
  have R6' := hb5.raw (w' := w5) (show RawAt 69 W1.drew w.heap.size _ from R6) (by omega)
  have R9' := hb5.raw (w' := w5) (show RawAt 69 W1.drew (w.heap.size + 1) _ from R9) (by omega)
  have R6 := R6'.set_other (b' := hb) (by omega) 1 (.slice (some ⟨g0, 0, none⟩) m c0)
  have R9 := R9'.set_other (b' := hb) (by omega) 1 (.slice (some ⟨g0, 0, none⟩) m c0)
  have Q5 : OnT [131] w5 (w5.setCell ⟨hb, 1, none⟩ (.slice (some ⟨g0, 0, none⟩) m c0)) := (OnT.refl _ w5).set R5 (by simp) 1 _
  have RH5 : RawAt 131 (w5.setCell ⟨hb, 1, none⟩ (.slice (some ⟨g0, 0, none⟩) m c0)) hb #[.slice A1 s1.length c1, .slice (some ⟨g0, 0, none⟩) m c0] := R5.set_ 1 _
  have O15 := own_onT (own_onB (own_below O1.out xd) hb5 (NE.out g0 rfl)) Q5 (by decide)
  have O05 : (w5.setCell ⟨hb, 1, none⟩ (.slice (some ⟨g0, 0, none⟩) m c0)).ownsRow B 69 2 (.slice (some ⟨g0, 0, none⟩) m c0) m (sflat s) := by
    have := sflat_but s (.slice Ab y.b.length cb, .slice Af y.f.length cf)
    rw [HMM.out] at this
    rw [this] at ho5
    exact own_onT ho5 Q5 (by decide)
  have T05 : OnT [69, 131] w (w5.setCell ⟨hb, 1, none⟩ (.slice (some ⟨g0, 0, none⟩) m c0)) := ((OnT.of xd).trans (T5.mono (by simp))).trans (Q5.mono (by simp))
  have B05 : Below B w (w5.setCell ⟨hb, 1, none⟩ (.slice (some ⟨g0, 0, none⟩) m c0)) := ((xd.mono hBw).trans (hb5.below.mono hBg)).setCell (p := ⟨hb, 1, none⟩) hle _
  have hsz5 : w.heap.size + 1 < (w5.setCell ⟨hb, 1, none⟩ (.slice (some ⟨g0, 0, none⟩) m c0)).heap.size := R9.lt
  have U05 := Lib.hid O05
  have U15 := Lib.hid O15
  have UT := Lib.hid T05
  have UB := Lib.hid B05
  have lt1 := O15.lt
  clear HDL Od Rd xd e0 hb5 T5 R5 e5 f5 R6' R9' Q5 O15 O05 T05 B05 ho5 z5 z1
  clear x1 x2
  generalize w5.setCell ⟨hb, 1, none⟩ (.slice (some ⟨g0, 0, none⟩) m c0) = W5 at *
  obtain ⟨i0, hi0, hz0, hz1, hz2⟩ := info_parts step_infoH
  have e6 := RawAt.cell RH5 0
  simp at e6
  have f6 := RawAt.free RH5 0
  have hne6 : w.heap.size + 1 ≠ hb := by omega
  have MK : Hid (∀ W : World, RawAt 69 W (w.heap.size + 1) #[.slice Ab y.b.length cb, .slice Af y.f.length cf] → (fun W : World => W.cell? ⟨w.heap.size + 1, 0, none⟩ = some (.slice Ab y.b.length cb) ∧ W.cell? ⟨w.heap.size + 1, 1, none⟩ = some (.slice Af y.f.length cf)) W) := fun W h => ⟨RawAt.cell h 0, RawAt.cell h 1⟩
  have R9 : RawAt 69 W5.drew (w.heap.size + 1) #[.slice Ab y.b.length cb, .slice Af y.f.length cf] := R9
  have x9 : Below W5.heap.size W5 (W5.drew.alloc (.cells #[.slice Ab y.b.length cb, .slice Af y.f.length cf] 69)) := (Below.refl _ _).drew.alloc (Nat.le_refl _) _
  have hown9 := own_below U15.out x9
  have hown0 := own_below U05.out x9
  have Rh9 := RawAt.below RH5 x9 RH5.lt
  have R69 := RawAt.below R6 x9 R6.lt
  have R99 := RawAt.below (show RawAt 69 W5 (w.heap.size + 1) _ from R9) x9 R9.lt
  have e7 := RawAt.cell Rh9 0
  simp at e7
  have e7b := RawAt.cell (RawAt.below RH5 ((Below.refl W5.heap.size W5).alloc (Nat.le_refl _) (.cells #[.slice Ab y.b.length cb, .slice Af y.f.length cf] 69)) RH5.lt) 0
  simp at e7b
  go_wp2_with fail
  refine wp_region_noPanic ?_
  refine wp_region_held_drew (S := (fun W => W.cell? ⟨w.heap.size + 1, 0, none⟩ = some (.slice Ab y.b.length cb) ∧ W.cell? ⟨w.heap.size + 1, 1, none⟩ = some (.slice Af y.f.length cf))) (by kernel_rfl) (MK.out _ R9) (fun hHeld => ?_)
  refine wpAnyH_take (i := 0) (v := ?_) rfl (by kernel_rfl) (by kernel_rfl) (by kernel_rfl) (fun _ _ _ h => h) (Or.inl ⟨by rfl, ?_⟩) hHeld ?_
  rotate_left
  · intro w hSw
    (try dsimp only at hSw)
    go_simp
    try with_reducible rfl
  go_simp
  refine wpAnyH_take (i := 1) (v := ?_) rfl (by kernel_rfl) (by kernel_rfl) (by kernel_rfl) (fun _ _ _ h => h) (Or.inl ⟨by rfl, ?_⟩) hHeld ?_
  rotate_left
  · intro w hSw
    (try dsimp only at hSw)
    go_simp
    try with_reducible rfl
  go_simp
  refine wpAnyH_take (i := 2) (v := ?_) rfl (by kernel_rfl) (by kernel_rfl) (by kernel_rfl) (fun _ _ _ h => h) (Or.inl ⟨by rfl, ?_⟩) hHeld ?_
  rotate_left
  · intro w hSw
    (try dsimp only at hSw)
    go_simp
    try with_reducible rfl
  go_simp
  refine wpAnyH_take (i := 3) (v := ?_) rfl (by kernel_rfl) (by kernel_rfl) (by kernel_rfl) (fun _ _ _ h => h) (Or.inl ⟨by rfl, ?_⟩) hHeld ?_
  rotate_left
  · intro w hSw
    (try dsimp only at hSw)
    go_simp
    try with_reducible rfl
  go_simp
  refine wpAnyH_take (i := 4) (v := ?_) rfl (by kernel_rfl) (by kernel_rfl) (by kernel_rfl) (fun _ _ _ h => h) (Or.inl ⟨by rfl, ?_⟩) hHeld ?_
  rotate_left
  · intro w hSw
    (try dsimp only at hSw)
    go_simp
    try with_reducible rfl
  go_simp
  refine wpAnyH_take (i := 5) (v := ?_) rfl (by kernel_rfl) (by kernel_rfl) (by kernel_rfl) (fun _ _ _ h => h) (Or.inl ⟨by rfl, ?_⟩) hHeld ?_
  rotate_left
  · intro w hSw
    (try dsimp only at hSw)
    go_simp
    try with_reducible rfl
  go_simp
  refine wpAnyH_take (i := 6) (v := ?_) rfl (by kernel_rfl) (by kernel_rfl) (by kernel_rfl) (fun _ _ _ h => h) (Or.inl ⟨by rfl, ?_⟩) hHeld ?_
  rotate_left
  · intro w hSw
    (try dsimp only at hSw)
    go_simp
    try with_reducible rfl
  go_simp
  refine wpAnyH_take (i := 8) (v := ?_) rfl (by kernel_rfl) (by kernel_rfl) (by kernel_rfl) (fun _ _ _ h => h) (Or.inl ⟨by rfl, ?_⟩) hHeld ?_
  rotate_left
  · intro w hSw
    (try dsimp only at hSw)
    go_simp
    try with_reducible rfl
  go_simp
  refine wpAnyH_take (i := 11) (v := ?_) rfl (by kernel_rfl) (by kernel_rfl) (by kernel_rfl) (fun _ _ _ h => h) (Or.inl ⟨by rfl, ?_⟩) hHeld ?_
  rotate_left
  · intro w hSw
    (try dsimp only at hSw)
    go_simp
    try with_reducible rfl
  go_simp
  refine wpAnyH_take (i := 12) (v := ?_) rfl (by kernel_rfl) (by kernel_rfl) (by kernel_rfl) (fun _ _ _ h => h) (Or.inl ⟨by rfl, ?_⟩) hHeld ?_
  rotate_left
  · intro w hSw
    (try dsimp only at hSw)
    go_simp
    try with_reducible rfl
  go_simp
  refine wpAnyH_ready (rs := [7, 9]) (by kernel_rfl) (by simp) ?_
  refine AllReadyH.cons rfl (fun K hK => ?_) (AllReadyH.cons rfl (fun K hK => ?_) AllReadyH.nil)
  · go_simp
    go_wp2_with (fail)
    refine hK.out _ _ (by first | (with_reducible exact MK.out _ R9) | exact MK.out _ (RawAt.below R9 ((Below.refl _ _).alloc (Nat.le_refl _) _) R9.lt) | exact MK.out _ (RawAt.set_other R9 hne6 _ _)) (fun hHeld => ?_)
    clear hK K
    go_simp
    refine wpAnyH_ready (rs := [9]) (by kernel_rfl) (by simp) ?_
    refine AllReadyH.cons rfl (fun K hK => ?_) ?_
    rotate_left
    · exact AllReadyH.nil
    go_simp
    go_wp2_with (fail)
    refine hK.out _ _ (by first | (with_reducible exact MK.out _ R9) | exact MK.out _ (RawAt.below R9 ((Below.refl _ _).alloc (Nat.le_refl _) _) R9.lt) | exact MK.out _ (RawAt.set_other R9 hne6 _ _)) (fun hHeld => ?_)
    clear hK K
    go_simp
    refine wpAnyH_ready (rs := [10]) (by kernel_rfl) (by simp) ?_
    refine AllReadyH.cons rfl (fun K hK => ?_) ?_
    rotate_left
    · exact AllReadyH.nil
    refine step_append_lies _ rfl (.tmp 62) (.tmp 64) 128 rfl B 69 i0 _ 2 48 Try.underlying128 hi0 hz0 hz1 hz2 rfl (by omega) (.slice A1 s1.length c1) s1.length (sflat s1) (by simp [Act.eval]) hown9 ⟨W5.heap.size, 0, none⟩ 1 1 [.slice Ab y.b.length cb, .slice Af y.f.length cf] (by simp [Act.eval]) rfl (World.news_of_block (cs := #[.slice Ab y.b.length cb, .slice Af y.f.length cf]) (t := 69) (fr := (0, 0)) (heap_alloc_new W5.drew _)) (by simp [Value.oneCell']) (by omega) (by simp only [maxLen]; omega) (by omega) (by simp; omega) _ rfl ?_
    intro g4 cap4 w4 hown4 hg4 hor4 hlt4
    have T4 := OnT.grown (ts := [69]) hown9 hg4 (by simp)
    have hz4 := x9.size
    have RH8 := T4 _ _ _ (by decide) Rh9
    have R68 : RawAt 69 w4 w.heap.size #[.slice none 0 0, .slice none 0 0] := (hg4.block w.heap.size R69.lt (fun hk => by exact K6 _ hk.symm rfl)).trans R69
    have R9 : RawAt 69 w4 (w.heap.size + 1) #[.slice Ab y.b.length cb, .slice Af y.f.length cf] := (hg4.block (w.heap.size + 1) R99.lt (fun hk => by exact K7 _ hk.symm rfl)).trans R99
    have f6 := RawAt.free RH8 0
    have f6c := RawAt.cell RH8 0
    refine hK.out _ _ (by first | (with_reducible exact MK.out _ R9) | exact MK.out _ (RawAt.below R9 ((Below.refl _ _).alloc (Nat.le_refl _) _) R9.lt) | exact MK.out _ (RawAt.set_other R9 hne6 _ _)) (fun hHeld => ?_)
    clear hK K
    go_simp
    refine wpAnyH_take (i := 13) (v := ?_) rfl (by kernel_rfl) (by kernel_rfl) (by kernel_rfl) (fun _ _ _ h => h) (Or.inl ⟨by rfl, ?_⟩) hHeld ?_
    rotate_left
    · intro w hSw
      (try dsimp only at hSw)
      go_simp
      try with_reducible rfl
    go_simp
    refine wpAnyH_ready (rs := [14]) (by kernel_rfl) (by simp) ?_
    refine AllReadyH.cons rfl (fun K hK => ?_) ?_
    rotate_left
    · exact AllReadyH.nil
    go_simp
    go_wp2_with (fail)
    refine hK.out _ _ (by first | (with_reducible exact MK.out _ R9) | exact MK.out _ (RawAt.below R9 ((Below.refl _ _).alloc (Nat.le_refl _) _) R9.lt) | exact MK.out _ (RawAt.set_other R9 hne6 _ _)) (fun hHeld => ?_)
    clear hK K
    go_simp
    refine wpAnyH_done (by kernel_rfl) ?_ _
    refine NoPanic.normal ?_
    have hne8 : w.heap.size ≠ hb := by omega
    have R7 := R68.set_other (b' := hb) hne8 0 (.slice (some ⟨g4, 0, none⟩) (s1.length + 1) cap4)
    have e8 := RawAt.cell R7 0
    have e9 := RawAt.cell R7 1
    have f8 := RawAt.free R7 0
    have f9 := RawAt.free R7 1
    have RF := (R7.set_ 0 (.slice Ab y.b.length cb)).set_ 1 (.slice Af y.f.length cf)
    have p0 := RawAt.cell RF 0
    have p1 := RawAt.cell RF 1
    simp at e8 e9
    simp at p0 p1
    clear RF
    obtain ⟨hc0, hc1⟩ := hHeld
    have zz : W5.heap.size < (W5.drew.alloc (.cells #[.slice Ab y.b.length cb, .slice Af y.f.length cf] 69)).heap.size := by simp
    have TT4 : OnT [69, 131] w w4 := (UT.out.trans (OnT.of x9)).trans (T4.mono (by simp))
    have BB4 : Below B w w4 := (UB.out.trans (x9.mono (by omega))).grown hg4 (by simp; omega) (fun k hk => (lt1 k hk).1)
    have own0 := own_grownH hown0 hg4 (fun k hk hr => NE.out k hk hr)
    have ho4 : ∀ g, g < W5.heap.size → (Value.slice A1 s1.length c1).ownBlock ≠ some g → g4 ≠ g := fun g hg hn he => by
      rcases hor4 with hz | hz
      · exact hn (he ▸ hz)
      · have : g4 = W5.heap.size + 1 ∨ g4 = (W5.drew.alloc (.cells #[.slice Ab y.b.length cb, .slice Af y.f.length cf] 69)).heap.size := .inr hz
        omega
    have hn0 : (Value.slice (some ⟨g0, 0, none⟩) m c0).ownBlock ≠ some w.heap.size := fun he => by simp [Value.ownBlock] at he; omega
    have hn1 : (Value.slice (some ⟨g4, 0, none⟩) (s1.length + 1) cap4).ownBlock ≠ some w.heap.size := fun he => by
      simp [Value.ownBlock] at he
      exact ho4 w.heap.size (by omega) (fun h => K6 _ h rfl) he
    have hd4 : g4 ≠ g0 := ho4 g0 (by omega) (NE.out g0 rfl)
    have hm4 : s.length = m := HMM.out
    subst hm4
    have hp := hist_fin (B := B) (W0 := w) (k := 0) (V := .slice (some ⟨g4, 0, none⟩) (s1.length + 1) cap4) RH8 rfl R68 hne8 (s1 := s) (s0 := s1 ++ [(.slice Ab y.b.length cb, .slice Af y.f.length cf)]) (by rw [sflat_append, List.length_append]; exact hown4) own0 (fun g h1 h2 => hd4 (by simp [Value.ownBlock] at h1 h2; omega)) hn1 hn0 ((SU.out.onT TT4 (by decide)).snoc (p := (.slice Ab y.b.length cb, .slice Af y.f.length cf)) (y := y) (own_onT OB.out TT4 (by decide)) (own_onT OF.out TT4 (by decide))) (ST.out.onT TT4 (by decide)) hle hBw TT4 BB4 (.slice Ab y.b.length cb) (.slice Af y.f.length cf)
    have HP := Lib.hid hp
    have OB' := Lib.hid (own_onT OB.out hp.2.1 (by decide))
    have OF' := Lib.hid (own_onT OF.out hp.2.1 (by decide))
    clear hp hd4 hn0 hn1 ho4 own0 BB4 TT4 zz R7 R68 R9 RH8 T4 hz4 hor4 hlt4 hown4 hg4 f6 f6c e7 e7b e6 x9 hown9 hown0 Rh9 R69 R99 MK RH5 R6
    generalize hW7 : w4.setCell ⟨hb, 0, none⟩ (.slice (some ⟨g4, 0, none⟩) (s1.length + 1) cap4) = W7 at *
    clear hW7
    go_wp2
    refine bodyPost_ret (v := .tuple #[.agg #[.slice Ab y.b.length cb, .slice Af y.f.length cf], .int .i64 0]) (by simp [results, Try.results68, go_sem, p0, p1]) rfl ⟨_, _, rfl, OB'.out, OF'.out, HP.out⟩
  · go_simp
    go_wp2_with (fail)
    refine hK.out _ _ (by first | (with_reducible exact MK.out _ R9) | exact MK.out _ (RawAt.below R9 ((Below.refl _ _).alloc (Nat.le_refl _) _) R9.lt) | exact MK.out _ (RawAt.set_other R9 hne6 _ _)) (fun hHeld => ?_)
    clear hK K
    go_simp
    refine wpAnyH_ready (rs := [7]) (by kernel_rfl) (by simp) ?_
    refine AllReadyH.cons rfl (fun K hK => ?_) ?_
    rotate_left
    · exact AllReadyH.nil
    go_simp
    go_wp2_with (fail)
    refine hK.out _ _ (by first | (with_reducible exact MK.out _ R9) | exact MK.out _ (RawAt.below R9 ((Below.refl _ _).alloc (Nat.le_refl _) _) R9.lt) | exact MK.out _ (RawAt.set_other R9 hne6 _ _)) (fun hHeld => ?_)
    clear hK K
    go_simp
    refine wpAnyH_ready (rs := [10]) (by kernel_rfl) (by simp) ?_
    refine AllReadyH.cons rfl (fun K hK => ?_) ?_
    rotate_left
    · exact AllReadyH.nil
    refine step_append_lies _ rfl (.tmp 62) (.tmp 64) 128 rfl B 69 i0 _ 2 48 Try.underlying128 hi0 hz0 hz1 hz2 rfl (by omega) (.slice A1 s1.length c1) s1.length (sflat s1) (by simp [Act.eval]) hown9 ⟨W5.heap.size, 0, none⟩ 1 1 [.slice Ab y.b.length cb, .slice Af y.f.length cf] (by simp [Act.eval]) rfl (World.news_of_block (cs := #[.slice Ab y.b.length cb, .slice Af y.f.length cf]) (t := 69) (fr := (0, 0)) (heap_alloc_new W5.drew _)) (by simp [Value.oneCell']) (by omega) (by simp only [maxLen]; omega) (by omega) (by simp; omega) _ rfl ?_
    intro g4 cap4 w4 hown4 hg4 hor4 hlt4
    have T4 := OnT.grown (ts := [69]) hown9 hg4 (by simp)
    have hz4 := x9.size
    have RH8 := T4 _ _ _ (by decide) Rh9
    have R68 : RawAt 69 w4 w.heap.size #[.slice none 0 0, .slice none 0 0] := (hg4.block w.heap.size R69.lt (fun hk => by exact K6 _ hk.symm rfl)).trans R69
    have R9 : RawAt 69 w4 (w.heap.size + 1) #[.slice Ab y.b.length cb, .slice Af y.f.length cf] := (hg4.block (w.heap.size + 1) R99.lt (fun hk => by exact K7 _ hk.symm rfl)).trans R99
    have f6 := RawAt.free RH8 0
    have f6c := RawAt.cell RH8 0
    refine hK.out _ _ (by first | (with_reducible exact MK.out _ R9) | exact MK.out _ (RawAt.below R9 ((Below.refl _ _).alloc (Nat.le_refl _) _) R9.lt) | exact MK.out _ (RawAt.set_other R9 hne6 _ _)) (fun hHeld => ?_)
    clear hK K
    go_simp
    refine wpAnyH_take (i := 13) (v := ?_) rfl (by kernel_rfl) (by kernel_rfl) (by kernel_rfl) (fun _ _ _ h => h) (Or.inl ⟨by rfl, ?_⟩) hHeld ?_
    rotate_left
    · intro w hSw
      (try dsimp only at hSw)
      go_simp
      try with_reducible rfl
    go_simp
    refine wpAnyH_ready (rs := [14]) (by kernel_rfl) (by simp) ?_
    refine AllReadyH.cons rfl (fun K hK => ?_) ?_
    rotate_left
    · exact AllReadyH.nil
    go_simp
    go_wp2_with (fail)
    refine hK.out _ _ (by first | (with_reducible exact MK.out _ R9) | exact MK.out _ (RawAt.below R9 ((Below.refl _ _).alloc (Nat.le_refl _) _) R9.lt) | exact MK.out _ (RawAt.set_other R9 hne6 _ _)) (fun hHeld => ?_)
    clear hK K
    go_simp
    refine wpAnyH_done (by kernel_rfl) ?_ _
    refine NoPanic.normal ?_
    have hne8 : w.heap.size ≠ hb := by omega
    have R7 := R68.set_other (b' := hb) hne8 0 (.slice (some ⟨g4, 0, none⟩) (s1.length + 1) cap4)
    have e8 := RawAt.cell R7 0
    have e9 := RawAt.cell R7 1
    have f8 := RawAt.free R7 0
    have f9 := RawAt.free R7 1
    have RF := (R7.set_ 0 (.slice Ab y.b.length cb)).set_ 1 (.slice Af y.f.length cf)
    have p0 := RawAt.cell RF 0
    have p1 := RawAt.cell RF 1
    simp at e8 e9
    simp at p0 p1
    clear RF
    obtain ⟨hc0, hc1⟩ := hHeld
    have zz : W5.heap.size < (W5.drew.alloc (.cells #[.slice Ab y.b.length cb, .slice Af y.f.length cf] 69)).heap.size := by simp
    have TT4 : OnT [69, 131] w w4 := (UT.out.trans (OnT.of x9)).trans (T4.mono (by simp))
    have BB4 : Below B w w4 := (UB.out.trans (x9.mono (by omega))).grown hg4 (by simp; omega) (fun k hk => (lt1 k hk).1)
    have own0 := own_grownH hown0 hg4 (fun k hk hr => NE.out k hk hr)
    have ho4 : ∀ g, g < W5.heap.size → (Value.slice A1 s1.length c1).ownBlock ≠ some g → g4 ≠ g := fun g hg hn he => by
      rcases hor4 with hz | hz
      · exact hn (he ▸ hz)
      · have : g4 = W5.heap.size + 1 ∨ g4 = (W5.drew.alloc (.cells #[.slice Ab y.b.length cb, .slice Af y.f.length cf] 69)).heap.size := .inr hz
        omega
    have hn0 : (Value.slice (some ⟨g0, 0, none⟩) m c0).ownBlock ≠ some w.heap.size := fun he => by simp [Value.ownBlock] at he; omega
    have hn1 : (Value.slice (some ⟨g4, 0, none⟩) (s1.length + 1) cap4).ownBlock ≠ some w.heap.size := fun he => by
      simp [Value.ownBlock] at he
      exact ho4 w.heap.size (by omega) (fun h => K6 _ h rfl) he
    have hd4 : g4 ≠ g0 := ho4 g0 (by omega) (NE.out g0 rfl)
    have hm4 : s.length = m := HMM.out
    subst hm4
    have hp := hist_fin (B := B) (W0 := w) (k := 0) (V := .slice (some ⟨g4, 0, none⟩) (s1.length + 1) cap4) RH8 rfl R68 hne8 (s1 := s) (s0 := s1 ++ [(.slice Ab y.b.length cb, .slice Af y.f.length cf)]) (by rw [sflat_append, List.length_append]; exact hown4) own0 (fun g h1 h2 => hd4 (by simp [Value.ownBlock] at h1 h2; omega)) hn1 hn0 ((SU.out.onT TT4 (by decide)).snoc (p := (.slice Ab y.b.length cb, .slice Af y.f.length cf)) (y := y) (own_onT OB.out TT4 (by decide)) (own_onT OF.out TT4 (by decide))) (ST.out.onT TT4 (by decide)) hle hBw TT4 BB4 (.slice Ab y.b.length cb) (.slice Af y.f.length cf)
    have HP := Lib.hid hp
    have OB' := Lib.hid (own_onT OB.out hp.2.1 (by decide))
    have OF' := Lib.hid (own_onT OF.out hp.2.1 (by decide))
    clear hp hd4 hn0 hn1 ho4 own0 BB4 TT4 zz R7 R68 R9 RH8 T4 hz4 hor4 hlt4 hown4 hg4 f6 f6c e7 e7b e6 x9 hown9 hown0 Rh9 R69 R99 MK RH5 R6
    generalize hW7 : w4.setCell ⟨hb, 0, none⟩ (.slice (some ⟨g4, 0, none⟩) (s1.length + 1) cap4) = W7 at *
    clear hW7
    go_wp2
    refine bodyPost_ret (v := .tuple #[.agg #[.slice Ab y.b.length cb, .slice Af y.f.length cf], .int .i64 0]) (by simp [results, Try.results68, go_sem, p0, p1]) rfl ⟨_, _, rfl, OB'.out, OF'.out, HP.out⟩
end Go.Proofs.Ytncbhbjhfmbbkaa
