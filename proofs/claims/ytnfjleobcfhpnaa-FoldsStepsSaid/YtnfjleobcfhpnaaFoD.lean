/- Folds: the contract of Hidden. -/
import Derived.Test.YtnfjleobcfhpnaaFoC
import Derived.Test.YtnfjleobcfhpnaaAppK
import Derived.BigQuiet
import Derived.RegionTactic
namespace Go.Proofs.Ytnfjleobcfhpnaa
open Go.RowKit Go.Sort
set_option linter.unusedVariables false
/-- One more fold behind hidden spans. -/
def hstep (l : List Fo) (x : Fo) : List Fo :=
  match l.getLast? with
  | some y => if x.f < y.t then l.dropLast ++ [⟨y.f, max y.t x.t⟩] else l ++ [x]
  | none => [x]
def hidL (o : List Fo) : List Fo := o.foldl hstep []
theorem hstep_nil (x : Fo) : hstep [] x = [x] := rfl
theorem hstep_in (l : List Fo) (y x : Fo) (h : x.f < y.t) : hstep (l ++ [y]) x = l ++ [⟨y.f, max y.t x.t⟩] := by
  unfold hstep
  simp [h]
theorem hstep_out (l : List Fo) (y x : Fo) (h : ¬ x.f < y.t) : hstep (l ++ [y]) x = (l ++ [y]) ++ [x] := by
  unfold hstep
  simp [h]
theorem hidL_take {o : List Fo} {k : Nat} (h : k < o.length) : hidL (o.take (k + 1)) = hstep (hidL (o.take k)) o[k] := by
  unfold hidL
  rw [List.take_succ_eq_append_getElem h, List.foldl_append]
  rfl
theorem fkfl_set : ∀ (L : List Fo) (k : Nat) (h : k < L.length) (z : Int), (kfl encF L).set (k * 2 + 1) (.int .i64 z) = kfl encF (L.set k ⟨L[k].f, z⟩)
  | x :: L, 0, _, z => rfl
  | x :: L, k + 1, h, z => by
    have ih := fkfl_set L k (by simpa using h) z
    rw [List.set_cons_succ, kfl_cons, kfl_cons, List.set_append_right _ _ (by rw [encF_len]; omega), encF_len, show (k + 1) * 2 + 1 - 2 = k * 2 + 1 by omega, ih]
    rfl
theorem own_setF {w : World} {base : Nat} {e : TypeId} {size g cap n : Nat} {xs : List Value} (h : w.ownsRow base e size (.slice (some ⟨g, 0, none⟩) n cap) n xs) (i : Nat) (u : Value) : (w.setCell ⟨g, i, none⟩ u).ownsRow base e size (.slice (some ⟨g, 0, none⟩) n cap) n (xs.set i u) := by
  refine ⟨by rw [List.length_set]; exact h.1, .inr ?_⟩
  rcases h.2 with ⟨h2, _⟩ | ⟨g', cap', cur, hv, hB, c, h3, h4, h5, h6⟩
  · cases h2
  · injection hv with hv1 hv2 hv3
    injection hv1 with hv1
    injection hv1 with hv1
    subst hv1
    subst hv3
    refine ⟨g, cap, cur.setIfInBounds i u, rfl, hB, RawAt.set_ (t := e) c i u, h3, h4, by rw [Array.size_setIfInBounds]; exact h5, ?_⟩
    rw [Array.toList_setIfInBounds, List.take_set, h6]
theorem own_freeF {w : World} {base : Nat} {e : TypeId} {size g cap n : Nat} {xs : List Value} (h : w.ownsRow base e size (.slice (some ⟨g, 0, none⟩) n cap) n xs) (i : Nat) : w.frozen? ⟨g, i, none⟩ = false := by
  rcases h.2 with ⟨h2, _⟩ | ⟨g', cap', cur, hv, hB, c, h3, h4, h5, h6⟩
  · cases h2
  · injection hv with hv1 hv2 hv3
    injection hv1 with hv1
    injection hv1 with hv1
    subst hv1
    exact RawAt.free (t := e) c i
set_option maxHeartbeats 16000000 in
set_option maxRecDepth 100000 in
theorem fHidden_rows {w : World} {o : List Fo} (q : Value) (A : Option Addr) (c : Nat) (n : Int) (hR : RowsAt encF 2 w A o) (ho : o.length ≤ 100000)
    (CK0 : Calls Try.prog 42 #[q] w fun e w' => e = .returned (.agg #[.int .i64 n, .slice A o.length c]) ∧ Below w.heap.size w w') :
    Calls Try.prog 23 #[q] w fun e w' => ∃ v, e = .returned v ∧ w'.ownsRow w.heap.size 33 2 v (hidL o).length (kfl encF (hidL o)) ∧ Below w.heap.size w w' := by
  have HR := Lib.hid hR
  have CK := Lib.hid CK0
  have ST := fo_slt
  have tf0 := fun (A : Option Addr) (m c : Nat) (w : World) => ffld1 n A m c w
  clear hR CK0
  obtain ⟨m, hm⟩ : ∃ m, m = o.length := ⟨_, rfl⟩
  have HM := Lib.hid hm
  rw [← hm] at ho CK
  clear hm
  go_enter Try.func23, Try.ntmps23
  go_wp2_with fail
  with_reducible refine (CK.out).mono ?_
  rintro e1 w1 ⟨rfl, b1⟩
  have HB1 := Lib.hid b1
  clear b1 CK
  go_wp2_with fail
  go_loopg [3, 11] m (fun g v i wr => ∃ (k : Nat) (L : List Fo), i = .int .i64 k ∧ k ≤ m ∧ m - k ≤ g ∧ L.length ≤ k ∧ Hid (Below w.heap.size w wr) ∧ Hid (L = hidL (o.take k)) ∧ Hid (wr.ownsRow w.heap.size 33 2 v L.length (kfl encF L)))
  case atStart => exact ⟨0, [], rfl, by omega, by omega, by simp, HB1, Lib.hid (by simp [hidL]), Lib.hid (World.ownsRow_nil _ _ _ _)⟩
  case round =>
    clear HB1
    obtain ⟨k, L, rfl, h1, h2, h3, hb, hL, hown⟩ := hrel
    by_cases hlt : k < m
    · have hkl : k < o.length := by rw [← HM.out]; exact hlt
      obtain ⟨bA, off, rfl, hbA, hce⟩ := (HR.out.below hb.out).at1 hkl
      have f0 := hce 0 (by omega)
      have f1 := hce 1 (by omega)
      rw [Nat.add_zero] at f0
      have hst := hidL_take hkl
      rw [← hL.out] at hst
      have HST := Lib.hid hst
      clear hst hce hL
      generalize o[k] = x at *
      simp [encF] at f0 f1
      have i1 : (0 : Int) ≤ k := by omega
      have i2 : (k : Int) < m := by omega
      have x3 : Below wr.heap.size wr (wr.alloc (.cells #[.int .i64 x.f, .int .i64 x.t] 33)) := (Below.refl _ _).alloc (Nat.le_refl _) _
      have R3 : RawAt 33 (wr.alloc (.cells #[.int .i64 x.f, .int .i64 x.t] 33)) wr.heap.size #[.int .i64 x.f, .int .i64 x.t] := heap_alloc_new wr _
      have c0 := RawAt.cell R3 0
      have c1 := RawAt.cell R3 1
      simp at c0 c1
      have HB3 := Lib.hid (hb.out.trans (x3.mono hb.out.size))
      have HO3 := Lib.hid (own_below hown.out x3)
      obtain ⟨A3, c3, rfl⟩ := own_formF hown.out
      have hlt4 := hown.out.lt
      have HX3 := Lib.hid R3
      rcases List.eq_nil_or_concat L with hn | ⟨L', y, hn⟩
      · subst hn
        have HN : Hid (hidL (o.take (k + 1)) = ([] : List Fo) ++ [x]) := Lib.hid HST.out
        clear HST h3
        go_wp2_with fail
        go_quiet (fail)
        have hdr : Below (wr.alloc (.cells #[.int .i64 x.f, .int .i64 x.t] 33)).heap.size (wr.alloc (.cells #[.int .i64 x.f, .int .i64 x.t] 33)) ((wr.alloc (.cells #[.int .i64 x.f, .int .i64 x.t] 33)).drewN nq) := drewN_below (Below.refl _ _) nq
        have R4 := RawAt.below HX3.out hdr HX3.out.lt
        have HO4 := own_below HO3.out hdr
        have HB4 := HB3.out.trans (hdr.mono HB3.out.size)
        obtain ⟨W3, hW3⟩ : ∃ W3, W3 = ((wr.alloc (.cells #[.int .i64 x.f, .int .i64 x.t] 33)).drewN nq) := ⟨_, rfl⟩
        rw [← hW3] at R4 HO4 HB4 ⊢
        have c0 := RawAt.cell R4 0
        have c1 := RawAt.cell R4 1
        simp at c0 c1
        have x4 : Below W3.heap.size W3 (W3.alloc (.cells #[.int .i64 x.f, .int .i64 x.t] 33)) := (Below.refl _ _).alloc (Nat.le_refl _) _
        have R5 : RawAt 33 (W3.alloc (.cells #[.int .i64 x.f, .int .i64 x.t] 33)) W3.heap.size #[.int .i64 x.f, .int .i64 x.t] := heap_alloc_new W3 _
        have HO5 := Lib.hid (own_below HO4 x4)
        have HS5 : Hid (RowsAt encF 2 (W3.alloc (.cells #[.int .i64 x.f, .int .i64 x.t] 33)) (some ⟨W3.heap.size, 0, none⟩) [x]) := Lib.hid (rows_of_block (enc := encF) (k := 2) encF_len R5 (l := [x]) rfl)
        have HB5 := Lib.hid (HB4.trans (x4.mono HB4.size))
        clear hdr R4 HO4 HB4 hW3 x4 R5 HX3 HO3 HB3
        go_wp2_with (at_builtin; refine wpList_appK (enc := encF) ST encF_len (by omega) rfl (.tmp 42) (.tmp 44) rfl (base := w.heap.size) (v := .slice A3 ([] : List Fo).length c3) rfl HO5.out _ 1 1 [x] rfl HS5.out ⟨Nat.le_refl _, fun h => by cases h⟩ rfl (kfl_one' encF_one _) (by simp only [maxLen]; simp) (by simp) HB5.out.size ?_; intro v5 w6 hown5 hg5 hor5; have HB6 := Lib.hid (HB5.out.grown hg5 HB5.out.size (fun j hj => (hlt4 j hj).1)); have HO6 : Hid (w6.ownsRow w.heap.size 33 2 v5 (([] : List Fo) ++ [x]).length (kfl encF (([] : List Fo) ++ [x]))) := Lib.hid (by rw [kfl_append, List.length_append]; exact hown5); clear hown5 hg5 hor5 HO5 HS5 HB5)
        go_roundg (gk - 1)
        case measure => omega
        case rel => exact ⟨k + 1, ([] : List Fo) ++ [x], by go_num, by omega, by omega, by rw [List.length_append]; simp only [List.length_cons, List.length_nil]; omega, HB6, Lib.hid HN.out.symm, HO6⟩
      · rw [List.concat_eq_append] at hn
        subst hn
        obtain ⟨p, hp⟩ : ∃ p, p = L'.length := ⟨_, rfl⟩
        have hq : (L' ++ [y]).length = p + 1 := by rw [List.length_append, hp]; rfl
        have hpl : p < (L' ++ [y]).length := by rw [hq]; omega
        have hy : (L' ++ [y])[p] = y := by simp [hp]
        obtain ⟨g, cap, hv⟩ := own_slice HO3.out (by omega)
        injection hv with hv1 _ hv2
        subst hv1
        subst hv2
        have z1 := kfl_at encF_len (L' ++ [y]) p hpl 1 (by omega)
        rw [hy] at z1
        have hO4 := HO3.out
        have d1 := hO4.cellAt (p * 2 + 1) (by omega)
        rw [z1] at d1
        simp [encF] at d1
        have hgl := hlt4 g rfl
        have i3 : (0 : Int) ≤ p := by omega
        have i4 : (p : Int) < (p : Int) + 1 := by omega
        have i5 : decide ((0 : Int) ≤ p) = true := decide_eq_true i3
        have w1 : IntKind.i64.wrap ((p : Int) + 1 - 1) = p := by rw [show (p : Int) + 1 - 1 = p by omega]; exact IntWalk.i64_in _ (by omega)
        have i6 : (p : Int) + 1 - 1 = p := by omega
        rw [hq]
        have HO3' : Hid ((wr.alloc (.cells #[.int .i64 x.f, .int .i64 x.t] 33)).ownsRow w.heap.size 33 2 (.slice (some ⟨g, 0, none⟩) (p + 1) c3) (p + 1) (kfl encF (L' ++ [y]))) := Lib.hid (by rw [← hq]; exact hO4)
        have Z1 := Lib.hid z1
        have HSET : Hid (∀ zz : Int, (kfl encF (L' ++ [y])).set (p * 2 + 1) (.int .i64 zz) = kfl encF (L' ++ [⟨y.f, zz⟩])) := Lib.hid fun zz => by
          rw [fkfl_set (L' ++ [y]) p hpl zz, hy, hp, List.set_append_right _ _ (Nat.le_refl _), Nat.sub_self]
          rfl
        have HP := Lib.hid hp
        have HQ := Lib.hid hq
        rw [hq] at h3
        clear hO4 z1 HO3 hy hp hpl hq
        by_cases g1 : x.f < y.t
        · have k1 : decide (x.f < y.t) = true := decide_eq_true g1
          have HN : Hid (hidL (o.take (k + 1)) = L' ++ [⟨y.f, max y.t x.t⟩]) := Lib.hid (by rw [HST.out, hstep_in _ _ _ g1])
          clear HST g1
          go_wp2_with fail
          go_quiet (fail)
          have hdr : Below (wr.alloc (.cells #[.int .i64 x.f, .int .i64 x.t] 33)).heap.size (wr.alloc (.cells #[.int .i64 x.f, .int .i64 x.t] 33)) ((wr.alloc (.cells #[.int .i64 x.f, .int .i64 x.t] 33)).drewN nq) := drewN_below (Below.refl _ _) nq
          have R4 := RawAt.below HX3.out hdr HX3.out.lt
          have HO4 := own_below HO3'.out hdr
          have HB4 := HB3.out.trans (hdr.mono HB3.out.size)
          obtain ⟨W3, hW3⟩ : ∃ W3, W3 = ((wr.alloc (.cells #[.int .i64 x.f, .int .i64 x.t] 33)).drewN nq) := ⟨_, rfl⟩
          rw [← hW3] at R4 HO4 HB4 ⊢
          have c0 := RawAt.cell R4 0
          have c1 := RawAt.cell R4 1
          simp at c0 c1
          have d1 := HO4.cellAt (p * 2 + 1) (by omega)
          have d2 := own_freeF HO4 (p * 2 + 1)
          rw [Z1.out] at d1
          simp [encF] at d1
          have HO4 := Lib.hid HO4
          have HB4 := Lib.hid HB4
          clear hdr R4 hW3 HX3 HO3' HB3
          go_wp2_with fail
          go_region
          have hgB := hgl.1
          have HB6 := Lib.hid ((HB4.out.setCell (p := ⟨g, p * 2 + 1, none⟩) hgB (.int .i64 (max y.t x.t))).drew)
          have ho6 := own_setF HO4.out (p * 2 + 1) (.int .i64 (max y.t x.t))
          rw [HSET.out] at ho6
          have hl6 : (L' ++ [(⟨y.f, max y.t x.t⟩ : Fo)]).length = p + 1 := by rw [List.length_append, HP.out]; rfl
          have HO6 : Hid ((W3.setCell ⟨g, p * 2 + 1, none⟩ (.int .i64 (max y.t x.t))).drew.ownsRow w.heap.size 33 2 (.slice (some ⟨g, 0, none⟩) (p + 1) c3) (L' ++ [(⟨y.f, max y.t x.t⟩ : Fo)]).length (kfl encF (L' ++ [(⟨y.f, max y.t x.t⟩ : Fo)]))) := Lib.hid (by rw [hl6]; exact ho6)
          clear ho6 hb hown HO4 HB4
          go_wp2
          go_roundg (gk - 1)
          case measure => omega
          case rel => exact ⟨k + 1, L' ++ [⟨y.f, max y.t x.t⟩], by go_num, by omega, by omega, by rw [hl6]; omega, HB6, Lib.hid HN.out.symm, HO6⟩
        · have k1 : decide (x.f < y.t) = false := decide_eq_false g1
          have HN : Hid (hidL (o.take (k + 1)) = (L' ++ [y]) ++ [x]) := Lib.hid (by rw [HST.out, hstep_out _ _ _ g1])
          clear HST g1 HSET
          go_wp2_with fail
          go_quiet (fail)
          have hdr : Below (wr.alloc (.cells #[.int .i64 x.f, .int .i64 x.t] 33)).heap.size (wr.alloc (.cells #[.int .i64 x.f, .int .i64 x.t] 33)) ((wr.alloc (.cells #[.int .i64 x.f, .int .i64 x.t] 33)).drewN nq) := drewN_below (Below.refl _ _) nq
          have R4 := RawAt.below HX3.out hdr HX3.out.lt
          have HO4 := own_below HO3'.out hdr
          have HB4 := HB3.out.trans (hdr.mono HB3.out.size)
          obtain ⟨W3, hW3⟩ : ∃ W3, W3 = ((wr.alloc (.cells #[.int .i64 x.f, .int .i64 x.t] 33)).drewN nq) := ⟨_, rfl⟩
          rw [← hW3] at R4 HO4 HB4 ⊢
          have c0 := RawAt.cell R4 0
          have c1 := RawAt.cell R4 1
          simp at c0 c1
          have x4 : Below W3.heap.size W3 (W3.alloc (.cells #[.int .i64 x.f, .int .i64 x.t] 33)) := (Below.refl _ _).alloc (Nat.le_refl _) _
          have R5 : RawAt 33 (W3.alloc (.cells #[.int .i64 x.f, .int .i64 x.t] 33)) W3.heap.size #[.int .i64 x.f, .int .i64 x.t] := heap_alloc_new W3 _
          have HO5 := Lib.hid (own_below HO4 x4)
          have HS5 : Hid (RowsAt encF 2 (W3.alloc (.cells #[.int .i64 x.f, .int .i64 x.t] 33)) (some ⟨W3.heap.size, 0, none⟩) [x]) := Lib.hid (rows_of_block (enc := encF) (k := 2) encF_len R5 (l := [x]) rfl)
          have HB5 := Lib.hid (HB4.trans (x4.mono HB4.size))
          clear hdr R4 HO4 HB4 hW3 x4 R5 HX3 HO3' HB3
          go_wp2_with (at_builtin; refine wpList_appK (enc := encF) ST encF_len (by omega) rfl (.tmp 42) (.tmp 44) rfl (base := w.heap.size) (v := .slice (some ⟨g, 0, none⟩) (p + 1) c3) rfl HO5.out _ 1 1 [x] rfl HS5.out ⟨Nat.le_refl _, fun h => by cases h⟩ rfl (kfl_one' encF_one _) (by simp only [maxLen]; omega) (by omega) HB5.out.size ?_; intro v5 w6 hown5 hg5 hor5; have HB6 := Lib.hid (HB5.out.grown hg5 HB5.out.size (fun j hj => (hlt4 j hj).1)); have HO6 : Hid (w6.ownsRow w.heap.size 33 2 v5 ((L' ++ [y]) ++ [x]).length (kfl encF ((L' ++ [y]) ++ [x]))) := Lib.hid (by rw [kfl_append, List.length_append, HQ.out]; exact hown5); clear hown5 hg5 hor5 HO5 HS5 HB5)
          go_roundg (gk - 1)
          case measure => omega
          case rel => exact ⟨k + 1, (L' ++ [y]) ++ [x], by go_num, by omega, by omega, by rw [List.length_append]; simp only [List.length_cons, List.length_nil]; rw [HQ.out]; omega, HB6, Lib.hid HN.out.symm, HO6⟩
    · obtain rfl : m = k := by omega
      have e2 : o.take m = o := List.take_of_length_le (by rw [HM.out]; exact Nat.le_refl _)
      have hl2 := hL.out
      rw [e2] at hl2
      subst hl2
      have HO2 := Lib.hid hown.out
      have HBB := Lib.hid hb.out
      clear e2 hown hb hL
      go_wp2
      go_ret
      exact ⟨_, rfl, HO2.out, HBB.out⟩
end Go.Proofs.Ytnfjleobcfhpnaa
