/- Folds: the law FoldsNew, walked. -/
import Derived.Test.YtnfjleobcfhpnaaFoU
import Derived.Test.YtnfjleobcfhpnaaFoO
namespace Go.Proofs.Ytnfjleobcfhpnaa
open Go.RowKit Go.Sort
set_option linter.unusedVariables false
theorem hid_src : ∀ (n : Nat) (o : List Fo), o.length = n → ∀ y ∈ hidL o, ∃ x ∈ o, x.f = y.f := by
  intro n
  induction n with
  | zero => intro o h y hy; obtain rfl := List.eq_nil_of_length_eq_zero h; simp [hidL] at hy
  | succ n ih =>
    intro o h y hy
    have h0 : o ≠ [] := fun e => by rw [e] at h; simp at h
    obtain ⟨c, x, rfl⟩ : ∃ c x, o = c ++ [x] := ⟨o.dropLast, o.getLast h0, (List.dropLast_concat_getLast h0).symm⟩
    have hc : c.length = n := by simpa using h
    have e : hidL (c ++ [x]) = hstep (hidL c) x := by unfold hidL; rw [List.foldl_append]; rfl
    rw [e] at hy
    by_cases hc0 : c = []
    · subst hc0
      have : y = x := by simpa [hidL, hstep] using hy
      exact ⟨x, by simp, by rw [this]⟩
    · obtain ⟨L, z, h1, _, _⟩ := hid_split _ c rfl hc0
      rw [h1] at hy
      have up : ∀ v ∈ L ++ [z], ∃ x' ∈ c ++ [x], x'.f = v.f := fun v hv => by
        obtain ⟨x', hx', e'⟩ := ih c hc v (by rw [h1]; exact hv)
        exact ⟨x', List.mem_append_left _ hx', e'⟩
      by_cases g : x.f < z.t
      · rw [hstep_in _ _ _ g] at hy
        rcases List.mem_append.1 hy with hy | hy
        · exact up y (List.mem_append_left _ hy)
        · obtain ⟨x', hx', e'⟩ := up z (by simp)
          rw [List.mem_singleton.1 hy]
          exact ⟨x', hx', e'⟩
      · rw [hstep_out _ _ _ g] at hy
        rcases List.mem_append.1 hy with hy | hy
        · exact up y hy
        · exact ⟨x, by simp, by rw [List.mem_singleton.1 hy]⟩
theorem ov_nn {n : Int} {l : List Fo} (h : fwrong n l = 0) {at_ : Int} {y : Fo} (hy : ovL (hidL (ord flt l)) at_ = some y) : 0 ≤ y.f := by
  have hm := List.mem_of_find?_eq_some hy
  obtain ⟨x, hx, e⟩ := hid_src _ _ rfl y hm
  have := (fwrong_mem h x ((ord_perm flt flt_swo l).mem_iff.1 hx)).2.1
  omega
set_option maxHeartbeats 16000000 in
set_option maxRecDepth 100000 in
theorem foldsNew_walk (n : Int) (A : Option Addr) (m c : Nat) (l : List Fo) (at_ : Int) (w : World) (_wf : (Lit.int .i64 n).wf = true) (hI : RowsAt encF 2 w A l) (hl : l.length = m) (hn : m ≤ maxLen) (hc : Caps A m c) (hO : ∀ s ∈ l, FoOk s) (_wf2 : (Lit.int .i64 at_).wf = true) :
    Calls Try.prog 3 #[.int .i64 n, .slice A m c, .int .i64 at_] w fun e w' => e = .returned (.bool true) ∧ Below w.heap.size w w' := by
  have C3 := Lib.hid fun W => fThree_any W
  unfold maxLen at hn
  by_cases g1 : 150 < m
  · have k1 : decide ((150 : Int) < (m : Int)) = true := decide_eq_true (by omega)
    clear hI
    go_enter Try.func3, Try.ntmps3
    go_wp2_with fail
    with_reducible refine (C3.out _).mono ?_
    rintro e w1 ⟨rfl, bb⟩
    have Q1 := Lib.hid bb
    clear bb
    go_wp2
    go_ret
    exact ⟨rfl, Q1.out⟩
  · have k1 : decide ((150 : Int) < (m : Int)) = false := decide_eq_false (by omega)
    obtain ⟨r, hr⟩ : ∃ r, r = fwrong n l := ⟨_, rfl⟩
    have CN := Lib.hid (fNew_any n A m c l w hI hc hl hO r hr.symm)
    have CR := Lib.hid fun (W : World) (hW : Below w.heap.size w W) => rNew15 n A m c l W (hI.below hW) hc hl r hr.symm
    have HL := Lib.hid hl
    have HRE := Lib.hid hr
    clear hI hc hl hO
    by_cases hz : r = 0
    · have hr0 : fwrong n l = 0 := hr.symm.trans hz
      have HR0 := Lib.hid hr0
      have hlen := fwrong_len hr0
      have hgood := fgood_ord hr0
      have hol : (ord flt l).length = m := by rw [(ord_perm flt flt_swo l).length_eq]; exact HL.out
      have hnn := fun y hy => ov_nn (at_ := at_) (y := y) hr0 hy
      obtain ⟨o, ho⟩ : ∃ o, o = ord flt l := ⟨_, rfl⟩
      rw [← ho] at hgood hol hnn
      have HO := Lib.hid ho
      have HG := Lib.hid hgood
      have HOL := Lib.hid hol
      obtain ⟨ov, hov⟩ : ∃ ov, ov = ovL (hidL o) at_ := ⟨_, rfl⟩
      rw [← hov] at hnn
      have HOV := Lib.hid hov
      subst hz
      clear hr hr0 hgood hol hov ho
      go_enter Try.func3, Try.ntmps3
      go_wp2_with fail
      with_reducible refine (CN.out).mono ?_
      rintro e w1 ⟨p1, rfl, _, hp1, bb⟩
      have Q1 := Lib.hid bb
      obtain ⟨s1, rfl, h1⟩ := hp1 (by first | exact trivial | rfl)
      rw [← HO.out] at h1
      have H1 := Lib.hid h1
      clear hp1 h1
      clear bb
      go_wp2_with fail
      with_reducible refine (CR.out _ Q1.out).mono ?_
      rintro e w2 ⟨nn, A2, m2, c2, rfl, hres, bb⟩
      have Q2 := Lib.hid (Q1.out.trans (bb.mono Q1.out.size))
      obtain ⟨y1, y2, hR2, hC2⟩ := hres (by first | exact trivial | rfl)
      rw [HL.out] at y2
      rw [← HO.out] at hR2
      have y1 := y1.symm
      subst y1
      have y2 := y2.symm
      subst y2
      have H2 := Lib.hid (H1.out.below bb)
      have x3 : Below w2.heap.size w2 (w2.alloc (.cells #[.int .i64 n, .slice A2 m c2, .int .i64 0] 29)) := (Below.refl _ _).alloc (Nat.le_refl _) _
      have R3 : RawAt 29 (w2.alloc (.cells #[.int .i64 n, .slice A2 m c2, .int .i64 0] 29)) w2.heap.size #[.int .i64 n, .slice A2 m c2, .int .i64 0] := heap_alloc_new w2 _
      have HR2 := Lib.hid (hR2.below x3)
      have HC2 := Lib.hid hC2
      have H3 := Lib.hid (H2.out.below x3)
      have HR3 := Lib.hid R3
      clear hres hR2 hC2
      clear bb
      have Q3 := Lib.hid (Q2.out.trans (x3.mono Q2.out.size))
      obtain ⟨W3, hW3⟩ : ∃ W3, W3 = w2.alloc (.cells #[.int .i64 n, .slice A2 m c2, .int .i64 0] 29) := ⟨_, rfl⟩
      obtain ⟨b3, hb3⟩ : ∃ b3, b3 = w2.heap.size := ⟨_, rfl⟩
      rw [← hW3] at HR2 H3 HR3 Q3
      rw [← hb3] at HR3
      have HW3 := Lib.hid hW3
      have HB3 := Lib.hid hb3
      have CI := Lib.hid (fIs_set H3.out A2 m c2 HR2.out HC2.out HOL.out (by omega) HG.out)
      clear x3 R3 hW3 hb3 H1 H2 Q1 Q2
      go_wp2_with fail
      rw [← HW3.out, ← HB3.out]
      clear HW3 HB3
      with_reducible refine CI.out.mono ?_
      rintro e w4 ⟨rfl, bb⟩
      have Q4 := Lib.hid (Q3.out.trans (bb.mono Q3.out.size))
      have H4 := Lib.hid (H3.out.below bb)
      have HR4 := Lib.hid (HR3.out.below bb HR3.out.lt)
      have HA4 := Lib.hid (HR2.out.below bb)
      have hll : (hidL o).length ≤ 100000 := by
        by_cases e : o = []
        · subst e; simp [hidL]
        · obtain ⟨L, y, h1, h2, _⟩ := hid_split _ o rfl e
          rw [h1, List.length_append]; have := HOL.out; simp; omega
      have CO := Lib.hid (fOver_rows (w := w4) (.pointer (some ⟨s1, 0, none⟩)) at_ (hidL o) hll (fun W hW => fHidden_any (H4.out.below hW) (by rw [HOL.out]; omega)))
      have CQ := Lib.hid fun (W : World) (hW : Below w4.heap.size w4 W) => rOverAt15 n A2 m c2 0 at_ o W (HA4.out.below hW) HC2.out HOL.out (by omega) HG.out
      rw [← HOV.out] at CO CQ
      clear bb CI H3 HR3 HR2 Q3 hll
      go_wp2_with fail
      with_reducible refine CO.out.mono ?_
      rintro e w5 ⟨rfl, b5⟩
      cases ov with
      | none =>
        dsimp only [ovA, ovB, Option.isSome_none] at CQ ⊢
        have x6 : Below w5.heap.size w5 (w5.alloc (.cells #[.int .i64 0, .int .i64 0] 33)) := (Below.refl _ _).alloc (Nat.le_refl _) _
        have R6 : RawAt 33 (w5.alloc (.cells #[.int .i64 0, .int .i64 0] 33)) w5.heap.size #[.int .i64 0, .int .i64 0] := heap_alloc_new w5 _
        have B6 := Lib.hid (b5.trans (x6.mono b5.size))
        have HR6 := Lib.hid (HR4.out.below B6.out HR4.out.lt)
        have HV6 := Lib.hid R6
        have c0 := RawAt.cell HR6.out 0
        have c1 := RawAt.cell HR6.out 1
        have c2' := RawAt.cell HR6.out 2
        simp at c0 c1 c2'
        clear b5 x6 R6 CO H4 HR4
        go_wp2_with fail
        with_reducible refine (CQ.out _ B6.out).mono ?_
        rintro e w7 ⟨rfl, b7⟩
        have v6 := HV6.out.below b7 HV6.out.lt
        have x8 : Below w7.heap.size w7 (w7.alloc (.cells #[.int .i64 (-1), .int .i64 0] 33)) := (Below.refl _ _).alloc (Nat.le_refl _) _
        have v8 := v6.below x8 v6.lt
        have c0 := RawAt.cell v8 0
        have c1 := RawAt.cell v8 1
        have e0 := RawAt.cell v6 0
        have e1 := RawAt.cell v6 1
        simp at c0 c1 e0 e1
        have hlt6 := v6.lt
        have B8 := Lib.hid (B6.out.trans ((b7.trans (x8.mono b7.size)).mono B6.out.size))
        have Q8 := Lib.hid (Q4.out.trans (B8.out.mono Q4.out.size))
        clear b7 x8 v6 v8 CQ HR6 HV6 B6 B8
        go_wp2_with fail
        with_reducible refine (C3.out _).mono ?_
        rintro e w9 ⟨rfl, bb⟩
        have Q9 := Lib.hid (Q8.out.trans (bb.mono Q8.out.size))
        clear bb
        go_wp2
        go_ret
        exact ⟨rfl, Q9.out⟩
      | some y =>
        dsimp only [ovA, ovB, Option.isSome_some] at CQ ⊢
        have hy0 := hnn y rfl
        have k7 : decide (y.f < 0) = false := decide_eq_false (by omega)
        clear hnn hy0
        have x6 : Below w5.heap.size w5 (w5.alloc (.cells #[.int .i64 y.f, .int .i64 y.t] 33)) := (Below.refl _ _).alloc (Nat.le_refl _) _
        have R6 : RawAt 33 (w5.alloc (.cells #[.int .i64 y.f, .int .i64 y.t] 33)) w5.heap.size #[.int .i64 y.f, .int .i64 y.t] := heap_alloc_new w5 _
        have B6 := Lib.hid (b5.trans (x6.mono b5.size))
        have HR6 := Lib.hid (HR4.out.below B6.out HR4.out.lt)
        have HV6 := Lib.hid R6
        have c0 := RawAt.cell HR6.out 0
        have c1 := RawAt.cell HR6.out 1
        have c2' := RawAt.cell HR6.out 2
        simp at c0 c1 c2'
        clear b5 x6 R6 CO H4 HR4
        go_wp2_with fail
        with_reducible refine (CQ.out _ B6.out).mono ?_
        rintro e w7 ⟨rfl, b7⟩
        have v6 := HV6.out.below b7 HV6.out.lt
        have x8 : Below w7.heap.size w7 (w7.alloc (.cells #[.int .i64 y.f, .int .i64 y.t] 33)) := (Below.refl _ _).alloc (Nat.le_refl _) _
        have v8 := v6.below x8 v6.lt
        have c0 := RawAt.cell v8 0
        have c1 := RawAt.cell v8 1
        have e0 := RawAt.cell v6 0
        have e1 := RawAt.cell v6 1
        simp at c0 c1 e0 e1
        have hlt6 := v6.lt
        have B8 := Lib.hid (B6.out.trans ((b7.trans (x8.mono b7.size)).mono B6.out.size))
        have Q8 := Lib.hid (Q4.out.trans (B8.out.mono Q4.out.size))
        clear b7 x8 v6 v8 CQ HR6 HV6 B6 B8
        go_wp2_with fail
        with_reducible refine (C3.out _).mono ?_
        rintro e w9 ⟨rfl, bb⟩
        have Q9 := Lib.hid (Q8.out.trans (bb.mono Q8.out.size))
        clear bb
        go_wp2
        go_ret
        exact ⟨rfl, Q9.out⟩
    · have k5 : (r != 0) = true := by simp [hz]
      have k6 : (r == 0) = false := by simp [hz]
      have k7 : decide (r = 0) = false := decide_eq_false hz
      have HZ := Lib.hid hz
      clear hz hr
      go_enter Try.func3, Try.ntmps3
      go_wp2_with fail
      with_reducible refine (CN.out).mono ?_
      rintro e w1 ⟨p1, rfl, hp1, _, bb⟩
      have Q1 := Lib.hid bb
      have hp := hp1 HZ.out
      subst hp
      clear hp1
      clear bb
      go_wp2_with fail
      with_reducible refine (CR.out _ Q1.out).mono ?_
      rintro e w2 ⟨nn, A2, m2, c2, rfl, _, bb⟩
      have Q2 := Lib.hid (Q1.out.trans (bb.mono Q1.out.size))
      have HQ2 := Lib.hid (Q2.out.alloc Q2.out.size (.cells #[.int .i64 nn, .slice A2 m2 c2, .int .i64 r] 29))
      have CI := Lib.hid fun (W : World) => fIs_none nn r A2 m2 c2 W HZ.out
      clear bb
      go_wp2_with fail
      with_reducible refine (CI.out _).mono ?_
      rintro e w3 ⟨rfl, bb⟩
      have Q3 := Lib.hid (HQ2.out.trans (bb.mono HQ2.out.size))
      clear bb
      go_wp2_with fail
      with_reducible refine (C3.out _).mono ?_
      rintro e w9 ⟨rfl, bb⟩
      have Q9 := Lib.hid (Q3.out.trans (bb.mono Q3.out.size))
      clear bb
      go_wp2
      go_ret
      exact ⟨rfl, Q9.out⟩
end Go.Proofs.Ytnfjleobcfhpnaa
