/- Folds: the law FoldsHide, walked. -/
import Derived.Test.YtnfjleobcfhpnaaFoU
import Derived.Test.YtnfjleobcfhpnaaFoO
namespace Go.Proofs.Ytnfjleobcfhpnaa
open Go.RowKit Go.Sort
set_option linter.unusedVariables false
/-- What is hidden: its spans are apart, in order; what is in one is in a fold; each fold is in one. -/
structure HidOk (p h : List Fo) : Prop where
  lt : ∀ x ∈ h, x.f < x.t
  ap : h.Pairwise (fun a b => a.t ≤ b.f)
  cov : ∀ x ∈ h, ∀ a : Int, x.f ≤ a → a < x.t → ∃ y ∈ p, y.f ≤ a ∧ a < y.t
  inn : ∀ y ∈ p, ∃ x ∈ h, x.f ≤ y.f ∧ y.t ≤ x.t
  src : ∀ x ∈ h, ∃ y ∈ p, y.f = x.f
theorem hidOk : ∀ (n : Nat) (o : List Fo), o.length = n → FGood o → HidOk o (hidL o) := by
  intro n
  induction n with
  | zero =>
    intro o h _
    obtain rfl := List.eq_nil_of_length_eq_zero h
    exact ⟨fun x hx => by simp [hidL] at hx, by simp [hidL], fun x hx => by simp [hidL] at hx, fun x hx => by simp at hx, fun x hx => by simp [hidL] at hx⟩
  | succ n ih =>
    intro o h hg
    have h0 : o ≠ [] := fun e => by rw [e] at h; simp at h
    obtain ⟨c, x, rfl⟩ : ∃ c x, o = c ++ [x] := ⟨o.dropLast, o.getLast h0, (List.dropLast_concat_getLast h0).symm⟩
    have hc : c.length = n := by simpa using h
    have e : hidL (c ++ [x]) = hstep (hidL c) x := by unfold hidL; rw [List.foldl_append]; rfl
    have hgc : FGood c := ⟨fun y hy => hg.lt y (List.mem_append_left _ hy), (List.pairwise_append.1 hg.srt).1⟩
    have hle : ∀ y ∈ c, y.f ≤ x.f := fun y hy => (List.pairwise_append.1 hg.srt).2.2 y hy x (by simp)
    have hxt : x.f < x.t := hg.lt x (by simp)
    have H := ih c hc hgc
    rw [e]
    by_cases hc0 : c = []
    · subst hc0
      have e2 : hstep (hidL []) x = [x] := rfl
      rw [e2]
      refine ⟨fun y hy => ?_, by simp, fun y hy a h1 h2 => ⟨x, by simp, ?_⟩, fun y hy => ⟨x, by simp, ?_⟩, fun y hy => ⟨x, by simp, ?_⟩⟩
      · rw [List.mem_singleton.1 hy]; exact hxt
      · rw [List.mem_singleton.1 hy] at h1 h2; exact ⟨h1, h2⟩
      · have : y = x := by simpa using hy
        rw [this]; exact ⟨Int.le_refl _, Int.le_refl _⟩
      · rw [List.mem_singleton.1 hy]
    · obtain ⟨L, z, h1, _, _⟩ := hid_split _ c rfl hc0
      rw [h1] at H ⊢
      have hzt := H.lt z (by simp)
      have hzx : z.f ≤ x.f := by
        obtain ⟨y, hy, e3⟩ := H.src z (by simp)
        rw [← e3]; exact hle y hy
      have hap := List.pairwise_append.1 H.ap
      by_cases g : x.f < z.t
      · rw [hstep_in _ _ _ g]
        refine ⟨fun y hy => ?_, ?_, fun y hy a h2 h3 => ?_, fun y hy => ?_, fun y hy => ?_⟩
        · rcases List.mem_append.1 hy with hy | hy
          · exact H.lt y (List.mem_append_left _ hy)
          · rw [List.mem_singleton.1 hy]; simp only; omega
        · refine List.pairwise_append.2 ⟨hap.1, by simp, fun a ha b hb => ?_⟩
          rw [List.mem_singleton.1 hb]
          exact hap.2.2 a ha z (by simp)
        · rcases List.mem_append.1 hy with hy | hy
          · obtain ⟨y', m1, m2⟩ := H.cov y (List.mem_append_left _ hy) a h2 h3
            exact ⟨y', List.mem_append_left _ m1, m2⟩
          · rw [List.mem_singleton.1 hy] at h2 h3
            simp only at h2 h3
            by_cases g2 : a < z.t
            · obtain ⟨y', m1, m2⟩ := H.cov z (by simp) a h2 g2
              exact ⟨y', List.mem_append_left _ m1, m2⟩
            · exact ⟨x, by simp, by omega, by omega⟩
        · rcases List.mem_append.1 hy with hy | hy
          · obtain ⟨x', m1, m2, m3⟩ := H.inn y hy
            rcases List.mem_append.1 m1 with m1 | m1
            · exact ⟨x', List.mem_append_left _ m1, m2, m3⟩
            · rw [List.mem_singleton.1 m1] at m2 m3
              exact ⟨⟨z.f, max z.t x.t⟩, by simp, m2, by simp only; omega⟩
          · have : y = x := by simpa using hy
            rw [this]
            exact ⟨⟨z.f, max z.t x.t⟩, by simp, hzx, by simp only; omega⟩
        · rcases List.mem_append.1 hy with hy | hy
          · obtain ⟨y', m1, m2⟩ := H.src y (List.mem_append_left _ hy)
            exact ⟨y', List.mem_append_left _ m1, m2⟩
          · obtain ⟨y', m1, m2⟩ := H.src z (by simp)
            rw [List.mem_singleton.1 hy]
            exact ⟨y', List.mem_append_left _ m1, m2⟩
      · rw [hstep_out _ _ _ g]
        refine ⟨fun y hy => ?_, ?_, fun y hy a h2 h3 => ?_, fun y hy => ?_, fun y hy => ?_⟩
        · rcases List.mem_append.1 hy with hy | hy
          · exact H.lt y hy
          · rw [List.mem_singleton.1 hy]; exact hxt
        · refine List.pairwise_append.2 ⟨H.ap, by simp, fun a ha b hb => ?_⟩
          rw [List.mem_singleton.1 hb]
          rcases List.mem_append.1 ha with ha | ha
          · have := hap.2.2 a ha z (by simp)
            omega
          · rw [List.mem_singleton.1 ha]; omega
        · rcases List.mem_append.1 hy with hy | hy
          · obtain ⟨y', m1, m2⟩ := H.cov y hy a h2 h3
            exact ⟨y', List.mem_append_left _ m1, m2⟩
          · rw [List.mem_singleton.1 hy] at h2 h3
            exact ⟨x, by simp, h2, h3⟩
        · rcases List.mem_append.1 hy with hy | hy
          · obtain ⟨x', m1, m2⟩ := H.inn y hy
            exact ⟨x', List.mem_append_left _ m1, m2⟩
          · have : y = x := by simpa using hy
            rw [this]
            exact ⟨x, by simp, Int.le_refl _, Int.le_refl _⟩
        · rcases List.mem_append.1 hy with hy | hy
          · obtain ⟨y', m1, m2⟩ := H.src y hy
            exact ⟨y', List.mem_append_left _ m1, m2⟩
          · exact ⟨x, by simp, by rw [List.mem_singleton.1 hy]⟩
/-- Is a place in a fold? Is a fold in a span? -/
def covB (a : Int) (y : Fo) : Bool := decide (y.f ≤ a ∧ a < y.t)
def inB (y x : Fo) : Bool := decide (x.f ≤ y.f ∧ y.t ≤ x.t)
theorem count_one {y : Fo} (hy : y.f < y.t) : ∀ (h : List Fo), h.Pairwise (fun a b => a.t ≤ b.f) → (∀ x ∈ h, x.f < x.t) → (∃ x ∈ h, x.f ≤ y.f ∧ y.t ≤ x.t) → h.countP (inB y) = 1
  | [], _, _, hx => by obtain ⟨x, hx, _⟩ := hx; cases hx
  | a :: h, hp, hl, hx => by
    obtain ⟨p1, p2⟩ := List.pairwise_cons.1 hp
    by_cases g : a.f ≤ y.f ∧ y.t ≤ a.t
    · have hz : h.countP (inB y) = 0 := by
        rw [List.countP_eq_zero]
        intro b hb hin
        have := of_decide_eq_true hin
        have := p1 b hb
        omega
      rw [List.countP_cons_of_pos (by exact decide_eq_true g), hz]
    · rw [List.countP_cons_of_neg (by simp only [inB, decide_eq_true_eq]; exact g)]
      refine count_one hy h p2 (fun x hx => hl x (List.mem_cons_of_mem _ hx)) ?_
      obtain ⟨x, hx, h1⟩ := hx
      rcases List.mem_cons.1 hx with rfl | hx
      · exact absurd h1 g
      · exact ⟨x, hx, h1⟩
theorem set15f (x : Int) (A : Option Addr) (m c : Nat) (r : Int) (w : World) : (Instr.field 29 (.agg #[.int .i64 x, .slice A m c, .int .i64 r]) 2).run Try.prog w = .ok (.int .i64 r) w := by kernel_rfl
set_option maxHeartbeats 32000000 in
set_option maxRecDepth 100000 in
theorem foldsHide_walk (n : Int) (A : Option Addr) (m c : Nat) (l : List Fo) (w : World) (_wf : (Lit.int .i64 n).wf = true) (hI : RowsAt encF 2 w A l) (hl : l.length = m) (hn : m ≤ maxLen) (hc : Caps A m c) (hO : ∀ s ∈ l, FoOk s) :
    Calls Try.prog 5 #[.int .i64 n, .slice A m c] w fun e w' => e = .returned (.bool true) ∧ Below w.heap.size w w' := by
  have C3 := Lib.hid fun W => fThree_any W
  have tf := set15f
  unfold maxLen at hn
  by_cases g1 : 60 < m
  · have k1 : decide ((60 : Int) < (m : Int)) = true := decide_eq_true (by omega)
    clear hI
    go_enter Try.func5, Try.ntmps5
    go_wp2_with fail
    with_reducible refine (C3.out _).mono ?_
    rintro e w1 ⟨rfl, bb⟩
    have Q1 := Lib.hid bb
    clear bb
    go_wp2
    go_ret
    exact ⟨rfl, Q1.out⟩
  · have k1 : decide ((60 : Int) < (m : Int)) = false := decide_eq_false (by omega)
    by_cases g2 : 400 < n
    · have k2 : decide (400 < n) = true := decide_eq_true g2
      clear hI
      go_enter Try.func5, Try.ntmps5
      go_wp2_with fail
      with_reducible refine (C3.out _).mono ?_
      rintro e w1 ⟨rfl, bb⟩
      have Q1 := Lib.hid bb
      clear bb
      go_wp2
      go_ret
      exact ⟨rfl, Q1.out⟩
    · have k2 : decide (400 < n) = false := decide_eq_false g2
      obtain ⟨r, hr⟩ : ∃ r, r = fwrong n l := ⟨_, rfl⟩
      have CN := Lib.hid (fNew_any n A m c l w hI hc hl hO r hr.symm)
      have CR := Lib.hid fun (W : World) (hW : Below w.heap.size w W) => rNew15 n A m c l W (hI.below hW) hc hl r hr.symm
      have HI := Lib.hid hI
      have HL := Lib.hid hl
      clear hI hc hl hO
      by_cases hz : r = 0
      · have hr0 : fwrong n l = 0 := hr.symm.trans hz
        have hmem := fwrong_mem hr0
        have hol : (ord flt l).length = m := by rw [(ord_perm flt flt_swo l).length_eq]; exact HL.out
        have hok := hidOk _ (ord flt l) rfl (fgood_ord hr0)
        have hcov : ∀ x ∈ hidL (ord flt l), ∀ a : Int, x.f ≤ a → a < x.t → ∃ y ∈ l, y.f ≤ a ∧ a < y.t := fun x hx a h1 h2 => by
          obtain ⟨y, hy, h3⟩ := hok.cov x hx a h1 h2
          exact ⟨y, (ord_perm flt flt_swo l).mem_iff.1 hy, h3⟩
        have hinn : ∀ y ∈ l, (hidL (ord flt l)).countP (inB y) = 1 := fun y hy => count_one (hmem y hy).1 _ hok.ap hok.lt (hok.inn y ((ord_perm flt flt_swo l).mem_iff.2 hy))
        have hbnd : ∀ x ∈ hidL (ord flt l), x.f < x.t ∧ 0 ≤ x.f ∧ x.t ≤ 400 := fun x hx => by
          have e1 := hok.lt x hx
          obtain ⟨y, hy, e2⟩ := hok.src x hx
          have e3 := hmem y ((ord_perm flt flt_swo l).mem_iff.1 hy)
          obtain ⟨z, hz, e4⟩ := hcov x hx (x.t - 1) (by omega) (by omega)
          have e5 := hmem z hz
          omega
        have hap := hok.ap
        have hlen : (hidL (ord flt l)).length ≤ 1000 := by
          by_cases e : ord flt l = []
          · rw [e]; simp [hidL]
          · obtain ⟨L, y, h1, h2, _⟩ := hid_split _ _ rfl e
            rw [h1, List.length_append]; simp; omega
        have CHD := Lib.hid fun (sb : Nat) (W : World) (h : FSet W sb n (ord flt l)) => fHidden_any h (by omega)
        obtain ⟨hd, hhd⟩ : ∃ hd, hd = hidL (ord flt l) := ⟨_, rfl⟩
        rw [← hhd] at hcov hinn hbnd hap hlen CHD
        obtain ⟨M, hM⟩ : ∃ M, M = hd.length := ⟨_, rfl⟩
        rw [← hM] at hlen CHD
        have HM := Lib.hid hM
        have HCOV := Lib.hid hcov
        have HINN := Lib.hid hinn
        have HBND := Lib.hid hbnd
        have HAP := Lib.hid hap
        subst hz
        clear hr hr0 hmem hol hok hcov hinn hbnd hap hhd hM
        go_enter Try.func5, Try.ntmps5
        go_wp2_with fail
        with_reducible refine (CN.out).mono ?_
        rintro e w1 ⟨p1, rfl, _, hp1, bb⟩
        have Q1 := Lib.hid bb
        obtain ⟨s1, rfl, h1⟩ := hp1 (by first | exact trivial | rfl)
        have CH1 := Lib.hid (CHD.out s1 _ h1)
        clear hp1 h1
        clear bb
        go_wp2_with fail
        with_reducible refine (CH1.out).mono ?_
        rintro e w2 ⟨v2, rfl, o2, bb⟩
        have Q2 := Lib.hid (Q1.out.trans (bb.mono Q1.out.size))
        rw [HM.out] at o2
        obtain ⟨A2, c2, rfl, hR2, _, _⟩ := rows_of_own encF_len (by omega) o2
        rw [← HM.out]
        have HR2 := Lib.hid hR2
        clear o2 hR2 CH1
        clear bb
        clear CN CR CHD Q1
        go_wp2_with fail
        go_loopg [8, 52] M (fun g la i wr => ∃ (k : Nat) (t : Int), i = .int .i64 k ∧ la = .int .i64 t ∧ k ≤ M ∧ M - k ≤ g ∧ (∀ hk : k < hd.length, t ≤ hd[k].f) ∧ Hid (Below w2.heap.size w2 wr))
        case atStart => exact ⟨0, 0, rfl, rfl, by omega, by omega, fun hk => (HBND.out _ (List.getElem_mem hk)).2.1, Lib.hid (Below.refl _ _)⟩
        case round =>
          obtain ⟨k, t, rfl, rfl, h1, h2, ht, hb⟩ := hrel
          obtain ⟨gO, hgO⟩ : ∃ g, g = gk := ⟨_, rfl⟩
          subst hgO
          by_cases hlt : k < M
          · have hkh : k < hd.length := by rw [← HM.out]; exact hlt
            obtain ⟨bA, off, rfl, hbA, d0, d1⟩ := (HR2.out.below hb.out).in2F hkh
            have ht1 := ht hkh
            have ht2 : ∀ hk : k + 1 < hd.length, hd[k].t ≤ hd[k + 1].f := fun hk => List.pairwise_iff_getElem.1 HAP.out k (k + 1) hkh hk (by omega)
            have hbx := HBND.out _ (List.getElem_mem hkh)
            have hcv := HCOV.out _ (List.getElem_mem hkh)
            generalize hd[k] = x at *
            have HT2 := Lib.hid ht2
            have HCV := Lib.hid hcv
            have i1 : (0 : Int) ≤ k := by omega
            have i2 : (k : Int) < M := by omega
            have k3 : decide (x.f < t) = false := decide_eq_false (by omega)
            have k4 : decide (x.t ≤ x.f) = false := decide_eq_false (by omega)
            have x3 : Below wr.heap.size wr (wr.alloc (.cells #[.int .i64 x.f, .int .i64 x.t] 33)) := (Below.refl _ _).alloc (Nat.le_refl _) _
            have R3 : RawAt 33 (wr.alloc (.cells #[.int .i64 x.f, .int .i64 x.t] 33)) wr.heap.size #[.int .i64 x.f, .int .i64 x.t] := heap_alloc_new wr _
            have HB3 := Lib.hid (hb.out.trans (x3.mono hb.out.size))
            have HR3 := Lib.hid R3
            have c0 := RawAt.cell R3 0
            have c1 := RawAt.cell R3 1
            simp at c0 c1
            clear ht ht1 ht2 hcv hb x3 R3
            obtain ⟨W3, hW3⟩ : ∃ W3, W3 = wr.alloc (.cells #[.int .i64 x.f, .int .i64 x.t] 33) := ⟨_, rfl⟩
            obtain ⟨b3, hb3⟩ : ∃ b3, b3 = wr.heap.size := ⟨_, rfl⟩
            rw [← hW3] at HB3 HR3
            rw [← hb3] at HR3
            have HW3 := Lib.hid hW3
            have HB3E := Lib.hid hb3
            clear hW3 hb3
            go_wp2_with fail
            rw [← HW3.out, ← HB3E.out]
            clear HW3 HB3E c0 c1 d0 d1
            go_loopg [11] 400 (fun g av wr2 => ∃ (a : Int), av = .int .i64 a ∧ x.f ≤ a ∧ a ≤ x.t ∧ (x.t - a).toNat ≤ g ∧ Hid (Below W3.heap.size W3 wr2))
            case atStart => exact ⟨x.f, rfl, by omega, by omega, by omega, Lib.hid (Below.refl _ _)⟩
            case round =>
              obtain ⟨a, rfl, a1, a2, a3, hbw⟩ := hrel
              obtain ⟨gO2, hgO2⟩ : ∃ g, g = gk := ⟨_, rfl⟩
              subst hgO2
              have HRX := Lib.hid (HR3.out.below hbw.out HR3.out.lt)
              have c0 := RawAt.cell HRX.out 0
              have c1 := RawAt.cell HRX.out 1
              simp at c0 c1
              have HBW := Lib.hid (HB3.out.trans (hbw.out.mono HB3.out.size))
              by_cases hlt2 : a < x.t
              · have k5 : decide (a < x.t) = true := decide_eq_true hlt2
                have hw1 : IntKind.i64.wrap (a + 1) = a + 1 := IntWalk.i64_in _ (by omega)
                have hany : l.any (covB a) = true := by
                  obtain ⟨y, hy, hy2⟩ := HCV.out a a1 hlt2
                  exact List.any_eq_true.2 ⟨y, hy, decide_eq_true hy2⟩
                have HANY := Lib.hid hany
                clear hany
                go_wp2_with fail
                clear c0 c1
                go_loopg [12, 79] m (fun g iv i wr3 => ∃ (j : Nat), i = .int .i64 j ∧ j ≤ m ∧ m - j ≤ g ∧ iv = .bool ((l.take j).any (covB a)) ∧ Hid (Below W3.heap.size W3 wr3))
                case atStart => exact ⟨0, rfl, by omega, by omega, rfl, hbw⟩
                case round =>
                  clear hbw HRX
                  obtain ⟨j, rfl, j1, j2, rfl, hbz⟩ := hrel
                  have HBZ := Lib.hid (HB3.out.trans (hbz.out.mono HB3.out.size))
                  have HRZ := Lib.hid (HR3.out.below hbz.out HR3.out.lt)
                  by_cases hlt3 : j < m
                  · have hjl : j < l.length := by rw [HL.out]; exact hlt3
                    obtain ⟨bO, off2, rfl, hbO, u0, u1⟩ := (HI.out.below (Q2.out.trans (HBZ.out.mono Q2.out.size))).in2F hjl
                    have hst : (l.take (j + 1)).any (covB a) = ((l.take j).any (covB a) || covB a l[j]) := by rw [List.take_succ_eq_append_getElem hjl, List.any_append]; simp
                    have HST := Lib.hid hst
                    clear hst
                    generalize l[j] = y at *
                    generalize hin : (l.take j).any (covB a) = inn at *
                    have HIN := Lib.hid hin
                    clear hin
                    have q1 : (0 : Int) ≤ j := by omega
                    have q2 : (j : Int) < m := by omega
                    have x6 : Below wr.heap.size wr (wr.alloc (.cells #[.int .i64 y.f, .int .i64 y.t] 33)) := (Below.refl _ _).alloc (Nat.le_refl _) _
                    have HB6 := Lib.hid (hbz.out.trans (x6.mono hbz.out.size))
                    clear x6 hbz
                    cases inn with
                    | true =>
                      have HN : Hid ((l.take (j + 1)).any (covB a) = true) := Lib.hid (by rw [HST.out]; rfl)
                      clear HST
                      go_wp2
                      go_roundg (gk - 1)
                      case measure => omega
                      case rel => exact ⟨j + 1, by go_num, by omega, by omega, by rw [HN.out], HB6⟩
                    | false =>
                      by_cases g7 : y.f ≤ a
                      · have k7 : decide (y.f ≤ a) = true := decide_eq_true g7
                        by_cases g8 : a < y.t
                        · have k8 : decide (a < y.t) = true := decide_eq_true g8
                          have HN : Hid ((l.take (j + 1)).any (covB a) = true) := Lib.hid (by rw [HST.out]; exact decide_eq_true ⟨g7, g8⟩)
                          clear HST
                          go_wp2
                          go_roundg (gk - 1)
                          case measure => omega
                          case rel => exact ⟨j + 1, by go_num, by omega, by omega, by rw [HN.out], HB6⟩
                        · have k8 : decide (a < y.t) = false := decide_eq_false g8
                          have HN : Hid ((l.take (j + 1)).any (covB a) = false) := Lib.hid (by rw [HST.out]; exact decide_eq_false fun h => g8 h.2)
                          clear HST
                          go_wp2
                          go_roundg (gk - 1)
                          case measure => omega
                          case rel => exact ⟨j + 1, by go_num, by omega, by omega, by rw [HN.out], HB6⟩
                      · have k7 : decide (y.f ≤ a) = false := decide_eq_false g7
                        have HN : Hid ((l.take (j + 1)).any (covB a) = false) := Lib.hid (by rw [HST.out]; exact decide_eq_false fun h => g7 h.1)
                        clear HST
                        go_wp2
                        go_roundg (gk - 1)
                        case measure => omega
                        case rel => exact ⟨j + 1, by go_num, by omega, by omega, by rw [HN.out], HB6⟩
                  · obtain rfl : j = m := by omega
                    have e3 : l.take j = l := List.take_of_length_le (by rw [HL.out]; exact Nat.le_refl _)
                    rw [e3, HANY.out]
                    clear e3
                    go_wp2
                    go_roundg (gO2 - 1)
                    case measure => omega
                    case rel => exact ⟨a + 1, by go_num, by omega, by omega, by omega, hbz⟩
              · have k5 : decide (a < x.t) = false := decide_eq_false hlt2
                clear HRX
                go_wp2
                go_roundg (gO - 1)
                case measure => omega
                case rel => exact ⟨k + 1, x.t, by go_num, rfl, by omega, by omega, HT2.out, HBW⟩
          · obtain rfl : k = M := by omega
            have HQ3 := Lib.hid (Q2.out.trans (hb.out.mono Q2.out.size))
            clear ht
            go_wp2_with fail
            go_loopg [102] m (fun g i wr3 => ∃ (j : Nat), i = .int .i64 j ∧ j ≤ m ∧ m - j ≤ g ∧ Hid (Below w2.heap.size w2 wr3))
            case atStart => exact ⟨0, rfl, by omega, by omega, hb⟩
            case round =>
              clear hb HQ3
              obtain ⟨j, rfl, j1, j2, hbz⟩ := hrel
              obtain ⟨gO, hgO⟩ : ∃ g, g = gk := ⟨_, rfl⟩
              subst hgO
              have HBZ := Lib.hid (Q2.out.trans (hbz.out.mono Q2.out.size))
              by_cases hlt3 : j < m
              · have hjl : j < l.length := by rw [HL.out]; exact hlt3
                obtain ⟨bO, off2, rfl, hbO, u0, u1⟩ := (HI.out.below HBZ.out).in2F hjl
                have hcn := HINN.out _ (List.getElem_mem hjl)
                generalize l[j] = y at *
                have HCN := Lib.hid hcn
                clear hcn
                have q1 : (0 : Int) ≤ j := by omega
                have q2 : (j : Int) < m := by omega
                have x6 : Below wr.heap.size wr (wr.alloc (.cells #[.int .i64 y.f, .int .i64 y.t] 33)) := (Below.refl _ _).alloc (Nat.le_refl _) _
                have R6 : RawAt 33 (wr.alloc (.cells #[.int .i64 y.f, .int .i64 y.t] 33)) wr.heap.size #[.int .i64 y.f, .int .i64 y.t] := heap_alloc_new wr _
                have HB6 := Lib.hid (hbz.out.trans (x6.mono hbz.out.size))
                have HR6 := Lib.hid R6
                clear x6 R6 hbz
                obtain ⟨W6, hW6⟩ : ∃ W6, W6 = wr.alloc (.cells #[.int .i64 y.f, .int .i64 y.t] 33) := ⟨_, rfl⟩
                obtain ⟨b6, hb6⟩ : ∃ b6, b6 = wr.heap.size := ⟨_, rfl⟩
                rw [← hW6] at HB6 HR6
                rw [← hb6] at HR6
                have HW6 := Lib.hid hW6
                have HB6E := Lib.hid hb6
                clear hW6 hb6
                go_wp2_with fail
                rw [← HW6.out, ← HB6E.out]
                clear HW6 HB6E u0 u1
                go_loopg [17, 108] k (fun g cv i wr4 => ∃ (q : Nat), i = .int .i64 q ∧ q ≤ k ∧ k - q ≤ g ∧ cv = .int .i64 ((hd.take q).countP (inB y) : Nat) ∧ Hid (Below W6.heap.size W6 wr4))
                case atStart => exact ⟨0, rfl, by omega, by omega, rfl, Lib.hid (Below.refl _ _)⟩
                case round =>
                  obtain ⟨q, rfl, q3, q4, rfl, hbv⟩ := hrel
                  have HBV := Lib.hid (HB6.out.trans (hbv.out.mono HB6.out.size))
                  by_cases hlt4 : q < k
                  · have hqh : q < hd.length := by rw [← HM.out]; exact hlt4
                    obtain ⟨bA, off, rfl, hbA, d0, d1⟩ := (HR2.out.below HBV.out).in2F hqh
                    have hst : (hd.take (q + 1)).countP (inB y) = (hd.take q).countP (inB y) + if inB y hd[q] = true then 1 else 0 := by rw [List.take_succ_eq_append_getElem hqh, List.countP_append, List.countP_singleton]
                    have hcl : (hd.take q).countP (inB y) ≤ 1000 := Nat.le_trans List.countP_le_length (by rw [List.length_take]; omega)
                    have HST := Lib.hid hst
                    clear hst
                    generalize hd[q] = x at *
                    generalize (hd.take q).countP (inB y) = cn at *
                    have i1 : (0 : Int) ≤ q := by omega
                    have i2 : (q : Int) < k := by omega
                    have hw1 : IntKind.i64.wrap ((cn : Int) + 1) = (cn : Int) + 1 := IntWalk.i64_in _ (by omega)
                    have x7 : Below wr.heap.size wr (wr.alloc (.cells #[.int .i64 x.f, .int .i64 x.t] 33)) := (Below.refl _ _).alloc (Nat.le_refl _) _
                    have R7 := HR6.out.below hbv.out HR6.out.lt
                    have c0 := RawAt.cell R7 0
                    have c1 := RawAt.cell R7 1
                    simp at c0 c1
                    have hlb := R7.lt
                    have HB7 := Lib.hid (hbv.out.trans (x7.mono hbv.out.size))
                    clear x7 hbv R7
                    by_cases g7 : x.f ≤ y.f
                    · have k7 : decide (x.f ≤ y.f) = true := decide_eq_true g7
                      by_cases g8 : y.t ≤ x.t
                      · have k8 : decide (y.t ≤ x.t) = true := decide_eq_true g8
                        have HN : Hid ((hd.take (q + 1)).countP (inB y) = cn + 1) := Lib.hid (by rw [HST.out, if_pos (by exact decide_eq_true ⟨g7, g8⟩)])
                        clear HST
                        go_wp2
                        go_roundg (gk - 1)
                        case measure => omega
                        case rel => exact ⟨q + 1, by go_num, by omega, by omega, by rw [HN.out]; go_num, HB7⟩
                      · have k8 : decide (y.t ≤ x.t) = false := decide_eq_false g8
                        have HN : Hid ((hd.take (q + 1)).countP (inB y) = cn) := Lib.hid (by rw [HST.out, if_neg (by simp only [inB, decide_eq_true_eq]; exact fun h => g8 h.2), Nat.add_zero])
                        clear HST
                        go_wp2
                        go_roundg (gk - 1)
                        case measure => omega
                        case rel => exact ⟨q + 1, by go_num, by omega, by omega, by rw [HN.out], HB7⟩
                    · have k7 : decide (x.f ≤ y.f) = false := decide_eq_false g7
                      have HN : Hid ((hd.take (q + 1)).countP (inB y) = cn) := Lib.hid (by rw [HST.out, if_neg (by simp only [inB, decide_eq_true_eq]; exact fun h => g7 h.1), Nat.add_zero])
                      clear HST
                      go_wp2
                      go_roundg (gk - 1)
                      case measure => omega
                      case rel => exact ⟨q + 1, by go_num, by omega, by omega, by rw [HN.out], HB7⟩
                  · obtain rfl : q = k := by omega
                    have e3 : hd.take q = hd := List.take_of_length_le (by rw [← HM.out]; exact Nat.le_refl _)
                    rw [e3, HCN.out]
                    clear e3
                    go_wp2
                    go_roundg (gO - 1)
                    case measure => omega
                    case rel => exact ⟨j + 1, by go_num, by omega, by omega, HBV⟩
              · obtain rfl : j = m := by omega
                clear hbz
                go_wp2_with fail
                with_reducible refine (C3.out _).mono ?_
                rintro e w9 ⟨rfl, bb⟩
                have Q9 := Lib.hid (HBZ.out.trans (bb.mono HBZ.out.size))
                clear bb
                go_wp2
                go_ret
                exact ⟨rfl, Q9.out⟩
      · have k5 : (r != 0) = true := by simp [hz]
        have k6 : (r == 0) = false := by simp [hz]
        have k7 : decide (r = 0) = false := decide_eq_false hz
        have HZ := Lib.hid hz
        clear hz hr
        go_enter Try.func5, Try.ntmps5
        go_wp2_with fail
        with_reducible refine (CN.out).mono ?_
        rintro e w1 ⟨p1, rfl, hp1, _, bb⟩
        have Q1 := Lib.hid bb
        have hp := hp1 HZ.out
        subst hp
        clear hp1
        clear bb
        go_wp2_with fail
        with_reducible refine (CR.out _ Q1.out).mono ?_
        rintro e w2 ⟨nn, A2, m2, c2, rfl, _, bb⟩
        have Q2 := Lib.hid (Q1.out.trans (bb.mono Q1.out.size))
        clear bb
        go_wp2_with fail
        with_reducible refine (C3.out _).mono ?_
        rintro e w9 ⟨rfl, bb⟩
        have Q9 := Lib.hid (Q2.out.trans (bb.mono Q2.out.size))
        clear bb
        go_wp2
        go_ret
        exact ⟨rfl, Q9.out⟩
end Go.Proofs.Ytnfjleobcfhpnaa
