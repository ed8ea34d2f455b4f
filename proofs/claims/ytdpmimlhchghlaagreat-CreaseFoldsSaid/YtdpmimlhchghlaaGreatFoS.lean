/- Folds: the document's over, Hidden. -/
import Derived.Test.YtdpmimlhchghlaaGreatFoR
import Derived.Test.YtdpmimlhchghlaaGreatFoD
namespace Go.Proofs.YtdpmimlhchghlaaGreat
open Go.RowKit Go.Sort
set_option linter.unusedVariables false
/-- Folds in their order, none empty. -/
structure FGood (o : List Fo) : Prop where
  lt : ∀ x ∈ o, x.f < x.t
  srt : o.Pairwise (fun a b => a.f ≤ b.f)
theorem fw_lt (n : Int) : ∀ (l seen : List Fo), fw n seen l = 0 → ∀ x ∈ l, x.f < x.t ∧ 0 ≤ x.f ∧ x.t ≤ n
  | [], _, _, x, h => by cases h
  | a :: l, seen, h, x, hx => by
    unfold fw at h
    by_cases g : fsp a n ∧ a.f ≠ a.t
    · rw [if_neg (fun hh => hh g)] at h
      by_cases g2 : a ∈ seen
      · rw [if_pos g2] at h; exact absurd h (by decide)
      · rw [if_neg g2] at h
        rcases List.mem_cons.1 hx with rfl | hx
        · obtain ⟨⟨g3, g4, g5⟩, g6⟩ := g; omega
        · exact fw_lt n l _ h x hx
    · rw [if_pos g] at h; exact absurd h (by decide)
theorem fgood_ord {n : Int} {l : List Fo} (h : fwrong n l = 0) : FGood (ord flt l) := by
  unfold fwrong at h
  by_cases g1 : n < 0 ∨ 1099511627776 < n
  · rw [if_pos g1] at h; exact absurd h (by decide)
  · rw [if_neg g1] at h
    by_cases g2 : 60 < l.length
    · rw [if_pos g2] at h; exact absurd h (by decide)
    · rw [if_neg g2] at h
      refine ⟨fun x hx => (fw_lt n l [] h x ((ord_perm flt flt_swo l).mem_iff.1 hx)).1, (ord_sorted flt flt_swo l).imp fun {a b} hab => ?_⟩
      simp only [flt, decide_eq_false_iff_not] at hab
      omega
theorem fwrong_len {n : Int} {l : List Fo} (h : fwrong n l = 0) : l.length ≤ 60 ∧ 0 ≤ n ∧ n ≤ 1099511627776 := by
  unfold fwrong at h
  by_cases g1 : n < 0 ∨ 1099511627776 < n
  · rw [if_pos g1] at h; exact absurd h (by decide)
  · rw [if_neg g1] at h
    by_cases g2 : 60 < l.length
    · rw [if_pos g2] at h; exact absurd h (by decide)
    · omega
theorem fwrong_mem {n : Int} {l : List Fo} (h : fwrong n l = 0) : ∀ x ∈ l, x.f < x.t ∧ 0 ≤ x.f ∧ x.t ≤ n := by
  have h2 := fwrong_len h
  unfold fwrong at h
  rw [if_neg (by omega), if_neg (by omega)] at h
  exact fw_lt n l [] h
theorem hid_split : ∀ (n : Nat) (o : List Fo), o.length = n → o ≠ [] → ∃ L y, hidL o = L ++ [y] ∧ L.length + 1 ≤ o.length ∧ ∃ x ∈ o, x.f = y.f := by
  intro n
  induction n with
  | zero => intro o h h0; exact absurd (List.eq_nil_of_length_eq_zero h) h0
  | succ n ih =>
    intro o h h0
    obtain ⟨c, x, rfl⟩ : ∃ c x, o = c ++ [x] := ⟨o.dropLast, o.getLast h0, (List.dropLast_concat_getLast h0).symm⟩
    have hc : c.length = n := by simpa using h
    have e : hidL (c ++ [x]) = hstep (hidL c) x := by unfold hidL; rw [List.foldl_append]; rfl
    by_cases hc0 : c = []
    · subst hc0
      exact ⟨[], x, by rw [e]; rfl, by simp, x, by simp, rfl⟩
    · obtain ⟨L, y, h1, h2, z, h3, h4⟩ := ih c hc hc0
      rw [e, h1]
      by_cases g : x.f < y.t
      · rw [hstep_in _ _ _ g]
        exact ⟨L, _, rfl, by simp; omega, z, List.mem_append_left _ h3, h4⟩
      · rw [hstep_out _ _ _ g]
        exact ⟨L ++ [y], x, rfl, by simp; omega, x, by simp, rfl⟩
theorem good_at {o : List Fo} (h : FGood o) {k : Nat} (hk : k < o.length) {x : Fo} (hx : x ∈ o.take k) : x.f ≤ o[k].f := by
  obtain ⟨i, hi, rfl⟩ := List.mem_iff_getElem.1 hx
  have hik : i < k := by rw [List.length_take] at hi; omega
  rw [List.getElem_take]
  exact List.pairwise_iff_getElem.1 h.srt i k (by omega) hk hik
set_option maxHeartbeats 4000000 in
theorem rOver15 (a b : Fo) (w : World) (r : Bool) (hr : r = decide (a.f < b.t ∧ b.f < a.t)) : Calls Tryz.prog 63 #[.agg #[.int .i64 a.f, .int .i64 a.t], .agg #[.int .i64 b.f, .int .i64 b.t]] w fun e w' => e = .returned (.bool r) ∧ Below w.heap.size w w' := by
  have xb : Below w.heap.size w ((w.alloc (.cells #[.int .i64 a.f, .int .i64 a.t] 47)).alloc (.cells #[.int .i64 b.f, .int .i64 b.t] 47)) := ((Below.refl _ _).alloc (Nat.le_refl _) _).alloc (by simp) _
  have x1 : RawAt 47 ((w.alloc (.cells #[.int .i64 a.f, .int .i64 a.t] 47)).alloc (.cells #[.int .i64 b.f, .int .i64 b.t] 47)) w.heap.size #[.int .i64 a.f, .int .i64 a.t] := (new2 w _ _ _ _).1
  have x2 : RawAt 47 ((w.alloc (.cells #[.int .i64 a.f, .int .i64 a.t] 47)).alloc (.cells #[.int .i64 b.f, .int .i64 b.t] 47)) (w.heap.size + 1) #[.int .i64 b.f, .int .i64 b.t] := (new2 w _ _ _ _).2.1
  have c0 := RawAt.cell x1 0
  have c1 := RawAt.cell x1 1
  have d0 := RawAt.cell x2 0
  have d1 := RawAt.cell x2 1
  simp at c0 c1 d0 d1
  have HR := Lib.hid hr
  have XB := Lib.hid xb
  clear hr x1 x2 xb
  by_cases g1 : a.f < b.t
  · have k1 : decide (a.f < b.t) = true := decide_eq_true g1
    by_cases g2 : b.f < a.t
    · have k2 : decide (b.f < a.t) = true := decide_eq_true g2
      have e : r = true := by rw [HR.out]; exact decide_eq_true ⟨g1, g2⟩
      subst e
      clear HR
      go_enter Tryz.func63, Tryz.ntmps63
      go_wp2
      go_ret
      exact ⟨rfl, XB.out⟩
    · have k2 : decide (b.f < a.t) = false := decide_eq_false g2
      have e : r = false := by rw [HR.out]; exact decide_eq_false fun h => g2 h.2
      subst e
      clear HR g2
      go_enter Tryz.func63, Tryz.ntmps63
      go_wp2
      go_ret
      exact ⟨rfl, XB.out⟩
  · have k1 : decide (a.f < b.t) = false := decide_eq_false g1
    have e : r = false := by rw [HR.out]; exact decide_eq_false fun h => g1 h.1
    subst e
    clear HR g1
    go_enter Tryz.func63, Tryz.ntmps63
    go_wp2
    go_ret
    exact ⟨rfl, XB.out⟩
set_option maxHeartbeats 32000000 in
set_option maxRecDepth 100000 in
theorem rHidden15 (n : Int) (A : Option Addr) (m c : Nat) (er : Int) (o : List Fo) (w : World) (hA : RowsAt encF 2 w A o) (hcap : Caps A m c) (hl : o.length = m) (hm : m ≤ 1000) (hg : FGood o) :
    Calls Tryz.prog 32 #[.agg #[.int .i64 n, .slice A m c, .int .i64 er]] w fun e w' => ∃ v, e = .returned v ∧ w'.ownsRow w.heap.size 47 2 v (hidL o).length (kfl encF (hidL o)) ∧ Below w.heap.size w w' := by
  have ST := fo_slt
  have x1 : Below w.heap.size w (w.alloc (.cells #[.int .i64 n, .slice A m c, .int .i64 er] 63)) := (Below.refl _ _).alloc (Nat.le_refl _) _
  have R1 : RawAt 63 (w.alloc (.cells #[.int .i64 n, .slice A m c, .int .i64 er] 63)) w.heap.size #[.int .i64 n, .slice A m c, .int .i64 er] := heap_alloc_new w _
  have HA1 := Lib.hid (hA.below x1)
  have c0 := RawAt.cell R1 0
  have c1 := RawAt.cell R1 1
  simp at c0 c1
  have X1 := Lib.hid x1
  have HL := Lib.hid hl
  have HC := Lib.hid hcap
  have HG := Lib.hid hg
  have O0 := Lib.hid (World.ownsRow_nil (w.alloc (.cells #[.int .i64 n, .slice A m c, .int .i64 er] 63)) (w.alloc (.cells #[.int .i64 n, .slice A m c, .int .i64 er] 63)).heap.size 47 2)
  clear hA hcap hl hg R1 x1
  go_enter Tryz.func32, Tryz.ntmps32
  go_wp2_with (at_builtin; refine wpList_appK (enc := encF) ST encF_len (by omega) rfl (.tmp 7) (.tmp 9) rfl (base := (w.alloc (.cells #[.int .i64 n, .slice A m c, .int .i64 er] 63)).heap.size) (v := .slice none 0 0) rfl O0.out _ m c o rfl HA1.out HC.out HL.out (kfl_one' encF_one _) (by simp only [maxLen]; omega) (by omega) (Nat.le_refl _) ?_; intro v2 w2 hown2 hg2 hor2; have bb : Below (w.alloc (.cells #[.int .i64 n, .slice A m c, .int .i64 er] 63)).heap.size (w.alloc (.cells #[.int .i64 n, .slice A m c, .int .i64 er] 63)) w2 := (Below.refl _ _).grown hg2 (Nat.le_refl _) (fun j hj => by cases hj); have O2 : Hid (w2.ownsRow (w.alloc (.cells #[.int .i64 n, .slice A m c, .int .i64 er] 63)).heap.size 47 2 v2 m (kfl encF o)) := Lib.hid (by rw [Nat.zero_add, List.nil_append] at hown2; exact hown2); have B2 := Lib.hid bb; clear bb hown2 hg2 hor2 O0)
  obtain ⟨W1, hW1⟩ : ∃ W1, W1 = w.alloc (.cells #[.int .i64 n, .slice A m c, .int .i64 er] 63) := ⟨_, rfl⟩
  rw [← hW1] at O2 B2 X1
  clear c0 c1 HA1 hW1
  rcases Nat.eq_zero_or_pos m with hm0 | hmp
  · have ho : o = [] := List.eq_nil_of_length_eq_zero (by rw [HL.out]; exact hm0)
    subst ho
    subst hm0
    obtain ⟨A2, c2, rfl⟩ := own_formF O2.out
    have HB2 := Lib.hid (X1.out.trans (B2.out.mono X1.out.size))
    have HO2 := Lib.hid (own_baseF O2.out X1.out.size)
    clear B2 O2
    go_loopg [3, 4] 0 (fun g v i wr => i = .int .i64 0 ∧ v = .slice A2 0 c2 ∧ wr = w2)
    case atStart => exact ⟨rfl, rfl, rfl⟩
    case round =>
      obtain ⟨rfl, rfl, rfl⟩ := hrel
      go_wp2
      go_ret
      exact ⟨_, rfl, HO2.out, HB2.out⟩
  · go_loopg [3, 4] m (fun g v i wr => ∃ (k : Nat) (L : List Fo) (y : Fo), i = .int .i64 L.length ∧ 1 ≤ k ∧ k ≤ m ∧ m - k ≤ g ∧ L.length + 1 ≤ k ∧ Hid (hidL (o.take k) = L ++ [y]) ∧ Hid (Below W1.heap.size W1 wr) ∧ Hid (wr.ownsRow W1.heap.size 47 2 v (L.length + 1 + (m - k)) (kfl encF (L ++ [y] ++ o.drop k))))
    case atStart =>
      have h0 : 0 < o.length := by rw [HL.out]; exact hmp
      have e0 : o.take 1 = [o[0]] := by rw [List.take_succ_eq_append_getElem h0]; rfl
      refine ⟨1, [], o[0], rfl, by omega, by omega, by omega, by simp, Lib.hid (by rw [e0]; rfl), B2, Lib.hid ?_⟩
      have e1 : [] ++ [o[0]] ++ o.drop 1 = o := by rw [List.nil_append, ← e0, List.take_append_drop]
      rw [e1, show ([] : List Fo).length + 1 + (m - 1) = m from by simp; omega]
      exact O2.out
    case round =>
      clear B2 O2
      obtain ⟨k, L, y, rfl, h1, h2, h3, h4, hH, hb, hown⟩ := hrel
      obtain ⟨p, hp⟩ : ∃ p, p = L.length := ⟨_, rfl⟩
      have HP := Lib.hid hp
      rw [← hp] at hown h4 ⊢
      clear hp
      have wpp : IntKind.i64.wrap ((p : Int) + 1) = (p : Int) + 1 := IntWalk.i64_in _ (by omega)
      have hlt4 := hown.out.lt
      obtain ⟨A3, c3, rfl, hR3, hl3, hC3⟩ := rows_of_own encF_len (by omega) hown.out
      have HBW := Lib.hid (X1.out.trans (hb.out.mono X1.out.size))
      by_cases hlt : k < m
      · have hko : k < o.length := by rw [HL.out]; exact hlt
        have hdr : o.drop k = o[k] :: o.drop (k + 1) := List.drop_eq_getElem_cons hko
        have hyx : y.f ≤ o[k].f := by
          have hne : o.take k ≠ [] := fun e => by
            have h9 : (o.take k).length = 0 := by rw [e]; rfl
            have h8 := HL.out
            rw [List.length_take] at h9
            omega
          obtain ⟨L2, y2, e1, _, z, hz, e2⟩ := hid_split _ (o.take k) rfl hne
          rw [hH.out] at e1
          obtain ⟨_, e3⟩ := List.append_inj' e1 rfl
          injection e3 with e3
          rw [e3, ← e2]
          exact good_at HG.out hko hz
        have hxx := HG.out.lt _ (List.getElem_mem hko)
        have hst := hidL_take hko
        rw [hH.out] at hst
        have HST := Lib.hid hst
        rw [hdr] at hown hR3 hl3
        generalize o[k] = x at *
        generalize hD : o.drop (k + 1) = D at *
        have HD := Lib.hid hD
        clear hst hdr hH hD
        have hq1 : p < (L ++ [y] ++ x :: D).length := by rw [HP.out]; simp
        have hq2 : p + 1 < (L ++ [y] ++ x :: D).length := by rw [HP.out]; simp
        have g1 : (L ++ [y] ++ x :: D)[p] = y := by simp [HP.out]
        have g2 : (L ++ [y] ++ x :: D)[p + 1] = x := by simp [HP.out]
        obtain ⟨bA, off, rfl, hbA, u0, u1⟩ := hR3.in2F hq1
        obtain ⟨bB, off2, hO, hbB, u2, u3⟩ := hR3.in2F hq2
        injection hO with hO
        injection hO with hO1 hO2
        subst hO1
        subst hO2
        rw [g1] at u0 u1
        rw [g2] at u2 u3
        have u2 : wr.cell? ⟨bA, off + (p + 1) * 2, none⟩ = some (.int .i64 x.f) := u2
        have u3 : wr.cell? ⟨bA, off + (p + 1) * 2 + 1, none⟩ = some (.int .i64 x.t) := u3
        obtain ⟨M, hM⟩ : ∃ M, M = p + 1 + (m - k) := ⟨_, rfl⟩
        rw [← hM] at hown hl3 hC3 ⊢
        have hMM : M ≤ 1000 ∧ p + 1 < M := by omega
        have HM := Lib.hid hM
        have i1 : (0 : Int) ≤ p := by omega
        have i2 : (p : Int) < M := by omega
        have i3 : (p : Int) + 1 < M := by omega
        have i4 : (0 : Int) ≤ (p : Int) + 1 := by omega
        have k3 : decide ((p : Int) + 1 < (M : Int)) = true := decide_eq_true i3
        have HDL : Hid (D.length + 1 = m - k) := Lib.hid (by have := HL.out; rw [← HD.out, List.length_drop]; omega)
        have HHO := Lib.hid hown.out
        have HRR := Lib.hid hR3
        have HL3 := Lib.hid hl3
        have HC3 := Lib.hid hC3
        have HBB := Lib.hid hb.out
        have hu0 := Lib.hid u0
        have MK : Hid (∀ W : World, Below wr.heap.size wr W → (fun W => W.cell? ⟨bA, off + p * 2, none⟩ = some (.int .i64 y.f) ∧ W.cell? ⟨bA, off + p * 2 + 1, none⟩ = some (.int .i64 y.t) ∧ W.cell? ⟨bA, off + (p + 1) * 2, none⟩ = some (.int .i64 x.f) ∧ W.cell? ⟨bA, off + (p + 1) * 2 + 1, none⟩ = some (.int .i64 x.t)) W) := Lib.hid fun W hW => ⟨((old_cells hW).1 _ _ hbA).trans u0, ((old_cells hW).1 _ _ hbA).trans u1, ((old_cells hW).1 _ _ hbA).trans u2, ((old_cells hW).1 _ _ hbA).trans u3⟩
        have hW2 : Below wr.heap.size wr wr.drew := (Below.refl _ _).drew
        clear hown hb hR3 hl3 hC3 hq1 hq2 g1 g2 hM
        obtain ⟨r, hr⟩ : ∃ r, r = decide (y.f < x.t ∧ x.f < y.t) := ⟨_, rfl⟩
        have CO := Lib.hid fun (W : World) => rOver15 y x W r hr
        by_cases g : x.f < y.t
        · have e : r = true := by rw [hr]; exact decide_eq_true ⟨by omega, g⟩
          subst e
          have HN : Hid (hidL (o.take (k + 1)) = L ++ [⟨y.f, max y.t x.t⟩]) := Lib.hid (by rw [HST.out, hstep_in _ _ _ g])
          clear HST g hr
          go_wp2_with fail
          refine wp_region_noPanic ?_
          refine wp_region_held_drew (S := (fun W => W.cell? ⟨bA, off + p * 2, none⟩ = some (.int .i64 y.f) ∧ W.cell? ⟨bA, off + p * 2 + 1, none⟩ = some (.int .i64 y.t) ∧ W.cell? ⟨bA, off + (p + 1) * 2, none⟩ = some (.int .i64 x.f) ∧ W.cell? ⟨bA, off + (p + 1) * 2 + 1, none⟩ = some (.int .i64 x.t))) (by kernel_rfl) (MK.out _ hW2) (fun hHeld => ?_)
          refine wpAnyH_take (i := 0) (v := ?_) rfl (by kernel_rfl) (by kernel_rfl) (by kernel_rfl) (fun _ _ _ h => h) (Or.inl ⟨by rfl, ?_⟩) hHeld ?_
          rotate_left
          · intro w hSw
            (try dsimp only at hSw)
            go_simp
            try with_reducible rfl
          go_simp
          refine wpAnyH_take (i := 1) (v := ?_) rfl (by kernel_rfl) (by kernel_rfl) (by kernel_rfl) (fun _ _ _ h => h) (Or.inl ⟨by rfl, ?_⟩) hHeld ?_
          rotate_left
          · intro w hSw
            (try dsimp only at hSw)
            go_simp
            try with_reducible rfl
          go_simp
          refine wpAnyH_take (i := 2) (v := ?_) rfl (by kernel_rfl) (by kernel_rfl) (by kernel_rfl) (fun _ _ _ h => h) (Or.inl ⟨by rfl, ?_⟩) hHeld ?_
          rotate_left
          · intro w hSw
            (try dsimp only at hSw)
            go_simp
            try with_reducible rfl
          go_simp
          refine wpAnyH_take (i := 3) (v := ?_) rfl (by kernel_rfl) (by kernel_rfl) (by kernel_rfl) (fun _ _ _ h => h) (Or.inl ⟨by rfl, ?_⟩) hHeld ?_
          rotate_left
          · intro w hSw
            (try dsimp only at hSw)
            go_simp
            try with_reducible rfl
          go_simp
          refine wpAnyH_take (i := 4) (v := ?_) rfl (by kernel_rfl) (by kernel_rfl) (by kernel_rfl) (fun _ _ _ h => h) (Or.inl ⟨by rfl, ?_⟩) hHeld ?_
          rotate_left
          · intro w hSw
            (try dsimp only at hSw)
            go_simp
            try with_reducible rfl
          go_simp
          refine wpAnyH_take (i := 5) (v := ?_) rfl (by kernel_rfl) (by kernel_rfl) (by kernel_rfl) (fun _ _ _ h => h) (Or.inl ⟨by rfl, ?_⟩) hHeld ?_
          rotate_left
          · intro w hSw
            (try dsimp only at hSw)
            go_simp
            try with_reducible rfl
          go_simp
          refine wpAnyH_take (i := 6) (v := ?_) rfl (by kernel_rfl) (by kernel_rfl) (by kernel_rfl) (fun _ _ _ h => h) (Or.inl ⟨by rfl, ?_⟩) hHeld ?_
          rotate_left
          · intro w hSw
            (try dsimp only at hSw)
            go_simp
            try with_reducible rfl
          go_simp
          refine wpAnyH_take (i := 7) (v := ?_) rfl (by kernel_rfl) (by kernel_rfl) (by kernel_rfl) (fun _ _ _ h => h) (Or.inl ⟨by rfl, ?_⟩) hHeld ?_
          rotate_left
          · intro w hSw
            (try dsimp only at hSw)
            go_simp
            try with_reducible rfl
          go_simp
          refine wpAnyH_take (i := 8) (v := ?_) rfl (by kernel_rfl) (by kernel_rfl) (by kernel_rfl) (fun _ _ _ h => h) (Or.inl ⟨by rfl, ?_⟩) hHeld ?_
          rotate_left
          · intro w hSw
            (try dsimp only at hSw)
            go_simp
            try with_reducible rfl
          go_simp
          refine wpAnyH_ready (rs := [9]) (by kernel_rfl) (by simp) ?_
          refine AllReadyH.cons rfl (fun K hK => ?_) ?_
          rotate_left
          · exact AllReadyH.nil
          go_simp
          go_wp2_with ((go_at_call 63; ((with_reducible refine (CO.out _).mono ?_); rintro e w5 ⟨rfl, hb5⟩); have hW2 := hW2.trans (hb5.mono hW2.size)))
          refine hK.out _ _ (MK.out _ hW2) (fun hHeld => ?_)
          clear hK K
          go_simp
          refine wpAnyH_take (i := 10) (v := ?_) rfl (by kernel_rfl) (by kernel_rfl) (by kernel_rfl) (fun _ _ _ h => h) (Or.inl ⟨by rfl, ?_⟩) hHeld ?_
          rotate_left
          · intro w hSw
            (try dsimp only at hSw)
            go_simp
            try with_reducible rfl
          go_simp
          refine wpAnyH_done (by kernel_rfl) ?_ _
          refine NoPanic.normal ?_
          obtain ⟨u0, u1, u2, u3⟩ := MK.out _ hW2
          have hm2 : p + 2 ≤ M := by omega
          have run1 : ∀ W : World, (Instr.slice 23 (.slice (some ⟨bA, off, none⟩) M c3) none (some (.int .i64 (p : Int))) none).run Tryz.prog W = .ok (.slice (some ⟨bA, off, none⟩) p c3) W := fun W => cutK_hd ST (some ⟨bA, off, none⟩) M c3 p (by have := HC3.out.1; omega) W
          have wp2 : IntKind.i64.wrap ((p : Int) + 2) = (p : Int) + 2 := IntWalk.i64_in _ (by omega)
          have run2 : ∀ W : World, (Instr.slice 23 (.slice (some ⟨bA, off, none⟩) M c3) (some (.int .i64 ((p : Int) + 2))) none none).run Tryz.prog W = .ok (.slice (cutK (some ⟨bA, off, none⟩) c3 2 (p + 2)) (M - (p + 2)) (c3 - (p + 2))) W := fun W => by
            have := cutK_tl ST (some ⟨bA, off, none⟩) M c3 (p + 2) hm2 W
            rwa [show ((p + 2 : Nat) : Int) = (p : Int) + 2 from by omega] at this
          have HX1 := Lib.hid (show Caps (some ⟨bA, off, none⟩) p c3 from ⟨by have := HC3.out.1; omega, fun h => by cases h⟩)
          have HX2 := Lib.hid (cutK_caps (k := 2) HC3.out (j := p + 2) (m := M - (p + 2)) (by omega))
          have B5 := Lib.hid hW2
          have HRF := Lib.hid (rows_takeF (HRR.out.below hW2) p)
          have HLF : Hid (((L ++ [y] ++ x :: D).take p).length = p) := Lib.hid (by rw [List.length_take, HL3.out]; omega)
          have HTF : Hid ((L ++ [y] ++ x :: D).take p = L) := Lib.hid (by rw [HP.out]; simp)
          rw [HTF.out] at HRF HLF
          have HTG : Hid (((L ++ [y] ++ x :: D).drop (p + 2)).take (M - (p + 2)) = D) := Lib.hid (by
            have e1 : (L ++ [y] ++ x :: D).drop (p + 2) = D := by rw [HP.out, show L ++ [y] ++ x :: D = (L ++ [y, x]) ++ D by simp, List.drop_left' (by simp)]
            rw [e1]
            exact List.take_of_length_le (by have := HDL.out; have := HM.out; omega))
          have HLG : Hid (D.length = M - (p + 2)) := Lib.hid (by have := HDL.out; have := HM.out; omega)
          have OO := Lib.hid (World.ownsRow_nil w5 w5.heap.size 47 2)
          obtain ⟨z, hz⟩ : ∃ z, z = max y.t x.t := ⟨_, rfl⟩
          rw [← hz] at HN
          have hzx : (y.t < x.t → z = x.t) ∧ (¬ y.t < x.t → z = y.t) := ⟨fun h => by omega, fun h => by omega⟩
          have hbw5 : bA < w5.heap.size := Nat.lt_of_lt_of_le hbA hW2.size
          clear hHeld CO MK hz
          by_cases gz : y.t < x.t
          · have k5 : decide (y.t < x.t) = true := decide_eq_true gz
            have ez := hzx.1 gz
            subst ez
            clear hzx
            go_wp2_with (first
              | (at_builtin; refine wpList_appK (enc := encF) ST encF_len (by omega) rfl (.tmp 48) (.tmp 51) rfl (base := w5.heap.size) (v := .slice none 0 0) rfl OO.out _ p c3 L rfl HRF.out HX1.out HLF.out (kfl_one' encF_one _) (by simp only [maxLen]; omega) (by omega) (Nat.le_refl _) ?_; intro v9 w9 hown9 hg9 hor9; obtain ⟨A9, c9, rfl⟩ := own_formF hown9; have bb : Below w5.heap.size w5 w9 := (Below.refl _ _).grown hg9 (Nat.le_refl _) (fun j hj => by cases hj); have O9 : w9.ownsRow w5.heap.size 47 2 (.slice A9 p c9) p (kfl encF L) := (by rw [Nat.zero_add, List.nil_append] at hown9; exact hown9); have hlt9 := O9.lt; have u0 := ((old_cells bb).1 _ _ hbw5).trans u0; have u1 := ((old_cells bb).1 _ _ hbw5).trans u1; have x9 : Below w9.heap.size w9 (w9.alloc (.cells #[.int .i64 y.f, .int .i64 x.t] 47)) := (Below.refl _ _).alloc (Nat.le_refl _) _; have R9 : RawAt 47 (w9.alloc (.cells #[.int .i64 y.f, .int .i64 x.t] 47)) w9.heap.size #[.int .i64 y.f, .int .i64 x.t] := heap_alloc_new w9 _; have HS9 := Lib.hid (rows_of_block (enc := encF) (k := 2) encF_len R9 (l := [⟨y.f, x.t⟩]) rfl); have HO9 := Lib.hid (own_below O9 x9); have HW9 := Lib.hid (bb.trans (x9.mono bb.size)); clear hown9 hg9 hor9 bb O9 x9 R9 OO)
              | (at_builtin; refine wpList_appK (enc := encF) ST encF_len (by omega) rfl (.tmp 53) (.tmp 61) rfl (base := w5.heap.size) (v := .slice A9 p c9) rfl HO9.out _ 1 1 [⟨y.f, x.t⟩] rfl HS9.out ⟨Nat.le_refl _, fun h => by cases h⟩ rfl (kfl_one' encF_one _) (by simp only [maxLen]; omega) (by omega) HW9.out.size ?_; intro v11 w11 hown11 hg11 hor11; have hlt11 := hown11.lt; have O11 := Lib.hid hown11; have BB11 := Lib.hid (HW9.out.grown hg11 HW9.out.size (fun j hj => (hlt9 j hj).1)); have HR11 := Lib.hid (((HRR.out.below B5.out).below BB11.out).cut HL3.out HC3.out.1 (j := p + 2) (m := M - (p + 2)) (by omega)); rw [HTG.out] at HR11; clear hown11 hg11 hor11 HO9 HW9 HS9)
              | (at_builtin; refine wpList_appK (enc := encF) ST encF_len (by omega) rfl (.tmp 63) (.tmp 67) rfl (base := w5.heap.size) (v := v11) rfl O11.out _ (M - (p + 2)) (c3 - (p + 2)) D rfl HR11.out HX2.out HLG.out (kfl_one' encF_one _) (by simp only [maxLen]; omega) (by omega) BB11.out.size ?_; intro v12 w12 hown12 hg12 hor12; have BB12 := Lib.hid (BB11.out.grown hg12 BB11.out.size (fun j hj => (hlt11 j hj).1)); rw [← kfl_append, ← kfl_append] at hown12; have O12 := Lib.hid hown12; clear hown12 hg12 hor12 O11 BB11 HR11))
            have HB12 := Lib.hid (HBB.out.trans ((B5.out.trans (BB12.out.mono B5.out.size)).mono HBB.out.size))
            have hsz5 : W1.heap.size ≤ w5.heap.size := Nat.le_trans HBB.out.size B5.out.size
            go_roundg (gk - 1)
            case measure => omega
            case rel => exact ⟨k + 1, L, ⟨y.f, x.t⟩, by rw [HP.out], by omega, by omega, by omega, by have := HP.out; omega, HN, HB12, Lib.hid (by have := own_baseF O12.out hsz5; have h7 := HM.out; rw [← HP.out, HD.out, show p + 1 + (m - (k + 1)) = p + 1 + (M - (p + 2)) from by omega]; exact this)⟩
          · have k5 : decide (y.t < x.t) = false := decide_eq_false gz
            have ez := hzx.2 gz
            subst ez
            clear hzx gz
            go_wp2_with (first
              | (at_builtin; refine wpList_appK (enc := encF) ST encF_len (by omega) rfl (.tmp 48) (.tmp 51) rfl (base := w5.heap.size) (v := .slice none 0 0) rfl OO.out _ p c3 L rfl HRF.out HX1.out HLF.out (kfl_one' encF_one _) (by simp only [maxLen]; omega) (by omega) (Nat.le_refl _) ?_; intro v9 w9 hown9 hg9 hor9; obtain ⟨A9, c9, rfl⟩ := own_formF hown9; have bb : Below w5.heap.size w5 w9 := (Below.refl _ _).grown hg9 (Nat.le_refl _) (fun j hj => by cases hj); have O9 : w9.ownsRow w5.heap.size 47 2 (.slice A9 p c9) p (kfl encF L) := (by rw [Nat.zero_add, List.nil_append] at hown9; exact hown9); have hlt9 := O9.lt; have u0 := ((old_cells bb).1 _ _ hbw5).trans u0; have u1 := ((old_cells bb).1 _ _ hbw5).trans u1; have x9 : Below w9.heap.size w9 (w9.alloc (.cells #[.int .i64 y.f, .int .i64 y.t] 47)) := (Below.refl _ _).alloc (Nat.le_refl _) _; have R9 : RawAt 47 (w9.alloc (.cells #[.int .i64 y.f, .int .i64 y.t] 47)) w9.heap.size #[.int .i64 y.f, .int .i64 y.t] := heap_alloc_new w9 _; have HS9 := Lib.hid (rows_of_block (enc := encF) (k := 2) encF_len R9 (l := [⟨y.f, y.t⟩]) rfl); have HO9 := Lib.hid (own_below O9 x9); have HW9 := Lib.hid (bb.trans (x9.mono bb.size)); clear hown9 hg9 hor9 bb O9 x9 R9 OO)
              | (at_builtin; refine wpList_appK (enc := encF) ST encF_len (by omega) rfl (.tmp 53) (.tmp 61) rfl (base := w5.heap.size) (v := .slice A9 p c9) rfl HO9.out _ 1 1 [⟨y.f, y.t⟩] rfl HS9.out ⟨Nat.le_refl _, fun h => by cases h⟩ rfl (kfl_one' encF_one _) (by simp only [maxLen]; omega) (by omega) HW9.out.size ?_; intro v11 w11 hown11 hg11 hor11; have hlt11 := hown11.lt; have O11 := Lib.hid hown11; have BB11 := Lib.hid (HW9.out.grown hg11 HW9.out.size (fun j hj => (hlt9 j hj).1)); have HR11 := Lib.hid (((HRR.out.below B5.out).below BB11.out).cut HL3.out HC3.out.1 (j := p + 2) (m := M - (p + 2)) (by omega)); rw [HTG.out] at HR11; clear hown11 hg11 hor11 HO9 HW9 HS9)
              | (at_builtin; refine wpList_appK (enc := encF) ST encF_len (by omega) rfl (.tmp 63) (.tmp 67) rfl (base := w5.heap.size) (v := v11) rfl O11.out _ (M - (p + 2)) (c3 - (p + 2)) D rfl HR11.out HX2.out HLG.out (kfl_one' encF_one _) (by simp only [maxLen]; omega) (by omega) BB11.out.size ?_; intro v12 w12 hown12 hg12 hor12; have BB12 := Lib.hid (BB11.out.grown hg12 BB11.out.size (fun j hj => (hlt11 j hj).1)); rw [← kfl_append, ← kfl_append] at hown12; have O12 := Lib.hid hown12; clear hown12 hg12 hor12 O11 BB11 HR11))
            have HB12 := Lib.hid (HBB.out.trans ((B5.out.trans (BB12.out.mono B5.out.size)).mono HBB.out.size))
            have hsz5 : W1.heap.size ≤ w5.heap.size := Nat.le_trans HBB.out.size B5.out.size
            go_roundg (gk - 1)
            case measure => omega
            case rel => exact ⟨k + 1, L, ⟨y.f, y.t⟩, by rw [HP.out], by omega, by omega, by omega, by have := HP.out; omega, HN, HB12, Lib.hid (by have := own_baseF O12.out hsz5; have h7 := HM.out; rw [← HP.out, HD.out, show p + 1 + (m - (k + 1)) = p + 1 + (M - (p + 2)) from by omega]; exact this)⟩
        · have e : r = false := by rw [hr]; exact decide_eq_false fun h => g h.2
          subst e
          have HN : Hid (hidL (o.take (k + 1)) = (L ++ [y]) ++ [x]) := Lib.hid (by rw [HST.out, hstep_out _ _ _ g])
          clear HST g hr
          go_wp2_with fail
          refine wp_region_noPanic ?_
          refine wp_region_held_drew (S := (fun W => W.cell? ⟨bA, off + p * 2, none⟩ = some (.int .i64 y.f) ∧ W.cell? ⟨bA, off + p * 2 + 1, none⟩ = some (.int .i64 y.t) ∧ W.cell? ⟨bA, off + (p + 1) * 2, none⟩ = some (.int .i64 x.f) ∧ W.cell? ⟨bA, off + (p + 1) * 2 + 1, none⟩ = some (.int .i64 x.t))) (by kernel_rfl) (MK.out _ hW2) (fun hHeld => ?_)
          refine wpAnyH_take (i := 0) (v := ?_) rfl (by kernel_rfl) (by kernel_rfl) (by kernel_rfl) (fun _ _ _ h => h) (Or.inl ⟨by rfl, ?_⟩) hHeld ?_
          rotate_left
          · intro w hSw
            (try dsimp only at hSw)
            go_simp
            try with_reducible rfl
          go_simp
          refine wpAnyH_take (i := 1) (v := ?_) rfl (by kernel_rfl) (by kernel_rfl) (by kernel_rfl) (fun _ _ _ h => h) (Or.inl ⟨by rfl, ?_⟩) hHeld ?_
          rotate_left
          · intro w hSw
            (try dsimp only at hSw)
            go_simp
            try with_reducible rfl
          go_simp
          refine wpAnyH_take (i := 2) (v := ?_) rfl (by kernel_rfl) (by kernel_rfl) (by kernel_rfl) (fun _ _ _ h => h) (Or.inl ⟨by rfl, ?_⟩) hHeld ?_
          rotate_left
          · intro w hSw
            (try dsimp only at hSw)
            go_simp
            try with_reducible rfl
          go_simp
          refine wpAnyH_take (i := 3) (v := ?_) rfl (by kernel_rfl) (by kernel_rfl) (by kernel_rfl) (fun _ _ _ h => h) (Or.inl ⟨by rfl, ?_⟩) hHeld ?_
          rotate_left
          · intro w hSw
            (try dsimp only at hSw)
            go_simp
            try with_reducible rfl
          go_simp
          refine wpAnyH_take (i := 4) (v := ?_) rfl (by kernel_rfl) (by kernel_rfl) (by kernel_rfl) (fun _ _ _ h => h) (Or.inl ⟨by rfl, ?_⟩) hHeld ?_
          rotate_left
          · intro w hSw
            (try dsimp only at hSw)
            go_simp
            try with_reducible rfl
          go_simp
          refine wpAnyH_take (i := 5) (v := ?_) rfl (by kernel_rfl) (by kernel_rfl) (by kernel_rfl) (fun _ _ _ h => h) (Or.inl ⟨by rfl, ?_⟩) hHeld ?_
          rotate_left
          · intro w hSw
            (try dsimp only at hSw)
            go_simp
            try with_reducible rfl
          go_simp
          refine wpAnyH_take (i := 6) (v := ?_) rfl (by kernel_rfl) (by kernel_rfl) (by kernel_rfl) (fun _ _ _ h => h) (Or.inl ⟨by rfl, ?_⟩) hHeld ?_
          rotate_left
          · intro w hSw
            (try dsimp only at hSw)
            go_simp
            try with_reducible rfl
          go_simp
          refine wpAnyH_take (i := 7) (v := ?_) rfl (by kernel_rfl) (by kernel_rfl) (by kernel_rfl) (fun _ _ _ h => h) (Or.inl ⟨by rfl, ?_⟩) hHeld ?_
          rotate_left
          · intro w hSw
            (try dsimp only at hSw)
            go_simp
            try with_reducible rfl
          go_simp
          refine wpAnyH_take (i := 8) (v := ?_) rfl (by kernel_rfl) (by kernel_rfl) (by kernel_rfl) (fun _ _ _ h => h) (Or.inl ⟨by rfl, ?_⟩) hHeld ?_
          rotate_left
          · intro w hSw
            (try dsimp only at hSw)
            go_simp
            try with_reducible rfl
          go_simp
          refine wpAnyH_ready (rs := [9]) (by kernel_rfl) (by simp) ?_
          refine AllReadyH.cons rfl (fun K hK => ?_) ?_
          rotate_left
          · exact AllReadyH.nil
          go_simp
          go_wp2_with ((go_at_call 63; ((with_reducible refine (CO.out _).mono ?_); rintro e w5 ⟨rfl, hb5⟩); have hW2 := hW2.trans (hb5.mono hW2.size)))
          refine hK.out _ _ (MK.out _ hW2) (fun hHeld => ?_)
          clear hK K
          go_simp
          refine wpAnyH_take (i := 10) (v := ?_) rfl (by kernel_rfl) (by kernel_rfl) (by kernel_rfl) (fun _ _ _ h => h) (Or.inl ⟨by rfl, ?_⟩) hHeld ?_
          rotate_left
          · intro w hSw
            (try dsimp only at hSw)
            go_simp
            try with_reducible rfl
          go_simp
          refine wpAnyH_done (by kernel_rfl) ?_ _
          refine NoPanic.normal ?_
          have HO5 := Lib.hid (own_below HHO.out hW2)
          have HB5 := Lib.hid (HBB.out.trans (hW2.mono HBB.out.size))
          clear hHeld hW2 MK CO
          go_wp2
          go_roundg (gk - 1)
          case measure => omega
          case rel => exact ⟨k + 1, L ++ [y], x, by rw [List.length_append, ← HP.out]; rfl, by omega, by omega, by omega, by rw [List.length_append, ← HP.out]; simp; omega, HN, HB5, Lib.hid (by have := HO5.out; have h7 := HM.out; rw [List.length_append, ← HP.out, HD.out, show p + [y].length + 1 + (m - (k + 1)) = M from by simp; omega, show L ++ [y] ++ [x] ++ D = L ++ [y] ++ x :: D by simp]; exact this)⟩
      · obtain rfl : k = m := by omega
        have e1 : o.drop k = [] := List.drop_of_length_le (by rw [HL.out]; exact Nat.le_refl _)
        have e2 : o.take k = o := List.take_of_length_le (by rw [HL.out]; exact Nat.le_refl _)
        have hh := hH.out
        rw [e2] at hh
        have ho2 := hown.out
        have hk0 : p + 1 + (k - k) = p + 1 := by omega
        rw [e1, List.append_nil, ← hh, hk0] at ho2
        have HLQ : Hid ((hidL o).length = p + 1) := Lib.hid (by rw [hh, HP.out]; simp)
        rw [hk0]
        have HO2 := Lib.hid (own_baseF ho2 X1.out.size)
        clear hown hb hH hh ho2 e1 e2 hR3 hl3 hC3 hk0
        go_wp2
        go_ret
        exact ⟨_, rfl, by rw [HLQ.out]; exact HO2.out, HBW.out⟩
end Go.Proofs.YtdpmimlhchghlaaGreat
