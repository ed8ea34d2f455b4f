/- Rows in the place of others: the program's Apply. -/
import Derived.Test.YtebjkgeldjgnfaaDfI
import Derived.Test.YtebjkgeldjgnfaaDfB
namespace Go.Proofs.Ytebjkgeldjgnfaa
open Go.RowKit
set_option linter.unusedVariables false
theorem own_setD {w : World} {base : Nat} {e : TypeId} {size g cap n : Nat} {xs : List Value} (h : w.ownsRow base e size (.slice (some ⟨g, 0, none⟩) n cap) n xs) (i : Nat) (u : Value) : (w.setCell ⟨g, i, none⟩ u).ownsRow base e size (.slice (some ⟨g, 0, none⟩) n cap) n (xs.set i u) := by
  refine ⟨by rw [List.length_set]; exact h.1, .inr ?_⟩
  rcases h.2 with ⟨h2, _⟩ | ⟨g', cap', cur, hv, hB, c, h3, h4, h5, h6⟩
  · cases h2
  · injection hv with hv1 hv2 hv3
    injection hv1 with hv1
    injection hv1 with hv1
    subst hv1
    subst hv3
    refine ⟨g, cap, cur.setIfInBounds i u, rfl, hB, RawAt.set_ (t := e) c i u, h3, h4, by rw [Array.size_setIfInBounds]; exact h5, ?_⟩
    rw [Array.toList_setIfInBounds, List.take_set, h6]
theorem own_freeD {w : World} {base : Nat} {e : TypeId} {size g cap n : Nat} {xs : List Value} (h : w.ownsRow base e size (.slice (some ⟨g, 0, none⟩) n cap) n xs) (i : Nat) : w.frozen? ⟨g, i, none⟩ = false ∧ base ≤ g ∧ g < w.heap.size := by
  rcases h.2 with ⟨h2, _⟩ | ⟨g', cap', cur, hv, hB, c, h3, h4, h5, h6⟩
  · cases h2
  · injection hv with hv1 hv2 hv3
    injection hv1 with hv1
    injection hv1 with hv1
    subst hv1
    exact ⟨RawAt.free (t := e) c i, hB, RawAt.lt (t := e) c⟩
theorem rows_ofD {w : World} {base n c : Nat} {e : TypeId} {A : Option Addr} {l : List Rw} (h : w.ownsRow base e 7 (.slice A n c) n (kfl encR l)) : RowsAt encR 7 w A l := by
  obtain ⟨A', c', e', hR, _⟩ := rows_of_own encR_len (by omega) h
  injection e' with e1 e2 e3
  subst e1
  exact hR
theorem own_sliceD {w : World} {base n c size : Nat} {e : TypeId} {A : Option Addr} {xs : List Value} (h : w.ownsRow base e size (.slice A n c) n xs) (hn : 0 < n) : ∃ g, A = some ⟨g, 0, none⟩ := by
  obtain ⟨g, cap, e'⟩ := own_slice h hn
  injection e' with e1 e2 e3
  exact ⟨g, e1⟩
theorem dkfl_set : ∀ (L : List Rw) (k : Nat) (h : k < L.length) (A : Option Addr) (c : Nat), (kfl encR L).set (k * 7) (.slice A L[k].n c) = kfl encR (L.set k { L[k] with A := A, c := c })
  | x :: L, 0, _, A, c => rfl
  | x :: L, k + 1, h, A, c => by
    have hk : k < L.length := by simpa using h
    have ih := dkfl_set L k hk A c
    rw [List.set_cons_succ, kfl_cons, kfl_cons, List.set_append_right _ _ (by rw [encR_len]; omega), encR_len, show (k + 1) * 7 - 7 = k * 7 by omega]
    show encR x ++ (kfl encR L).set (k * 7) (.slice A L[k].n c) = encR x ++ kfl encR (L.set k { L[k] with A := A, c := c })
    rw [ih]
theorem rows_off {α : Type} {enc : α → List Value} {k : Nat} {w : World} {A : Option Addr} {l : List α} (h : RowsAt enc k w A l) {g : Nat} (hg : ∀ a, A = some a → 0 < l.length → a.block ≠ g) (i : Nat) (v : Value) : RowsAt enc k (w.setCell ⟨g, i, none⟩ v) A l := by
  intro hp
  obtain ⟨b, off, rfl, hb, hc⟩ := h hp
  have hne := hg _ rfl hp
  have hh : (w.setCell ⟨g, i, none⟩ v).heap[b]? = w.heap[b]? := Below.heap_setCell w _ v b hne
  refine ⟨b, off, rfl, by simpa using hb, fun j hj c hcc => ?_⟩
  rw [← hc j hj c hcc]
  exact World.cell?_of_block (w := w) hh
theorem RwOk.off {w : World} {s : Rw} (h : RwOk w s) {g : Nat} (hg : ∀ a, s.A = some a → 0 < s.n → a.block ≠ g) (i : Nat) (v : Value) : RwOk (w.setCell ⟨g, i, none⟩ v) s :=
  ⟨h.len, h.max, h.caps, rows_off h.rows (fun a ha hp => hg a ha (by rw [← h.len]; exact hp)) i v⟩
theorem rth_set {L : List Rw} {k : Nat} {s : Rw} (h : k < L.length) (i : Nat) : rth (L.set k s) i = if k = i then s else rth L i := by
  unfold rth
  simp only [List.getD_eq_getElem?_getD, List.getElem?_set, h, if_true]
  split <;> simp
/-- What Apply makes, in memory: each row's cells lie by themselves. -/
structure ApAt (w0 : Nat) (w : World) (Q l' : List Rw) (j : Nat) : Prop where
  len : l'.length = Q.length
  done : ∀ i, i < j → RB (rth l' i) (rth Q i) ∧ RwOk w (rth l' i) ∧ ∀ a, (rth l' i).A = some a → 0 < (rth l' i).n → w0 ≤ a.block
  rest : ∀ i, j ≤ i → rth l' i = rth Q i
theorem caps_cut7 {A : Option Addr} {n c : Nat} (h : Caps A n c) (j : Nat) (hj : j ≤ n) : Caps (cutK A c 7 j) (n - j) (c - j) := by
  obtain ⟨h1, h2⟩ := h
  refine ⟨by omega, fun he => ?_⟩
  unfold cutK at he
  cases A with
  | none => rw [h2 rfl]; omega
  | some a => split at he <;> simp at he
theorem rows_cut0 {w : World} {A : Option Addr} {l : List Rw} {c ka : Nat} (_h : RowsAt encR 7 w (cutK A c 7 0) (l.take ka)) (hA : RowsAt encR 7 w A l) : RowsAt encR 7 w A (l.take ka) := by
  intro hp
  have hp' : 0 < l.length := by rw [List.length_take] at hp; omega
  obtain ⟨b, off, rfl, hb, hc⟩ := hA hp'
  refine ⟨b, off, rfl, hb, fun j hj x hx => ?_⟩
  have hj' : j < l.length := by rw [List.length_take] at hj; omega
  rw [hc j hj' x hx]
  simp
set_option maxHeartbeats 4000000 in
set_option maxRecDepth 100000 in
theorem dApply_no (A B : Option Addr) (n c m d : Nat) (p : Rp) (q : Int) (hq : IntKind.i64.wrap (IntKind.i64.wrap ((n : Int) - IntKind.i64.wrap (p.b - p.a)) + (m : Int)) = q) (hf : ¬ RFit p n q) (hn : n ≤ 9223372036854775807) (w : World) :
    Calls Try.prog 19 #[.slice A n c, .agg #[.int .i64 p.a, .int .i64 p.b, .int .i64 p.c, .int .i64 p.d], .slice B m d] w fun e w' => e = .returned (.tuple #[.slice none 0 0, .int .i64 1]) ∧ Below w.heap.size w w' := by
  have HBX : Hid (Below w.heap.size w (w.alloc (.cells #[.int .i64 p.a, .int .i64 p.b, .int .i64 p.c, .int .i64 p.d] 28))) := Lib.hid ((Below.refl _ _).alloc (Nat.le_refl _) _)
  have hqr : q ≤ 9223372036854775807 := by
    rw [← hq]
    have h : ∀ x : Int, IntKind.i64.wrap x ≤ 9223372036854775807 := fun x => by
      simp [IntKind.wrap, IntKind.signed, IntKind.bits]
      (try split) <;> omega
    exact h _
  have CF := Lib.hid fun W => dFits_any p n q false ⟨(fun h => by cases h), fun h => absurd h hf⟩ W (by omega) hqr
  obtain ⟨u, hu⟩ : ∃ u, IntKind.i64.wrap (p.b - p.a) = u := ⟨_, rfl⟩
  rw [hu] at hq
  obtain ⟨v, hv⟩ : ∃ v, IntKind.i64.wrap ((n : Int) - u) = v := ⟨_, rfl⟩
  rw [hv] at hq
  clear hf hqr
  go_enter Try.func19, Try.ntmps19
  go_wp2_with fail
  with_reducible refine (CF.out _).mono ?_
  rintro e w1 ⟨rfl, hb1⟩
  have HB1 := Lib.hid (HBX.out.trans (hb1.mono HBX.out.size))
  clear hb1
  go_wp2
  refine bodyPost_ret (v := .tuple #[.slice none 0 0, .int .i64 1]) (by simp [results, Try.results19, go_sem]) rfl ⟨rfl, HB1.out⟩
set_option maxHeartbeats 4000000 in
set_option maxRecDepth 100000 in
theorem dApply_yes (A B : Option Addr) (n c m d : Nat) (l o : List Rw) (ka kb : Nat) (pd : Int) (hab : ka ≤ kb ∧ kb ≤ n) (hf : RFit ⟨ka, kb, ka, pd⟩ n ((n : Int) - (kb - ka) + m)) (w : World) (hA : RowsAt encR 7 w A l) (hl : l.length = n) (hcA : Caps A n c) (hB : RowsAt encR 7 w B o) (hy : o.length = m) (hcB : Caps B m d)
    (okl : ∀ s ∈ l, RwOk w s ∧ s.n ≤ 100000) (oko : ∀ s ∈ o, RwOk w s ∧ s.n ≤ 100000) (hn : n ≤ 10000) (hm : m ≤ 10000) :
    Calls Try.prog 19 #[.slice A n c, .agg #[.int .i64 (ka : Int), .int .i64 (kb : Int), .int .i64 (ka : Int), .int .i64 pd], .slice B m d] w fun e w' => ∃ A' c' l', e = .returned (.tuple #[.slice A' (n - (kb - ka) + m) c', .int .i64 0]) ∧ RowsAt encR 7 w' A' l' ∧ RBs l' (putR l ⟨ka, kb, ka, pd⟩ o) ∧ (∀ s ∈ l', RwOk w' s) ∧ Below w.heap.size w w' := by
  have HBX : Hid (Below w.heap.size w (w.alloc (.cells #[.int .i64 (ka : Int), .int .i64 (kb : Int), .int .i64 (ka : Int), .int .i64 pd] 28))) := Lib.hid ((Below.refl _ _).alloc (Nat.le_refl _) _)
  have R0 : Hid (RawAt 28 (w.alloc (.cells #[.int .i64 (ka : Int), .int .i64 (kb : Int), .int .i64 (ka : Int), .int .i64 pd] 28)) w.heap.size #[.int .i64 (ka : Int), .int .i64 (kb : Int), .int .i64 (ka : Int), .int .i64 pd]) := Lib.hid (heap_alloc_new w _)
  obtain ⟨hab1, hab2⟩ := hab
  obtain ⟨q, hq⟩ : ∃ q : Nat, q = n - (kb - ka) + m := ⟨_, rfl⟩
  have eq1 : (n : Int) - (kb - ka) + m = (q : Int) := by omega
  rw [eq1] at hf
  have CF := Lib.hid fun W => dFits_any ⟨ka, kb, ka, pd⟩ n q true ⟨fun _ => hf, fun _ => rfl⟩ W (by omega) (by omega)
  clear hf
  have e1 : IntKind.i64.wrap ((kb : Int) - ka) = (kb : Int) - ka := IntWalk.i64_in _ (by omega)
  have e2 : IntKind.i64.wrap ((n : Int) - ((kb : Int) - ka)) = (n : Int) - ((kb : Int) - ka) := IntWalk.i64_in _ (by omega)
  have e3 : IntKind.i64.wrap ((n : Int) - ((kb : Int) - ka) + m) = (q : Int) := by rw [eq1]; exact IntWalk.i64_in _ (by omega)
  rw [← hq]
  obtain ⟨Q, hQ⟩ : ∃ Q, Q = putR l ⟨ka, kb, ka, pd⟩ o := ⟨_, rfl⟩
  rw [← hQ]
  have hQ2 : l.take ka ++ o ++ l.drop kb = Q := by rw [hQ, putR]; simp
  have hQL : Q.length = q := by rw [← hQ2, hq]; simp only [List.length_append, List.length_take, List.length_drop]; omega
  have HQK : Hid (∀ s ∈ Q, RwOk w s ∧ s.n ≤ 100000) := Lib.hid (fun s hs => by
    rw [← hQ2] at hs
    rcases List.mem_append.1 hs with hs | hs
    · rcases List.mem_append.1 hs with hs | hs
      · exact okl s (List.mem_of_mem_take hs)
      · exact oko s hs
    · exact okl s (List.mem_of_mem_drop hs))
  have HQ2 := Lib.hid hQ2
  have HQL := Lib.hid hQL
  have HQQ := Lib.hid hq
  have hqb : q ≤ 20000 := by omega
  clear hQ hQ2 hQL okl oko hq
  have cut1 : ∀ W : World, (Instr.slice 30 (.slice A n c) none (some (.int .i64 (ka : Int))) none).run Try.prog W = .ok (.slice A ka c) W := fun W => cutK_hd row_slt A n c ka (by have := hcA.1; omega) W
  have cut2 : ∀ W : World, (Instr.slice 30 (.slice A n c) (some (.int .i64 (kb : Int))) none none).run Try.prog W = .ok (.slice (cutK A c 7 kb) (n - kb) (c - kb)) W := fun W => cutK_tl row_slt A n c kb hab2 W
  have HC1 : Hid (Caps A ka c) := Lib.hid ⟨by have := hcA.1; omega, hcA.2⟩
  have HC2 : Hid (Caps (cutK A c 7 kb) (n - kb) (c - kb)) := Lib.hid (caps_cut7 hcA kb hab2)
  have HR1 : Hid (RowsAt encR 7 w A (l.take ka)) := Lib.hid (by
    have h := hA.cut hl hcA.1 (j := 0) (m := ka) (by omega)
    rw [List.drop_zero] at h
    exact rows_cut0 h hA)
  have HR2 : Hid (RowsAt encR 7 w (cutK A c 7 kb) (l.drop kb)) := Lib.hid (by
    have h := hA.cut hl hcA.1 (j := kb) (m := n - kb) (by omega)
    rw [List.take_of_length_le (by rw [List.length_drop]; omega)] at h
    exact h)
  have HR3 := Lib.hid hB
  have HC3 := Lib.hid hcB
  have hlt1 : (l.take ka).length = ka := by rw [List.length_take]; omega
  have hlt2 : (l.drop kb).length = n - kb := by rw [List.length_drop]; omega
  have HL1 := Lib.hid hlt1
  have HL2 := Lib.hid hlt2
  have HL3 := Lib.hid hy
  generalize cutK A c 7 kb = AC at *
  clear hA hl hcA hB hy hcB hlt1 hlt2
  go_enter Try.func19, Try.ntmps19
  go_wp2_with fail
  with_reducible refine (CF.out _).mono ?_
  rintro e w1 ⟨rfl, hb1⟩
  have HB1 := Lib.hid (HBX.out.trans (hb1.mono HBX.out.size))
  have R1 := Lib.hid (RawAt.below R0.out hb1 (RawAt.lt R0.out))
  clear hb1 R0 CF e1 e2 e3 eq1
  obtain ⟨nb, hnb⟩ : ∃ nb, nb = n - kb := ⟨_, rfl⟩
  rw [← hnb] at cut2 HC2 HL2
  obtain ⟨cb, hcb⟩ : ∃ cb, cb = c - kb := ⟨_, rfl⟩
  rw [← hcb] at cut2 HC2
  have HNB := Lib.hid hnb
  clear hnb hcb
  go_wp2_with fail
  have HV : Hid (Below w1.heap.size w1 (w1.alloc (.cells #[.slice A ka c, .slice B m d, .slice AC nb cb] 30)).drew) := Lib.hid ((Below.refl _ _).alloc (Nat.le_refl _) _).drew
  have RV : RawAt 30 (w1.alloc (.cells #[.slice A ka c, .slice B m d, .slice AC nb cb] 30)).drew w1.heap.size #[.slice A ka c, .slice B m d, .slice AC nb cb] := RawAt.drew_ (heap_alloc_new w1 _)
  have HBV := Lib.hid (HB1.out.trans (HV.out.mono HB1.out.size))
  have CC := Lib.hid (dConcat_any w1.heap.size A B AC ka c m d nb cb 3 (l.take ka) o (l.drop kb) (w1.alloc (.cells #[.slice A ka c, .slice B m d, .slice AC nb cb] 30)).drew (RawAt.cell RV 0) (RawAt.cell RV 1) (RawAt.cell RV 2) (RawAt.lt RV) (HR1.out.below HBV.out) HL1.out HC1.out (HR3.out.below HBV.out) HL3.out HC3.out (HR2.out.below HBV.out) HL2.out HC2.out (by omega) (by omega) (by have := HNB.out; omega))
  rw [HQ2.out, show ka + m + nb = q from by have := HNB.out; have := HQQ.out; omega] at CC
  clear RV
  have MK : Hid (∀ W : World, Below w1.heap.size w1 W → (fun W => (W.cell? ⟨w.heap.size, 0, none⟩ = some (.int .i64 ka) ∧ W.cell? ⟨w.heap.size, 1, none⟩ = some (.int .i64 kb)) ∧ Below w1.heap.size w1 W) W) := fun W hW => ⟨⟨RawAt.cell (RawAt.below R1.out hW (RawAt.lt R1.out)) 0, RawAt.cell (RawAt.below R1.out hW (RawAt.lt R1.out)) 1⟩, hW⟩
  have hW2 : Below w1.heap.size w1 w1.drew := (Below.refl _ _).drew
  refine wp_region_noPanic ?_
  refine wp_region_held_drew (S := (fun W => (W.cell? ⟨w.heap.size, 0, none⟩ = some (.int .i64 ka) ∧ W.cell? ⟨w.heap.size, 1, none⟩ = some (.int .i64 kb)) ∧ Below w1.heap.size w1 W)) (by kernel_rfl) (MK.out _ hW2) (fun hHeld => ?_)
  refine wpAnyH_take (i := 0) (v := ?_) rfl (by kernel_rfl) (by kernel_rfl) (by kernel_rfl) (fun _ _ _ h => h) (Or.inl ⟨by rfl, ?_⟩) hHeld ?_
  rotate_left
  · intro w hSw
    (try dsimp only at hSw)
    go_simp
    try with_reducible rfl
  go_simp
  refine wpAnyH_take (i := 1) (v := ?_) rfl (by kernel_rfl) (by kernel_rfl) (by kernel_rfl) (fun _ _ _ h => h) (Or.inl ⟨by rfl, ?_⟩) hHeld ?_
  rotate_left
  · intro w hSw
    (try dsimp only at hSw)
    go_simp
    try with_reducible rfl
  go_simp
  refine wpAnyH_take (i := 2) (v := ?_) rfl (by kernel_rfl) (by kernel_rfl) (by kernel_rfl) (fun _ _ _ h => h) (Or.inl ⟨by rfl, ?_⟩) hHeld ?_
  rotate_left
  · intro w hSw
    (try dsimp only at hSw)
    go_simp
    try with_reducible rfl
  go_simp
  refine wpAnyH_take (i := 3) (v := ?_) rfl (by kernel_rfl) (by kernel_rfl) (by kernel_rfl) (fun _ _ _ h => h) (Or.inl ⟨by rfl, ?_⟩) hHeld ?_
  rotate_left
  · intro w hSw
    (try dsimp only at hSw)
    go_simp
    try with_reducible rfl
  go_simp
  refine wpAnyH_take (i := 4) (v := ?_) rfl (by kernel_rfl) (by kernel_rfl) (by kernel_rfl) (fun _ _ _ h => h) (Or.inl ⟨by rfl, ?_⟩) hHeld ?_
  rotate_left
  · intro w hSw
    (try dsimp only at hSw)
    go_simp
    try with_reducible rfl
  go_simp
  refine wpAnyH_take (i := 5) (v := ?_) rfl (by kernel_rfl) (by kernel_rfl) (by kernel_rfl) (fun _ _ _ h => h) (Or.inl ⟨by rfl, ?_⟩) hHeld ?_
  rotate_left
  · intro w hSw
    (try dsimp only at hSw)
    go_simp
    try with_reducible rfl
  go_simp
  refine wpAnyH_take (i := 6) (v := ?_) rfl (by kernel_rfl) (by kernel_rfl) (by kernel_rfl) (fun _ _ _ h => h) (Or.inl ⟨by rfl, ?_⟩) hHeld ?_
  rotate_left
  · intro w hSw
    (try dsimp only at hSw)
    go_simp
    try with_reducible rfl
  go_simp
  refine wpAnyH_take (i := 7) (v := ?_) rfl (by kernel_rfl) (by kernel_rfl) (by kernel_rfl) (fun _ _ _ h => h) (Or.inl ⟨by rfl, ?_⟩) hHeld ?_
  rotate_left
  · intro w hSw
    (try dsimp only at hSw)
    go_simp
    try with_reducible rfl
  go_simp
  refine wpAnyH_take (i := 8) (v := ?_) rfl (by kernel_rfl) (by kernel_rfl) (by kernel_rfl) (fun _ _ _ h => h) (Or.inl ⟨by rfl, ?_⟩) hHeld ?_
  rotate_left
  · intro w hSw
    (try dsimp only at hSw)
    go_simp
    try with_reducible rfl
  go_simp
  refine wpAnyH_ready (rs := [9]) (by kernel_rfl) (by simp) ?_
  refine AllReadyH.cons rfl (fun K hK => ?_) ?_
  rotate_left
  · exact AllReadyH.nil
  go_simp
  go_wp2_with (first | (go_at_call 26; ((with_reducible refine (CC.out).mono ?_); rintro e w3 ⟨v3, rfl, own3, hb3⟩); have hW2 := HV.out.trans (hb3.mono HV.out.size); have HB3 := Lib.hid hb3; have HO3 := Lib.hid own3; clear own3 hb3))
  refine hK.out _ _ ((by first | with_reducible exact MK.out _ hW2 | with_reducible exact MK.out _ HV.out)) (fun hHeld => ?_)
  clear hK K
  go_simp
  refine wpAnyH_ready (rs := [10]) (by kernel_rfl) (by simp) ?_
  refine AllReadyH.cons rfl (fun K hK => ?_) ?_
  rotate_left
  · exact AllReadyH.nil
  go_simp
  go_wp2_with (first | (go_at_call 26; ((with_reducible refine (CC.out).mono ?_); rintro e w3 ⟨v3, rfl, own3, hb3⟩); have hW2 := HV.out.trans (hb3.mono HV.out.size); have HB3 := Lib.hid hb3; have HO3 := Lib.hid own3; clear own3 hb3))
  refine hK.out _ _ ((by first | with_reducible exact MK.out _ hW2 | with_reducible exact MK.out _ HV.out)) (fun hHeld => ?_)
  clear hK K
  go_simp
  refine wpAnyH_take (i := 11) (v := ?_) rfl (by kernel_rfl) (by kernel_rfl) (by kernel_rfl) (fun _ _ _ h => h) (Or.inl ⟨by rfl, ?_⟩) hHeld ?_
  rotate_left
  · intro w hSw
    (try dsimp only at hSw)
    go_simp
    try with_reducible rfl
  go_simp
  refine wpAnyH_done (by kernel_rfl) ?_ _
  refine NoPanic.normal ?_
  obtain ⟨A3, c3, rfl⟩ := own_form HO3.out
  have HBQ := Lib.hid (HBV.out.trans (HB3.out.mono HBV.out.size))
  have HST : Hid (ApAt w3.heap.size w3 Q Q 0) := Lib.hid ⟨rfl, fun i h => by omega, fun i _ => rfl⟩
  have hV4 : w.heap.size ≤ (w1.alloc (.cells #[.slice A ka c, .slice B m d, .slice AC nb cb] 30)).drew.heap.size := HBV.out.size
  have HO3 := Lib.hid (own_base HO3.out hV4)
  clear hW2 HB3 MK CC HBV HV hV4
  go_wp2_with fail
  go_loopg [42] q (fun g i wr => ∃ (j : Nat) (l' : List Rw), i = .int .i64 j ∧ j ≤ q ∧ q - j ≤ g ∧ Hid (ApAt w3.heap.size wr Q l' j) ∧ Hid (wr.ownsRow w.heap.size 24 7 (.slice A3 q c3) q (kfl encR l')) ∧ Hid (Below w.heap.size w wr) ∧ Hid (w3.heap.size ≤ wr.heap.size))
  case atStart => exact ⟨0, Q, rfl, by omega, by omega, HST, HO3, HBQ, Lib.hid (Nat.le_refl _)⟩
  case round =>
    obtain ⟨j, l', rfl, h1, h2, hap, hown, hb, hsz⟩ := hrel
    have hll : l'.length = q := by rw [hap.out.len]; exact HQL.out
    by_cases hlt : j < q
    · obtain ⟨g0, rfl⟩ := own_sliceD HO3.out (by omega)
      have hjl : j < l'.length := by rw [hll]; exact hlt
      have hg0 := (own_freeD HO3.out 0).2.2
      have hgb := (own_freeD HO3.out 0).2.1
      have hR9 := rows_ofD hown.out
      obtain ⟨bA, off, e7, hbA, d0, d1, d2, d3, d4, d5, d6⟩ := hR9.row7 hjl
      injection e7 with e7
      injection e7 with e7a e7b
      subst e7a
      subst e7b
      rw [Nat.zero_add] at d0 d1 d2 d3 d4 d5 d6
      have hjQ : j < Q.length := by rw [HQL.out]; exact hlt
      have hsj : l'[j] = Q[j] := by rw [← rth_get hjl, ← rth_get hjQ]; exact hap.out.rest j (Nat.le_refl _)
      have hok := HQK.out _ (List.getElem_mem hjQ)
      rw [← hsj] at hok
      have hok1 := hok.1.below hb.out
      have x3 : Below wr.heap.size wr (wr.alloc (.cells #[.slice l'[j].A l'[j].n l'[j].c, .int .i64 l'[j].st, .int .i64 l'[j].en, .int .i64 l'[j].bu, .bool l'[j].wr, .bool l'[j].fo, .int .i64 l'[j].wd] 24)) := (Below.refl _ _).alloc (Nat.le_refl _) _
      have CK := Lib.hid (dClone_any l'[j].A l'[j].n l'[j].c l'[j].cs (wr.alloc (.cells #[.slice l'[j].A l'[j].n l'[j].c, .int .i64 l'[j].st, .int .i64 l'[j].en, .int .i64 l'[j].bu, .bool l'[j].wr, .bool l'[j].fo, .int .i64 l'[j].wd] 24)) (hok1.rows.below x3) hok.1.caps hok.1.len hok.2)
      have HO4 := Lib.hid (own_below hown.out x3)
      have HB4 := Lib.hid (hb.out.trans (x3.mono hb.out.size))
      have HS4 : Hid (w3.heap.size ≤ (wr.alloc (.cells #[.slice l'[j].A l'[j].n l'[j].c, .int .i64 l'[j].st, .int .i64 l'[j].en, .int .i64 l'[j].bu, .bool l'[j].wr, .bool l'[j].fo, .int .i64 l'[j].wd] 24)).heap.size) := Lib.hid (Nat.le_trans hsz.out x3.size)
      have HX4 := Lib.hid x3
      have HSJ := Lib.hid hsj
      have HLN := Lib.hid hok.1.len
      have HMX := Lib.hid hok.1.max
      have HDK := Lib.hid (fun A c => dkfl_set l' j hjl A c)
      have i1 : (0 : Int) ≤ j := by omega
      have i2 : (j : Int) < q := by omega
      clear hsj hok hok1 hR9 x3 hown hb
      obtain ⟨s, hs⟩ : ∃ s, s = l'[j] := ⟨_, rfl⟩
      rw [← hs] at d0 d1 d2 d3 d4 d5 d6 CK HO4 HB4 HS4 HX4 HSJ HLN HMX HDK
      clear hs
      go_wp2_with fail
      with_reducible refine (CK.out).mono ?_
      rintro e w5 ⟨v5, rfl, own5, hb5, _⟩
      obtain ⟨A5, c5, rfl, hR5, _, hc5⟩ := rows_of_own encC_len (by omega) own5
      have HR5 := Lib.hid hR5
      have HC5 := Lib.hid hc5
      have HL5 : Hid (∀ a, A5 = some a → 0 < s.n → w3.heap.size ≤ a.block) := Lib.hid (fun a ha hp => by
        obtain ⟨g5, cap5, e5⟩ := own_slice own5 hp
        injection e5 with e5a e5b e5c
        subst e5c
        subst e5a
        injection ha with ha
        subst ha
        have := (own_freeD own5 0).2.1
        have := HS4.out
        simp only
        omega)
      have HO5 := Lib.hid (own_below HO4.out hb5)
      have HB5 := Lib.hid (HB4.out.trans (hb5.mono HB4.out.size))
      have HX5 := Lib.hid (HX4.out.trans (hb5.mono HX4.out.size))
      have f5 := (own_freeD HO5.out (j * 7)).1
      have hR8 := rows_ofD HO5.out
      obtain ⟨bA, off, e7, hbA8, z0, _, _, _, _, _, _⟩ := hR8.row7 hjl
      injection e7 with e7
      injection e7 with e7a e7b
      subst e7a
      subst e7b
      rw [Nat.zero_add] at z0
      clear own5 hb5 hR5 hc5 hR8 HO4 HX4
      have HO6 : Hid ((w5.setCell ⟨g0, j * 7, none⟩ (.slice A5 s.n c5)).ownsRow w.heap.size 24 7 (.slice (some ⟨g0, 0, none⟩) q c3) q (kfl encR (l'.set j { s with A := A5, c := c5 }))) := Lib.hid (by
        rw [← HDK.out A5 c5]
        exact own_setD HO5.out (j * 7) _)
      have HB6 := Lib.hid (HB5.out.setCell (p := ⟨g0, j * 7, none⟩) hgb (.slice A5 s.n c5))
      have HS6 : Hid (w3.heap.size ≤ (w5.setCell ⟨g0, j * 7, none⟩ (.slice A5 s.n c5)).heap.size) := Lib.hid (by have h1 := HX5.out.size; have h2 := hsz.out; simp; omega)
      have HA6 : Hid (ApAt w3.heap.size (w5.setCell ⟨g0, j * 7, none⟩ (.slice A5 s.n c5)) Q (l'.set j { s with A := A5, c := c5 }) (j + 1)) := Lib.hid ⟨by rw [List.length_set]; exact hap.out.len, fun i hi => by
          rw [rth_set hjl]
          by_cases e : j = i
          · rw [if_pos e]
            subst e
            refine ⟨?_, ?_, fun a ha hp => HL5.out a ha hp⟩
            · rw [rth_get hjQ, ← HSJ.out]
              exact ⟨rfl, rfl, rfl, rfl, rfl, rfl, rfl, rfl⟩
            · refine RwOk.off (w := w5) (show RwOk w5 { s with A := A5, c := c5 } from ⟨HLN.out, HMX.out, HC5.out, HR5.out⟩) (fun a ha hp => ?_) _ _
              have := HL5.out a ha hp
              omega
          · rw [if_neg e]
            obtain ⟨k1, k2, k3⟩ := hap.out.done i (by omega)
            refine ⟨k1, RwOk.off (k2.below HX5.out) (fun a ha hp => ?_) _ _, k3⟩
            have := k3 a ha hp
            omega, fun i hi => by
          rw [rth_set hjl, if_neg (by omega)]
          exact hap.out.rest i (by omega)⟩
      clear HO5 HB5 HX5 HL5 HR5 HC5 HDK HSJ HLN HMX HS4 HB4 hap CK
      go_wp2
      go_roundg (gk - 1)
      case measure => omega
      case rel => exact ⟨j + 1, _, by go_num, by omega, by omega, HA6, HO6, HB6, HS6⟩
    · obtain rfl : j = q := by omega
      have HR9 := Lib.hid (rows_ofD hown.out)
      have HRB : Hid (RBs l' Q) := Lib.hid ⟨hap.out.len, fun i hi => (hap.out.done i (by rw [HQL.out] at hi; exact hi)).1⟩
      have HOK : Hid (∀ s ∈ l', RwOk wr s) := Lib.hid (fun s hs => by
        obtain ⟨i, hi, rfl⟩ := List.mem_iff_getElem.1 hs
        rw [← rth_get hi]
        exact (hap.out.done i (by rw [hll] at hi; exact hi)).2.1)
      clear hap hown HO3 HST
      go_wp2
      refine bodyPost_ret (v := .tuple #[.slice A3 j c3, .int .i64 0]) (by simp [results, Try.results19, go_sem]) rfl ⟨A3, c3, l', rfl, HR9.out, HRB.out, HOK.out, hb.out⟩
end Go.Proofs.Ytebjkgeldjgnfaa
