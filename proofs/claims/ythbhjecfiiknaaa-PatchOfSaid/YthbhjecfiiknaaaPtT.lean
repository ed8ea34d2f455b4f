/- Patches of batches: the contracts of the document's Check, of rises, edited, kept over edits, and Of. -/
import Derived.Test.YthbhjecfiiknaaaEdA
import Derived.Test.YthbhjecfiiknaaaPtO
import Derived.Deep.RegionHeld3
namespace Go.Proofs.Ythbhjecfiiknaaa
open Go.RowKit
set_option linter.unusedVariables false
set_option maxHeartbeats 2000000 in
theorem insideO_any (n x y : Int) (w : World) (sb : Bool) (hsb : sb = true ↔ 0 ≤ x ∧ x ≤ y ∧ y ≤ n) : Calls Try.prog 29 #[.int .i64 n, .int .i64 x, .int .i64 y] w fun e w' => e = .returned (.bool sb) ∧ w' = w := by
  have HF := Lib.hid hsb; clear hsb
  by_cases g1 : 0 ≤ x
  · by_cases g2 : x ≤ y
    · by_cases g3 : y ≤ n
      · have HX := Lib.hid (bt HF.out ⟨g1, g2, g3⟩)
        go_enter Try.func29, Try.ntmps29
        go_wp2
        go_ret
        exact ⟨ret_bool (by first | exact HX.out | simpa using HX.out), rfl⟩
      · have HX := Lib.hid (bf HF.out (fun h => g3 h.2.2))
        go_enter Try.func29, Try.ntmps29
        go_wp2
        go_ret
        exact ⟨ret_bool (by first | exact HX.out | exact (decide_eq_false (by omega)).trans HX.out), rfl⟩
    · have HX := Lib.hid (bf HF.out (fun h => g2 h.2.1))
      go_enter Try.func29, Try.ntmps29
      go_wp2
      go_ret
      exact ⟨ret_bool (by first | exact HX.out | exact (decide_eq_false (by omega)).trans HX.out), rfl⟩
  · have HX := Lib.hid (bf HF.out (fun h => g1 h.1))
    go_enter Try.func29, Try.ntmps29
    go_wp2
    go_ret
    exact ⟨ret_bool (by first | exact HX.out | exact (decide_eq_false (by omega)).trans HX.out), rfl⟩
set_option maxHeartbeats 4000000 in
set_option maxRecDepth 100000 in
theorem rfCheckO_any (n : Int) (A : Option Addr) (m c : Nat) (l : List E3) (w : World) (hA : EdsAt w A l) (hl : l.length = m) :
    Calls Try.prog 15 #[.int .i64 n, .slice A m c] w fun e w' => e = .returned (.int .i64 (bchk n l)) ∧ Below w.heap.size w w' := by
  have HA := Lib.hid hA; clear hA
  have HL := Lib.hid hl; clear hl
  obtain ⟨R, hR⟩ : ∃ R, R = bchk n l := ⟨_, rfl⟩
  rw [← hR]
  have HR := Lib.hid hR; clear hR
  by_cases hg : 64 < m
  · have hst : bchk n l = 2 := by unfold bchk; rw [HL.out, if_pos hg]
    go_enter Try.func15, Try.ntmps15
    go_wp2
    go_ret
    exact ⟨by rw [HR.out, hst]; rfl, Below.refl _ _⟩
  have h0 : bchk n l = echk n 0 l := by unfold bchk; rw [HL.out, if_neg hg]
  have H0 := Lib.hid h0; clear h0
  have dz : decide (64 < m) = false := decide_eq_false hg
  have hm : m ≤ 64 := by omega
  clear hg
  go_enter Try.func15, Try.ntmps15
  go_wp2_with fail
  go_loopg [5, 13] m (fun g ah i wr => ∃ (j : Nat) (p : Int), i = .int .i64 j ∧ j ≤ m ∧ m - j ≤ g ∧ Below w.heap.size w wr ∧ ah = .int .i64 p ∧ Hid (bchk n l = echk n p (l.drop j)))
  case atStart => exact ⟨0, 0, rfl, by omega, by omega, Below.refl _ _, rfl, H0⟩
  case round =>
    obtain ⟨j, p, rfl, h1, h2, hb, rfl, hck⟩ := hrel
    by_cases hlt : j < m
    · have hjl : j < l.length := by rw [HL.out]; exact hlt
      obtain ⟨bA, off, rfl, hbA, d0, d1, d2⟩ := (HA.out.below hb).drop1 hjl
      have hst := hck.out
      rw [eth_drop hjl, echk] at hst
      have HST := Lib.hid hst; clear hst hck
      generalize eth l j = x at *
      have i1 : (0 : Int) ≤ j := by omega
      have i2 : (j : Int) < m := by omega
      have x3 : Below wr.heap.size wr (wr.alloc (.cells #[.int .i64 x.f, .int .i64 x.t, .string x.x] 36)) := (Below.refl _ _).alloc (Nat.le_refl _) _
      have a3 := hb.trans (x3.mono hb.size)
      by_cases g0 : 0 ≤ x.f ∧ x.f ≤ x.t ∧ x.t ≤ n
      · have CI := Lib.hid fun (W : World) => insideO_any n x.f x.t W true ⟨fun _ => g0, fun _ => rfl⟩
        have hst := HST.out
        rw [if_neg (fun h => h g0)] at hst
        have hst0 := Lib.hid hst
        clear hst HST g0
        obtain ⟨sb, hsb⟩ : ∃ sb, sb = wr.heap.size := ⟨_, rfl⟩
        have HSB := Lib.hid hsb
        have R3 : RawAt 36 (wr.alloc (.cells #[.int .i64 x.f, .int .i64 x.t, .string x.x] 36)) wr.heap.size #[.int .i64 x.f, .int .i64 x.t, .string x.x] := heap_alloc_new wr _
        have t0 := RawAt.cell R3 0
        have t1 := RawAt.cell R3 1
        simp at t0 t1
        clear hsb R3
        by_cases g4 : x.f < p
        · have hst := hst0.out
          rw [if_pos g4] at hst
          go_wp2_with fail
          refine (CI.out _).mono ?_
          rintro e w4 ⟨rfl, hw4⟩
          have hw4 := hw4.symm
          subst hw4
          go_wp2
          go_ret
          exact ⟨by rw [HR.out, hst]; rfl, a3⟩
        · have hst := hst0.out
          rw [if_neg g4] at hst
          have HS2 := Lib.hid hst
          clear hst hst0
          go_wp2_with fail
          refine (CI.out _).mono ?_
          rintro e w4 ⟨rfl, hw4⟩
          have hw4 := hw4.symm
          subst hw4
          go_wp2
          go_roundg (gk - 1)
          case measure => omega
          case rel => exact ⟨j + 1, x.t, by go_num, by omega, by omega, a3, rfl, HS2⟩
      · have CI := Lib.hid fun (W : World) => insideO_any n x.f x.t W false ⟨fun h => absurd h (by decide), fun h => absurd h g0⟩
        have hst := HST.out
        rw [if_pos g0] at hst
        clear g0
        go_wp2_with fail
        refine (CI.out _).mono ?_
        rintro e w4 ⟨rfl, hw4⟩
        have hw4 := hw4.symm
        subst hw4
        go_wp2
        go_ret
        exact ⟨by rw [HR.out, hst]; rfl, a3⟩
    · have hj : j = m := by omega
      have hst := hck.out
      rw [List.drop_of_length_le (by rw [HL.out]; omega), echk] at hst
      go_wp2
      go_ret
      exact ⟨by rw [HR.out, hst]; rfl, hb⟩
/-- Edits, told by their numbers. -/
def tri (l : List E3) : List (Int × Int × Int) := l.map fun e => (e.f, e.t, ((dec e.x).length : Int))
theorem eth_mem2 {l : List E3} {k : Nat} (h : k < l.length) : eth l k ∈ l := by
  have : eth l k = l[k] := by simp [eth, List.getD, h]
  rw [this]; exact List.getElem_mem h
theorem ris_tri {n : Nat} : ∀ {p : Nat} {l : List E3}, ERis n p l → ris p (tri l)
  | _, [], _ => trivial
  | p, e :: l, h => by
    obtain ⟨a, b, h1, h2, h3, h4, h5, h6⟩ := h
    have ih := ris_tri h6
    show (p : Int) ≤ e.f ∧ e.f ≤ e.t ∧ 0 ≤ ((dec e.x).length : Int) ∧ ris e.t (tri l)
    exact ⟨by omega, by omega, by omega, by rw [h2]; exact ih⟩
theorem rawc_len : ∀ (p q : Int) (l : List (Int × Int × Int)), (rawc p q l).length = l.length
  | _, _, [] => rfl
  | p, q, (a, b, m) :: l => by unfold rawc; rw [List.length_cons, List.length_cons, rawc_len]
/-- The pieces that edits keep begin at small places. -/
theorem rawc_bd {n : Nat} {S : Int} (hS : 0 ≤ S) {L : Int} (hL : (n : Int) ≤ L) : ∀ {p : Nat} {q : Int} {l : List E3}, ERis n p l → (∀ e ∈ l, (e.x.size : Int) ≤ S) → p ≤ n → 0 ≤ q → ∀ x ∈ pcs L p q (rawc p q (tri l)), 0 ≤ x.o ∧ x.o ≤ n ∧ 0 ≤ x.w ∧ x.w ≤ q + (n - p) + S * l.length ∧ x.n ≤ L
  | p, q, [], _, _, hp, hq, x, hx => by
    unfold tri rawc pcs at hx
    obtain rfl := List.mem_singleton.1 hx
    exact ⟨by simp only; omega, by simp only; omega, hq, by simp; omega, Int.le_refl _⟩
  | p, q, e :: l, h, hs, hp, hq, x, hx => by
    obtain ⟨a, b, h1, h2, h3, h4, h5, h6⟩ := h
    have hd := dec_len e.x
    have hse := hs e (List.mem_cons_self ..)
    have hx' : x ∈ (if 0 < e.f - p then [⟨(p : Int), q, e.f - p⟩] else []) ++ pcs L e.t (q + (e.f - p) + ((dec e.x).length : Int)) (rawc e.t (q + (e.f - p) + ((dec e.x).length : Int)) (tri l)) := hx
    have e1 : S * ((l.length + 1 : Nat) : Int) = S * (l.length : Int) + S := by rw [show ((l.length + 1 : Nat) : Int) = (l.length : Int) + 1 from by omega, Int.mul_add, Int.mul_one]
    rw [List.length_cons, e1]
    have hm : 0 ≤ S * (l.length : Int) := Int.mul_nonneg hS (by omega)
    rcases List.mem_append.1 hx' with hx | hx
    · split at hx
      · obtain rfl := List.mem_singleton.1 hx
        exact ⟨by simp only; omega, by simp only; omega, hq, by simp only; omega, by simp only; omega⟩
      · exact absurd hx List.not_mem_nil
    · rw [h2] at hx
      have ih := rawc_bd hS hL h6 (fun d hd => hs d (List.mem_cons_of_mem _ hd)) h5 (show 0 ≤ q + (e.f - p) + ((dec e.x).length : Int) by omega) x hx
      refine ⟨ih.1, ih.2.1, ih.2.2.1, ?_, ih.2.2.2.2⟩
      have := ih.2.2.2.1
      omega
theorem bd_raw {n : Nat} {l : List E3} (h : ERis n 0 l) (hn : n ≤ 1000000000) (hm : l.length ≤ 64) (hs : ∀ e ∈ l, e.x.size ≤ 1000000000) : Bd (pcs LL 0 0 (rawc 0 0 (tri l))) ∧ nrm M40 0 0 true (chg 0 0 (pcs LL 0 0 (rawc 0 0 (tri l)))) := by
  have hb := rawc_bd (S := 1000000000) (by decide) (show (n : Int) ≤ LL by unfold LL; omega) (q := 0) h (fun e he => by have := hs e he; omega) (Nat.zero_le _) (Int.le_refl _)
  have hsr : srt 0 0 (pcs LL 0 0 (rawc 0 0 (tri l))) := rawc_srt (by decide) _ 0 0 (ris_tri h)
  have hl1 := pcs_len LL 0 0 (rawc 0 0 (tri l))
  rw [rawc_len, show (tri l).length = l.length from by simp [tri]] at hl1
  refine ⟨⟨hsr, fun x hx => ?_, by omega⟩, chg_nrm hsr (fun x hx => ?_) (Int.le_refl _) rfl (fun h => absurd h (by decide)) (Int.le_refl _) (Int.le_refl _)⟩
  · have h1 := hb x hx
    unfold LL at h1
    omega
  · have h1 := hb x hx
    unfold LL at h1
    unfold M40
    omega
set_option maxHeartbeats 4000000 in
set_option maxRecDepth 100000 in
theorem prises_any (n0 : Nat) (A : Option Addr) (m c : Nat) (l : List E3) (w : World) (hA : EdsAt w A l) (hl : l.length = m) (hm : m ≤ 64) (hr : ERis n0 0 l) :
    Calls Try.prog 31 #[.slice A m c] w fun e w' => e = .returned (.bool true) ∧ Below w.heap.size w w' := by
  have HA := Lib.hid hA
  have HL := Lib.hid hl
  have HR := Lib.hid hr
  clear hA hl hr
  go_enter Try.func31, Try.ntmps31
  go_wp2_with fail
  go_loopg [3, 8] m (fun g ah i wr => ∃ (j p : Nat), i = .int .i64 j ∧ j ≤ m ∧ m - j ≤ g ∧ Below w.heap.size w wr ∧ ah = .int .i64 p ∧ Hid (ERis n0 p (l.drop j)))
  case atStart => exact ⟨0, 0, rfl, by omega, by omega, Below.refl _ _, rfl, Lib.hid HR.out⟩
  case round =>
    obtain ⟨j, p, rfl, h1, h2, hb, rfl, hck⟩ := hrel
    by_cases hlt : j < m
    · have hjl : j < l.length := by rw [HL.out]; exact hlt
      obtain ⟨bA, off, rfl, hbA, d0, d1, d2⟩ := (HA.out.below hb).drop1 hjl
      have hst := hck.out
      rw [eth_drop hjl, ERis] at hst
      obtain ⟨a, b, e1, e2, e3, e4, e5, e6⟩ := hst
      have HST := Lib.hid e6
      clear hck e6
      generalize eth l j = x at *
      obtain ⟨xf, xt, xx⟩ := x
      dsimp only at *
      subst e1
      subst e2
      have i1 : (0 : Int) ≤ j := by omega
      have i2 : (j : Int) < m := by omega
      have x3 : Below wr.heap.size wr (wr.alloc (.cells #[.int .i64 (a : Int), .int .i64 (b : Int), .string xx] 36)) := (Below.refl _ _).alloc (Nat.le_refl _) _
      have a3 := hb.trans (x3.mono hb.size)
      have k1 : decide ((a : Int) < (p : Int)) = false := decide_eq_false (by omega)
      have k2 : decide ((b : Int) < (a : Int)) = false := decide_eq_false (by omega)
      have k1' : decide (a < p) = false := decide_eq_false (by omega)
      have k2' : decide (b < a) = false := decide_eq_false (by omega)
      go_wp2
      go_roundg (gk - 1)
      case measure => omega
      case rel => exact ⟨j + 1, b, by go_num, by omega, by omega, a3, rfl, HST⟩
    · have hj : j = m := by omega
      go_wp2
      go_ret
      exact ⟨rfl, hb⟩
set_option maxHeartbeats 4000000 in
set_option maxRecDepth 100000 in
theorem edited_any (c : E3) (w : World) (hs : c.x.size ≤ 1000000000) : Calls Try.prog 35 #[.agg #[.int .i64 c.f, .int .i64 c.t, .string c.x]] w fun e w' => e = .returned (.tuple #[.agg #[.int .i64 c.f, .int .i64 c.t], .int .i64 ((dec c.x).length : Int)]) ∧ Below w.heap.size w w' := by
  have CN := Lib.hid fun W => count_any c.x W hs
  obtain ⟨hr0, hq0, hb0, hs0⟩ := new2 w 36 54 #[.int .i64 c.f, .int .i64 c.t, .string c.x] #[.int .i64 0, .int .i64 0]
  have HR0 := Lib.hid hr0
  have HQ0 := Lib.hid hq0
  have HS0 := Lib.hid hs0
  clear hr0 hq0 hs0
  obtain ⟨cn, hcn⟩ : ∃ cn : Int, cn = ((dec c.x).length : Int) := ⟨_, rfl⟩
  rw [← hcn] at CN ⊢
  clear hcn
  go_enter Try.func35, Try.ntmps35
  go_wp2_with fail
  generalize (w.alloc (.cells #[.int .i64 c.f, .int .i64 c.t, .string c.x] 36)).alloc (.cells #[.int .i64 0, .int .i64 0] 54) = W1 at *
  have MK : Hid (∀ W : World, Below (w.heap.size + 1) W1 W → (fun W => W.cell? ⟨w.heap.size, 0, none⟩ = some (.int .i64 c.f) ∧ W.cell? ⟨w.heap.size, 1, none⟩ = some (.int .i64 c.t) ∧ W.cell? ⟨w.heap.size, 2, none⟩ = some (.string c.x) ∧ Below (w.heap.size + 1) W1 W) W) := fun W hW => ⟨RawAt.cell (RawAt.below HR0.out hW (Nat.lt_succ_self _)) 0, RawAt.cell (RawAt.below HR0.out hW (Nat.lt_succ_self _)) 1, RawAt.cell (RawAt.below HR0.out hW (Nat.lt_succ_self _)) 2, hW⟩
  have hW2 : Below (w.heap.size + 1) W1 W1.drew := (Below.refl _ _).drew
  refine wp_region_noPanic ?_
  refine wp_region_held_drew (S := (fun W => W.cell? ⟨w.heap.size, 0, none⟩ = some (.int .i64 c.f) ∧ W.cell? ⟨w.heap.size, 1, none⟩ = some (.int .i64 c.t) ∧ W.cell? ⟨w.heap.size, 2, none⟩ = some (.string c.x) ∧ Below (w.heap.size + 1) W1 W)) (by kernel_rfl) (MK.out _ hW2) (fun hHeld => ?_)
  refine wpAnyH_take (i := 0) (v := ?_) rfl (by kernel_rfl) (by kernel_rfl) (by kernel_rfl) (fun _ _ _ h => h) (Or.inl ⟨by rfl, ?_⟩) hHeld ?_
  rotate_left
  · intro w hSw
    (try dsimp only at hSw)
    go_simp
    try with_reducible rfl
  go_simp
  refine wpAnyH_take (i := 1) (v := ?_) rfl (by kernel_rfl) (by kernel_rfl) (by kernel_rfl) (fun _ _ _ h => h) (Or.inl ⟨by rfl, ?_⟩) hHeld ?_
  rotate_left
  · intro w hSw
    (try dsimp only at hSw)
    go_simp
    try with_reducible rfl
  go_simp
  refine wpAnyH_take (i := 2) (v := ?_) rfl (by kernel_rfl) (by kernel_rfl) (by kernel_rfl) (fun _ _ _ h => h) (Or.inl ⟨by rfl, ?_⟩) hHeld ?_
  rotate_left
  · intro w hSw
    (try dsimp only at hSw)
    go_simp
    try with_reducible rfl
  go_simp
  refine wpAnyH_take (i := 3) (v := ?_) rfl (by kernel_rfl) (by kernel_rfl) (by kernel_rfl) (fun _ _ _ h => h) (Or.inl ⟨by rfl, ?_⟩) hHeld ?_
  rotate_left
  · intro w hSw
    (try dsimp only at hSw)
    go_simp
    try with_reducible rfl
  go_simp
  refine wpAnyH_take (i := 4) (v := ?_) rfl (by kernel_rfl) (by kernel_rfl) (by kernel_rfl) (fun _ _ _ h => h) (Or.inl ⟨by rfl, ?_⟩) hHeld ?_
  rotate_left
  · intro w hSw
    (try dsimp only at hSw)
    go_simp
    try with_reducible rfl
  go_simp
  refine wpAnyH_take (i := 5) (v := ?_) rfl (by kernel_rfl) (by kernel_rfl) (by kernel_rfl) (fun _ _ _ h => h) (Or.inl ⟨by rfl, ?_⟩) hHeld ?_
  rotate_left
  · intro w hSw
    (try dsimp only at hSw)
    go_simp
    try with_reducible rfl
  go_simp
  refine wpAnyH_take (i := 6) (v := ?_) rfl (by kernel_rfl) (by kernel_rfl) (by kernel_rfl) (fun _ _ _ h => h) (Or.inl ⟨by rfl, ?_⟩) hHeld ?_
  rotate_left
  · intro w hSw
    (try dsimp only at hSw)
    go_simp
    try with_reducible rfl
  go_simp
  refine wpAnyH_ready (rs := [7]) (by kernel_rfl) (by simp) ?_
  refine AllReadyH.cons rfl (fun K hK => ?_) ?_
  rotate_left
  · exact AllReadyH.nil
  go_simp
  go_wp2_with (first | (go_at_call 45; ((with_reducible refine (CN.out _).mono ?_); rintro e w8 ⟨rfl, hb8⟩); have hQ8 : RawAt 54 w8 (w.heap.size + 1) #[.int .i64 0, .int .i64 0] := RawAt.below (w := W1.drew) HQ0.out hb8 (by have := HS0.out; show w.heap.size + 1 < W1.heap.size; omega); have hW2 := hW2.trans (hb8.mono (by have := HS0.out; show w.heap.size + 1 ≤ W1.heap.size; omega)); have q0 := RawAt.cell hQ8 0; have q1 := RawAt.cell hQ8 1; have f0 := RawAt.free hQ8 0; have f1 := RawAt.free hQ8 1; simp at q0 q1))
  refine hK.out _ _ (by first | (with_reducible exact MK.out _ hW2) | exact MK.out _ ((hW2.setCell (p := ⟨w.heap.size + 1, 0, none⟩) (by simp) _).setCell (p := ⟨w.heap.size + 1, 1, none⟩) (by simp) _)) (fun hHeld => ?_)
  clear hK K
  go_simp
  refine wpAnyH_ready (rs := [8]) (by kernel_rfl) (by simp) ?_
  refine AllReadyH.cons rfl (fun K hK => ?_) ?_
  rotate_left
  · exact AllReadyH.nil
  go_simp
  go_wp2_with (first | (go_at_call 45; ((with_reducible refine (CN.out _).mono ?_); rintro e w8 ⟨rfl, hb8⟩); have hQ8 : RawAt 54 w8 (w.heap.size + 1) #[.int .i64 0, .int .i64 0] := RawAt.below (w := W1.drew) HQ0.out hb8 (by have := HS0.out; show w.heap.size + 1 < W1.heap.size; omega); have hW2 := hW2.trans (hb8.mono (by have := HS0.out; show w.heap.size + 1 ≤ W1.heap.size; omega)); have q0 := RawAt.cell hQ8 0; have q1 := RawAt.cell hQ8 1; have f0 := RawAt.free hQ8 0; have f1 := RawAt.free hQ8 1; simp at q0 q1))
  refine hK.out _ _ (by first | (with_reducible exact MK.out _ hW2) | exact MK.out _ ((hW2.setCell (p := ⟨w.heap.size + 1, 0, none⟩) (by simp) _).setCell (p := ⟨w.heap.size + 1, 1, none⟩) (by simp) _)) (fun hHeld => ?_)
  clear hK K
  go_simp
  refine wpAnyH_take (i := 9) (v := ?_) rfl (by kernel_rfl) (by kernel_rfl) (by kernel_rfl) (fun _ _ _ h => h) (Or.inl ⟨by rfl, ?_⟩) hHeld ?_
  rotate_left
  · intro w hSw
    (try dsimp only at hSw)
    go_simp
    try with_reducible rfl
  go_simp
  refine wpAnyH_done (by kernel_rfl) ?_ _
  refine NoPanic.normal ?_
  clear q0 q1
  have hR9 := (hQ8.set_ 0 (.int .i64 c.f)).set_ 1 (.int .i64 c.t)
  have p0 := (RawAt.cell hR9 0).trans (show _ = some (Value.int .i64 c.f) from rfl)
  have p1 := (RawAt.cell hR9 1).trans (show _ = some (Value.int .i64 c.t) from rfl)
  have hbz : Below w.heap.size w ((w8.setCell ⟨w.heap.size + 1, 0, none⟩ (.int .i64 c.f)).setCell ⟨w.heap.size + 1, 1, none⟩ (.int .i64 c.t)) := ((hb0.trans (hW2.mono (by omega))).setCell (p := ⟨w.heap.size + 1, 0, none⟩) (by simp) _).setCell (p := ⟨w.heap.size + 1, 1, none⟩) (by simp) _
  go_wp2
  exact bodyPost_ret (v := .tuple #[.agg #[.int .i64 c.f, .int .i64 c.t], .int .i64 cn]) (by simp [results, Try.results35, go_sem, p0, p1]) rfl ⟨rfl, hbz⟩
set_option maxHeartbeats 4000000 in
set_option maxRecDepth 100000 in
/-- Each piece that edits keep is handed on: what holds of those so far holds of all at the end. -/
theorem keptE_any (K : Nat) (caps : Array Value) (A : Option Addr) (m cp n0 : Nat) (l : List E3) (I : List Pc → World → Prop) (w : World)
    (hK : ∀ (args : Array Value) (w : World), (callFunc K args).run Try.prog w = .ok (.enter K args) w)
    (hl : l.length = m) (hm : m ≤ 64) (hn : ERis n0 0 l) (hn0 : n0 ≤ 1000000000) (hs : ∀ e ∈ l, e.x.size ≤ 1000000000)
    (hA : ∀ d W, I d W → EdsAt W A l) (hI : ∀ d W W', I d W → Below W.heap.size W W' → I d W')
    (CK : ∀ d x r W, d ++ x :: r = pcs LL 0 0 (rawc 0 0 (tri l)) → I d W → Calls Try.prog K (#[.agg #[.int .i64 x.o, .int .i64 x.w, .int .i64 x.n]] ++ caps) W fun e w' => e = .returned (.tuple #[]) ∧ I (d ++ [x]) w' ∧ ∀ b cs, RawAt 54 W b cs → RawAt 54 w' b cs)
    (h0 : I [] w) :
    Calls Try.prog 34 #[.slice A m cp, .func (.func 35) #[] #[], .func (.func K) #[] caps] w fun e w' => e = .returned (.tuple #[]) ∧ I (pcs LL 0 0 (rawc 0 0 (tri l))) w' := by
  have HL := Lib.hid hl
  have HA := Lib.hid hA
  have HI := Lib.hid hI
  have HK := Lib.hid CK
  have HN := Lib.hid hn
  have HSS := Lib.hid hs
  have H0 := Lib.hid h0
  clear hl hA hI CK hn h0 hs
  go_enter Try.func34, Try.ntmps34
  go_wp2_with fail
  go_loopg [6, 7, 15] m (fun g a b i wr => ∃ (j p : Nat) (q : Int) (d : List Pc), i = .int .i64 j ∧ j ≤ m ∧ m - j ≤ g ∧ a = .int .i64 (p : Int) ∧ b = .int .i64 q ∧ p ≤ n0 ∧ 0 ≤ q ∧ q ≤ p + 1000000000 * (j : Int) ∧ Hid (I d wr) ∧ Hid (ERis n0 p (l.drop j)) ∧ Hid (d ++ pcs LL p q (rawc p q (tri (l.drop j))) = pcs LL 0 0 (rawc 0 0 (tri l))))
  case atStart => exact ⟨0, 0, 0, [], rfl, by omega, by omega, rfl, rfl, by omega, by omega, by omega, H0, Lib.hid HN.out, Lib.hid rfl⟩
  case round =>
    obtain ⟨j, p, q, d, rfl, h1, h2, rfl, rfl, p2, q1, q2, hId, hnr, hpc⟩ := hrel
    by_cases hlt : j < m
    · have hjl : j < l.length := by rw [HL.out]; exact hlt
      obtain ⟨bA, off, rfl, hbA, d0, d1, d2⟩ := (HA.out d wr hId.out).drop1 hjl
      have hst := hnr.out
      have hpc2 := hpc.out
      rw [eth_drop hjl] at hst hpc2
      rw [ERis] at hst
      have hpc3 : d ++ ((if 0 < (eth l j).f - p then [⟨(p : Int), q, (eth l j).f - p⟩] else []) ++ pcs LL (eth l j).t (q + ((eth l j).f - p) + ((dec (eth l j).x).length : Int)) (rawc (eth l j).t (q + ((eth l j).f - p) + ((dec (eth l j).x).length : Int)) (tri (l.drop (j + 1))))) = pcs LL 0 0 (rawc 0 0 (tri l)) := hpc2
      have hsx := HSS.out _ (eth_mem2 hjl)
      have hdl := dec_len (eth l j).x
      obtain ⟨a, b, e1, e2, e3, e4, e5, hn3⟩ := hst
      have HN3 := Lib.hid hn3
      have HPC := Lib.hid hpc3
      clear hn3 hpc2 hpc3 hnr hpc
      generalize eth l j = c at *
      obtain ⟨cf, ct, cx⟩ := c
      dsimp only at *
      subst e1
      subst e2
      have CC := Lib.hid fun W => edited_any ⟨a, b, cx⟩ W hsx
      have CC2 := CC.out
      dsimp only at CC2
      have CC := Lib.hid CC2
      clear CC2
      obtain ⟨cn, hcn⟩ : ∃ cn : Int, cn = ((dec cx).length : Int) := ⟨_, rfl⟩
      rw [← hcn] at CC HPC
      have i1 : (0 : Int) ≤ j := by omega
      have i2 : (j : Int) < m := by omega
      obtain ⟨n, hnn⟩ : ∃ n, n = (a : Int) - p := ⟨_, rfl⟩
      rw [← hnn] at HPC
      obtain ⟨qn, hqn⟩ : ∃ x, x = q + n := ⟨_, rfl⟩
      obtain ⟨qm, hqm⟩ : ∃ x, x = qn + cn := ⟨_, rfl⟩
      rw [← hqn, ← hqm] at HPC
      have w1 : IntKind.i64.wrap ((a : Int) - p) = n := by rw [hnn]; exact IntWalk.i64_in _ (by omega)
      have w2 : IntKind.i64.wrap (q + n) = qn := by rw [hqn]; exact IntWalk.i64_in _ (by omega)
      have w3 : IntKind.i64.wrap (qn + cn) = qm := by rw [hqm]; exact IntWalk.i64_in _ (by omega)
      have M1 : b ≤ n0 := e5
      have M2 : 0 ≤ qm := by omega
      have M3 : qm ≤ b + 1000000000 * ((j + 1 : Nat) : Int) := by omega
      have M4 : 0 < n ∨ ¬ 0 < n := by omega
      clear hnn hqn hqm hcn hsx hdl
      have x3 : Below wr.heap.size wr (wr.alloc (.cells #[.int .i64 (a : Int), .int .i64 (b : Int), .string cx] 36)) := (Below.refl _ _).alloc (Nat.le_refl _) _
      go_wp2_with fail
      refine (CC.out _).mono ?_
      rintro e w4 ⟨rfl, hb4⟩
      have x4 : Below wr.heap.size wr w4 := x3.trans (hb4.mono x3.size)
      have x5 : Below wr.heap.size wr (w4.alloc (.cells #[.int .i64 (a : Int), .int .i64 (b : Int)] 54)) := x4.alloc x4.size _
      have R5 : RawAt 54 (w4.alloc (.cells #[.int .i64 (a : Int), .int .i64 (b : Int)] 54)) w4.heap.size #[.int .i64 (a : Int), .int .i64 (b : Int)] := heap_alloc_new w4 _
      have I5 := Lib.hid (HI.out d wr _ hId.out x5)
      have r0 := RawAt.cell R5 0
      have r1 := RawAt.cell R5 1
      simp at r0 r1
      by_cases hpos : 0 < n
      · have k1 : decide (0 < n) = true := decide_eq_true hpos
        rw [if_pos hpos] at HPC
        have CK1 := Lib.hid (HK.out d ⟨(p : Int), q, n⟩ _ _ HPC.out I5.out)
        have HPC2 := Lib.hid (show (d ++ [⟨(p : Int), q, n⟩]) ++ pcs LL (b : Int) qm (rawc (b : Int) qm (tri (l.drop (j + 1)))) = pcs LL 0 0 (rawc 0 0 (tri l)) from by rw [List.append_assoc]; exact HPC.out)
        go_wp2_with fail
        refine CK1.out.mono ?_
        rintro e w6 ⟨rfl, hI6, hT6⟩
        have R6 := hT6 _ _ R5
        have r2 := RawAt.cell R6 1
        simp at r2
        have HI6 := Lib.hid hI6
        clear hT6 hI6 R5 R6 r0 r1
        go_wp2
        go_roundg (gk - 1)
        case measure => omega
        case rel => exact ⟨j + 1, b, qm, d ++ [⟨(p : Int), q, n⟩], by go_num, by omega, by omega, rfl, rfl, M1, M2, M3, HI6, HN3, HPC2⟩
      · have k1 : decide (0 < n) = false := decide_eq_false hpos
        rw [if_neg hpos, List.nil_append] at HPC
        go_wp2
        go_roundg (gk - 1)
        case measure => omega
        case rel => exact ⟨j + 1, b, qm, d, by go_num, by omega, by omega, rfl, rfl, M1, M2, M3, I5, HN3, HPC⟩
    · have hj : j = m := by omega
      have hpc2 := hpc.out
      rw [List.drop_of_length_le (by rw [HL.out]; omega)] at hpc2
      have hpc3 : d ++ [⟨(p : Int), q, LL⟩] = pcs LL 0 0 (rawc 0 0 (tri l)) := hpc2
      have CK1 := Lib.hid (HK.out d ⟨(p : Int), q, LL⟩ [] _ hpc3 hId.out)
      rw [hpc3] at CK1
      unfold LL at CK1
      go_wp2_with fail
      refine CK1.out.mono ?_
      rintro e w6 ⟨rfl, hI6, hT6⟩
      have HI6 := Lib.hid hI6
      clear hT6 hI6
      go_wp2
      exact bodyPost_end (v := .tuple #[]) (by simp [results, Try.results34, go_sem]) rfl ⟨rfl, HI6.out⟩
end Go.Proofs.Ythbhjecfiiknaaa
