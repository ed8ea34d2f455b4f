/- Histories: the document's own: what it is in memory, Push, Undo, Redo. -/
import Derived.Test.YtncbhbjhfmbbkaaHsF
import Derived.Test.YtncbhbjhfmbbkaaAppK
import Derived.Deep.RegionHeld3
namespace Go.Proofs.Ytncbhbjhfmbbkaa
open Go.RowKit
set_option linter.unusedVariables false
def en2 (p : Value × Value) : List Value := [p.1, p.2]
theorem en2_fl (s : List (Value × Value)) : sflat s = kfl en2 s := rfl
theorem rstep_info : (Try.prog.info? 71).map (fun i => (i.zero, i.size, i.bytes)) = some (some (.agg #[.slice none 0 0, .slice none 0 0]), 2, 48) := by kernel_rfl
theorem rstep_slt : SlT Try.prog 61 71 2 48 := slt_of Try.underlying61 rstep_info rfl (by kernel_rfl)
/-- A pair of slices. -/
def isSl (p : Value × Value) : Prop := ∃ A n c A' n' c', p = (.slice A n c, .slice A' n' c')
theorem one_sl {s : List (Value × Value)} (h : ∀ p ∈ s, isSl p) : ∀ u ∈ kfl en2 s, u.oneCell' = true := by
  intro u hu
  obtain ⟨p, hp, hx⟩ := List.mem_flatMap.1 hu
  obtain ⟨A, n, c, A', n', c', rfl⟩ := h p hp
  simp [en2] at hx
  rcases hx with rfl | rfl <;> rfl
/-- The document's history lies in block rb: all steps, and how many of them are done. -/
structure RfAt (B : Nat) (W : World) (rb : Nat) (s : List (Value × Value)) (N : Nat) : Prop where
  ex : ∃ v, RawAt 63 W rb #[v, .int .i64 N] ∧ W.ownsRow B 71 2 v s.length (kfl en2 s)
  le : B ≤ rb
  sl : ∀ p ∈ s, isSl p
theorem RfAt.onT {ts : List TypeId} {B rb N : Nat} {W W' : World} {s : List (Value × Value)} (h : RfAt B W rb s N) (ho : OnT ts W W') (h1 : 71 ∉ ts) (h2 : 63 ∉ ts) : RfAt B W' rb s N := by
  obtain ⟨⟨v, a1, a2⟩, h, h3⟩ := h
  exact ⟨⟨v, ho _ _ _ h2 a1, own_onT a2 ho h1⟩, h, h3⟩
theorem RfAt.below {B rb N : Nat} {W W' : World} {s : List (Value × Value)} (h : RfAt B W rb s N) (hw : Below W.heap.size W W') : RfAt B W' rb s N := h.onT (ts := []) (OnT.of hw) (by simp) (by simp)
theorem rf_put {B rb n N : Nat} {W W0 : World} {v0 v1 v : Value} {sp : List (Value × Value)} (hR : RawAt 63 W rb #[v0, v1]) (hO : W.ownsRow B 71 2 v n (kfl en2 sp)) (hn : sp.length = n) (hB : B ≤ rb) (hsl : ∀ p ∈ sp, isSl p) (hT : OnT [63, 71] W0 W) (hb0 : Below B W0 W) :
    RfAt B ((W.setCell ⟨rb, 0, none⟩ v).setCell ⟨rb, 1, none⟩ (.int .i64 N)) rb sp N ∧ OnT [63, 71] W0 ((W.setCell ⟨rb, 0, none⟩ v).setCell ⟨rb, 1, none⟩ (.int .i64 N)) ∧ Below B W0 ((W.setCell ⟨rb, 0, none⟩ v).setCell ⟨rb, 1, none⟩ (.int .i64 N)) := by
  subst hn
  have r1 := hR.set_ 0 v
  have r2 := r1.set_ 1 (.int .i64 N)
  have t1 : OnT [63] W ((W.setCell ⟨rb, 0, none⟩ v).setCell ⟨rb, 1, none⟩ (.int .i64 N)) := ((OnT.refl _ W).set hR (by simp) 0 v).set r1 (by simp) 1 _
  exact ⟨⟨⟨v, r2, own_onT hO t1 (by decide)⟩, hB, hsl⟩, hT.trans (t1.mono (by simp)), (hb0.setCell (p := ⟨rb, 0, none⟩) hB v).setCell (p := ⟨rb, 1, none⟩) hB _⟩
set_option maxHeartbeats 4000000 in
set_option maxRecDepth 100000 in
theorem rPush_any {B rb N : Nat} {w : World} {s : List (Value × Value)} (h : RfAt B w rb s N) (hN : N ≤ s.length) (hs : s.length ≤ 100) (hBw : B ≤ w.heap.size) (A A' : Option Addr) (n c n' c' : Nat) (fn : Nat) (hfn : fn = if N = 100 then 1 else 0) :
    Calls Try.prog 33 #[.pointer (some ⟨rb, 0, none⟩), .agg #[.slice A n c, .slice A' n' c']] w fun e w' => e = .returned (.tuple #[]) ∧ RfAt B w' rb ((s.drop fn).take (N - fn) ++ [(.slice A n c, .slice A' n' c')]) (N - fn + 1) ∧ OnT [63, 71] w w' ∧ Below B w w' := by
  obtain ⟨⟨v, a1, a2⟩, hle, hsl⟩ := h
  obtain ⟨AL, cL, rfl, hR, _, hcap⟩ := rows_of_own (enc := en2) (k := 2) (fun _ => rfl) (by omega) a2
  have x1 : Below w.heap.size w (w.alloc (.cells #[.slice A n c, .slice A' n' c'] 71)) := (Below.refl _ _).alloc (Nat.le_refl _) _
  have Rx := Lib.hid (show RawAt 71 (w.alloc (.cells #[.slice A n c, .slice A' n' c'] 71)) w.heap.size #[.slice A n c, .slice A' n' c'] from heap_alloc_new w _)
  have Rh := a1.below x1 a1.lt
  have HR := Lib.hid (hR.below x1)
  have e1 := RawAt.cell Rh 1
  simp at e1
  have hrb := a1.lt
  have f1 : fn ≤ N := by rw [hfn]; split <;> omega
  have hlen : ((s.drop fn).take (N - fn)).length = N - fn := by rw [List.length_take, List.length_drop]; omega
  have HLEN := Lib.hid hlen
  have HSL := Lib.hid (one_sl (s := (s.drop fn).take (N - fn)) (fun p hp => hsl p (List.mem_of_mem_drop (List.mem_of_mem_take hp))))
  have HSS := Lib.hid hsl
  have HCAP := Lib.hid hcap
  have HX1 := Lib.hid x1
  have cut := fun W : World => cutK_run (P := Try.prog) rstep_slt AL s.length cL fn N f1 (by have := hcap.1; omega) W
  have ST := rstep_slt
  have k1 : decide ((N : Int) = 100) = decide (N = 100) := by by_cases h : N = 100 <;> simp [h] <;> omega
  have k2 : ((N : Int) == 100) = decide (N = 100) := by by_cases h : N = 100 <;> simp [h] <;> omega
  clear a1 a2 hR x1 hlen hsl hcap
  have MK : Hid (∀ W : World, RawAt 63 W rb #[.slice AL s.length cL, .int .i64 N] → (fun W => W.cell? ⟨rb, 0, none⟩ = some (.slice AL s.length cL) ∧ W.cell? ⟨rb, 1, none⟩ = some (.int .i64 N)) W) := fun W h1 => ⟨RawAt.cell h1 0, RawAt.cell h1 1⟩
  go_enter Try.func33, Try.ntmps33
  by_cases hn100 : N = 100
  · skip
    have hfn' : fn = 1 := by rw [hfn]; simp [hn100]
    have k3 : decide (N = 100) = true := by simp [hn100]
    have k4 : (N == 100) = true := by simp [hn100]
    rw [k3] at k1 k2
    have HN := Lib.hid hn100
    clear hn100
    subst hfn'
    clear hfn
    go_wp2_with fail
    generalize w.alloc (.cells #[.slice A n c, .slice A' n' c'] 71) = W1 at *
    have Rh' : RawAt 63 W1.drew rb #[.slice AL s.length cL, .int .i64 N] := Rh
    have HR' : Hid (RowsAt en2 2 W1.drew AL s) := Lib.hid HR.out
    simp only [Int.natCast_one] at cut
    refine wp_region_noPanic ?_
    refine wp_region_held_drew (S := (fun W => W.cell? ⟨rb, 0, none⟩ = some (.slice AL s.length cL) ∧ W.cell? ⟨rb, 1, none⟩ = some (.int .i64 N))) (by kernel_rfl) (MK.out _ Rh) (fun hHeld => ?_)
    refine wpAnyH_take (i := 0) (v := ?_) rfl (by kernel_rfl) (by kernel_rfl) (by kernel_rfl) (fun _ _ _ h => h) (Or.inl ⟨by rfl, ?_⟩) hHeld ?_
    rotate_left
    · intro w hSw
      (try dsimp only at hSw)
      go_simp
      try with_reducible rfl
    go_simp
    refine wpAnyH_take (i := 1) (v := ?_) rfl (by kernel_rfl) (by kernel_rfl) (by kernel_rfl) (fun _ _ _ h => h) (Or.inl ⟨by rfl, ?_⟩) hHeld ?_
    rotate_left
    · intro w hSw
      (try dsimp only at hSw)
      go_simp
      try with_reducible rfl
    go_simp
    refine wpAnyH_take (i := 2) (v := ?_) rfl (by kernel_rfl) (by kernel_rfl) (by kernel_rfl) (fun _ _ _ h => h) (Or.inl ⟨by rfl, ?_⟩) hHeld ?_
    rotate_left
    · intro w hSw
      (try dsimp only at hSw)
      go_simp
      try with_reducible rfl
    go_simp
    refine wpAnyH_take (i := 3) (v := ?_) rfl (by kernel_rfl) (by kernel_rfl) (by kernel_rfl) (fun _ _ _ h => h) (Or.inl ⟨by rfl, ?_⟩) hHeld ?_
    rotate_left
    · intro w hSw
      (try dsimp only at hSw)
      go_simp
      try with_reducible rfl
    go_simp
    refine wpAnyH_take (i := 4) (v := ?_) rfl (by kernel_rfl) (by kernel_rfl) (by kernel_rfl) (fun _ _ _ h => h) (Or.inl ⟨by rfl, ?_⟩) hHeld ?_
    rotate_left
    · intro w hSw
      (try dsimp only at hSw)
      go_simp
      try with_reducible rfl
    go_simp
    refine wpAnyH_take (i := 5) (v := ?_) rfl (by kernel_rfl) (by kernel_rfl) (by kernel_rfl) (fun _ _ _ h => h) (Or.inl ⟨by rfl, ?_⟩) hHeld ?_
    rotate_left
    · intro w hSw
      (try dsimp only at hSw)
      go_simp
      try with_reducible rfl
    go_simp
    refine wpAnyH_take (i := 6) (v := ?_) rfl (by kernel_rfl) (by kernel_rfl) (by kernel_rfl) (fun _ _ _ h => h) (Or.inl ⟨by rfl, ?_⟩) hHeld ?_
    rotate_left
    · intro w hSw
      (try dsimp only at hSw)
      go_simp
      try with_reducible rfl
    go_simp
    refine wpAnyH_take (i := 7) (v := ?_) rfl (by kernel_rfl) (by kernel_rfl) (by kernel_rfl) (fun _ _ _ h => h) (Or.inl ⟨by rfl, ?_⟩) hHeld ?_
    rotate_left
    · intro w hSw
      (try dsimp only at hSw)
      go_simp
      try with_reducible rfl
    go_simp
    refine wpAnyH_take (i := 8) (v := ?_) rfl (by kernel_rfl) (by kernel_rfl) (by kernel_rfl) (fun _ _ _ h => h) (Or.inl ⟨by rfl, ?_⟩) hHeld ?_
    rotate_left
    · intro w hSw
      (try dsimp only at hSw)
      go_simp
      try with_reducible rfl
    go_simp
    refine wpAnyH_take (i := 9) (v := ?_) rfl (by kernel_rfl) (by kernel_rfl) (by kernel_rfl) (fun _ _ _ h => h) (Or.inl ⟨by rfl, ?_⟩) hHeld ?_
    rotate_left
    · intro w hSw
      (try dsimp only at hSw)
      go_simp
      try with_reducible rfl
    go_simp
    refine wpAnyH_take (i := 10) (v := ?_) rfl (by kernel_rfl) (by kernel_rfl) (by kernel_rfl) (fun _ _ _ h => h) (Or.inl ⟨by rfl, ?_⟩) hHeld ?_
    rotate_left
    · intro w hSw
      (try dsimp only at hSw)
      go_simp
      try with_reducible rfl
    go_simp
    refine wpAnyH_ready (rs := [11]) (by kernel_rfl) (by simp) ?_
    refine AllReadyH.cons rfl (fun K hK => ?_) ?_
    rotate_left
    · exact AllReadyH.nil
    have hrow := HR.out.cut (j := 1) (m := N - 1) (n := s.length) (c := cL) rfl (HCAP.out.1) (by omega)
    have hcp := cutK_caps (k := 2) (j := 1) (m := N - 1) HCAP.out (by omega)
    refine step_appK (enc := en2) ST (fun _ => rfl) (by omega) rfl (.tmp 11) (.tmp 21) rfl (base := B) (v := .slice none 0 0) (n := 0) (xs := []) (by simp [Act.eval]) (World.ownsRow_nil _ _ _ _) (cutK AL cL 2 1) (N - 1) (cL - 1) ((s.drop 1).take (N - 1)) (by simp [Act.eval]) hrow hcp HLEN.out HSL.out (by simp only [maxLen]; omega) (by omega) (Nat.le_trans hBw HX1.out.size) ?_
    intro v4 w4 hown4 hg4 hor4
    have B4 : Below w.heap.size w w4 := HX1.out.drew.grown hg4 HX1.out.size (fun k hk => by simp [Value.ownBlock] at hk)
    have Q4 : Below W1.heap.size W1 w4 := (Below.refl _ _).drew.grown hg4 (Nat.le_refl _) (fun k hk => by simp [Value.ownBlock] at hk)
    have Rh4 := RawAt.below Rh Q4 Rh.lt
    have Rx4 := RawAt.below Rx.out Q4 Rx.out.lt
    obtain ⟨A4, c4, rfl⟩ := own_form hown4
    refine hK.out _ _ (by first | (with_reducible exact MK.out _ Rh') | (with_reducible exact MK.out _ Rh4)) (fun hHeld => ?_)
    clear hK K
    go_simp
    refine wpAnyH_take (i := 12) (v := ?_) rfl (by kernel_rfl) (by kernel_rfl) (by kernel_rfl) (fun _ _ _ h => h) (Or.inl ⟨by rfl, ?_⟩) hHeld ?_
    rotate_left
    · intro w hSw
      (try dsimp only at hSw)
      go_simp
      try with_reducible rfl
    go_simp
    refine wpAnyH_done (by kernel_rfl) ?_ _
    refine NoPanic.normal ?_
    rw [Nat.zero_add] at hown4
    rw [List.nil_append] at hown4
    have HO4 := Lib.hid hown4
    have RX := Lib.hid Rx4
    have RH := Lib.hid Rh4
    have b0 := RawAt.cell Rx4 0
    have b1 := RawAt.cell Rx4 1
    simp at b0 b1
    have HB4 := Lib.hid B4
    have e5 : Below w4.heap.size w4 (w4.alloc (.cells #[.slice A n c, .slice A' n' c'] 71)) := (Below.refl _ _).alloc (Nat.le_refl _) _
    have Rn : RawAt 71 (w4.alloc (.cells #[.slice A n c, .slice A' n' c'] 71)) w4.heap.size #[.slice A n c, .slice A' n' c'] := heap_alloc_new w4 _
    have RN := Lib.hid (rows_of_block (enc := en2) (k := 2) (fun _ => rfl) Rn (l := [(.slice A n c, .slice A' n' c')]) rfl)
    have HO5 := Lib.hid (own_below HO4.out e5)
    have RH5 := Lib.hid (RawAt.below RH.out e5 RH.out.lt)
    have HE5 := Lib.hid e5
    have hlt4 := hown4.lt
    clear hown4 hg4 hor4 Rh4 Rx4 B4 Q4 hHeld cut MK Rh Rh' HR' e1 hrow hcp e5 Rn
    go_wp2_with (at_builtin; refine wpList_appK (enc := en2) ST (fun _ => rfl) (by omega) rfl (.tmp 23) (.tmp 25) rfl (base := B) rfl HO5.out _ 1 1 [(.slice A n c, .slice A' n' c')] rfl RN.out ⟨Nat.le_refl _, fun h => by cases h⟩ rfl (by simp [kfl, en2, Value.oneCell']) (by simp only [maxLen]; omega) (by omega) (Nat.le_trans hBw (Nat.le_trans HB4.out.size HE5.out.size)) ?_; intro v6 w6 hown6 hg6 hor6; obtain ⟨A6, c6, rfl⟩ := own_form hown6; have Q6 : Below B w w6 := ((HB4.out.mono hBw).trans (HE5.out.mono (Nat.le_trans hBw HB4.out.size))).grown hg6 (Nat.le_trans hBw (Nat.le_trans HB4.out.size HE5.out.size)) (fun k hk => (hlt4 k hk).1); have T6 := ((OnT.of HB4.out).trans (OnT.of HE5.out)).trans (OnT.grown (ts := [63, 71]) HO5.out hg6 (by simp)); have R6 := (OnT.grown (ts := [71]) HO5.out hg6 (by simp)) _ _ _ (by decide) RH5.out; have g0 := RawAt.free R6 0; have g1 := RawAt.free R6 1; have h0 := RawAt.cell R6 0; have h1 := RawAt.cell R6 1; simp at h0 h1)
    go_end0
    have eN : N - 1 + 1 = N := by omega
    rw [eN] at hown6
    rw [eN]
    have hp := rf_put (N := N) (sp := (s.drop 1).take (N - 1) ++ [(.slice A n c, .slice A' n' c')]) R6 (by rw [kfl_append]; exact hown6) (by rw [List.length_append, HLEN.out]; exact eN) hle (fun p hp => (List.mem_append.1 hp).elim (fun h => HSS.out p (List.mem_of_mem_drop (List.mem_of_mem_take h))) (fun h => by obtain rfl := List.mem_singleton.1 h; exact ⟨_, _, _, _, _, _, rfl⟩)) T6 Q6
    (try simp only [Int.natCast_add, Int.natCast_one] at hp)
    exact ⟨rfl, hp⟩
  · skip
    have hfn' : fn = 0 := by rw [hfn]; simp [hn100]
    have k3 : decide (N = 100) = false := by simp [hn100]
    have k4 : (N == 100) = false := by simp [hn100]
    rw [k3] at k1 k2
    have HN := Lib.hid hn100
    clear hn100
    subst hfn'
    clear hfn
    go_wp2_with fail
    generalize w.alloc (.cells #[.slice A n c, .slice A' n' c'] 71) = W1 at *
    have Rh' : RawAt 63 W1.drew rb #[.slice AL s.length cL, .int .i64 N] := Rh
    have HR' : Hid (RowsAt en2 2 W1.drew AL s) := Lib.hid HR.out
    simp only [Int.natCast_zero] at cut
    refine wp_region_noPanic ?_
    refine wp_region_held_drew (S := (fun W => W.cell? ⟨rb, 0, none⟩ = some (.slice AL s.length cL) ∧ W.cell? ⟨rb, 1, none⟩ = some (.int .i64 N))) (by kernel_rfl) (MK.out _ Rh) (fun hHeld => ?_)
    refine wpAnyH_take (i := 0) (v := ?_) rfl (by kernel_rfl) (by kernel_rfl) (by kernel_rfl) (fun _ _ _ h => h) (Or.inl ⟨by rfl, ?_⟩) hHeld ?_
    rotate_left
    · intro w hSw
      (try dsimp only at hSw)
      go_simp
      try with_reducible rfl
    go_simp
    refine wpAnyH_take (i := 1) (v := ?_) rfl (by kernel_rfl) (by kernel_rfl) (by kernel_rfl) (fun _ _ _ h => h) (Or.inl ⟨by rfl, ?_⟩) hHeld ?_
    rotate_left
    · intro w hSw
      (try dsimp only at hSw)
      go_simp
      try with_reducible rfl
    go_simp
    refine wpAnyH_take (i := 2) (v := ?_) rfl (by kernel_rfl) (by kernel_rfl) (by kernel_rfl) (fun _ _ _ h => h) (Or.inl ⟨by rfl, ?_⟩) hHeld ?_
    rotate_left
    · intro w hSw
      (try dsimp only at hSw)
      go_simp
      try with_reducible rfl
    go_simp
    refine wpAnyH_take (i := 3) (v := ?_) rfl (by kernel_rfl) (by kernel_rfl) (by kernel_rfl) (fun _ _ _ h => h) (Or.inl ⟨by rfl, ?_⟩) hHeld ?_
    rotate_left
    · intro w hSw
      (try dsimp only at hSw)
      go_simp
      try with_reducible rfl
    go_simp
    refine wpAnyH_take (i := 4) (v := ?_) rfl (by kernel_rfl) (by kernel_rfl) (by kernel_rfl) (fun _ _ _ h => h) (Or.inl ⟨by rfl, ?_⟩) hHeld ?_
    rotate_left
    · intro w hSw
      (try dsimp only at hSw)
      go_simp
      try with_reducible rfl
    go_simp
    refine wpAnyH_take (i := 5) (v := ?_) rfl (by kernel_rfl) (by kernel_rfl) (by kernel_rfl) (fun _ _ _ h => h) (Or.inl ⟨by rfl, ?_⟩) hHeld ?_
    rotate_left
    · intro w hSw
      (try dsimp only at hSw)
      go_simp
      try with_reducible rfl
    go_simp
    refine wpAnyH_take (i := 6) (v := ?_) rfl (by kernel_rfl) (by kernel_rfl) (by kernel_rfl) (fun _ _ _ h => h) (Or.inl ⟨by rfl, ?_⟩) hHeld ?_
    rotate_left
    · intro w hSw
      (try dsimp only at hSw)
      go_simp
      try with_reducible rfl
    go_simp
    refine wpAnyH_take (i := 7) (v := ?_) rfl (by kernel_rfl) (by kernel_rfl) (by kernel_rfl) (fun _ _ _ h => h) (Or.inl ⟨by rfl, ?_⟩) hHeld ?_
    rotate_left
    · intro w hSw
      (try dsimp only at hSw)
      go_simp
      try with_reducible rfl
    go_simp
    refine wpAnyH_take (i := 8) (v := ?_) rfl (by kernel_rfl) (by kernel_rfl) (by kernel_rfl) (fun _ _ _ h => h) (Or.inl ⟨by rfl, ?_⟩) hHeld ?_
    rotate_left
    · intro w hSw
      (try dsimp only at hSw)
      go_simp
      try with_reducible rfl
    go_simp
    refine wpAnyH_take (i := 9) (v := ?_) rfl (by kernel_rfl) (by kernel_rfl) (by kernel_rfl) (fun _ _ _ h => h) (Or.inl ⟨by rfl, ?_⟩) hHeld ?_
    rotate_left
    · intro w hSw
      (try dsimp only at hSw)
      go_simp
      try with_reducible rfl
    go_simp
    refine wpAnyH_take (i := 10) (v := ?_) rfl (by kernel_rfl) (by kernel_rfl) (by kernel_rfl) (fun _ _ _ h => h) (Or.inl ⟨by rfl, ?_⟩) hHeld ?_
    rotate_left
    · intro w hSw
      (try dsimp only at hSw)
      go_simp
      try with_reducible rfl
    go_simp
    refine wpAnyH_ready (rs := [11]) (by kernel_rfl) (by simp) ?_
    refine AllReadyH.cons rfl (fun K hK => ?_) ?_
    rotate_left
    · exact AllReadyH.nil
    have hrow := HR.out.cut (j := 0) (m := N - 0) (n := s.length) (c := cL) rfl (HCAP.out.1) (by omega)
    have hcp := cutK_caps (k := 2) (j := 0) (m := N - 0) HCAP.out (by omega)
    refine step_appK (enc := en2) ST (fun _ => rfl) (by omega) rfl (.tmp 11) (.tmp 21) rfl (base := B) (v := .slice none 0 0) (n := 0) (xs := []) (by simp [Act.eval]) (World.ownsRow_nil _ _ _ _) (cutK AL cL 2 0) (N - 0) (cL - 0) ((s.drop 0).take (N - 0)) (by simp [Act.eval]) hrow hcp HLEN.out HSL.out (by simp only [maxLen]; omega) (by omega) (Nat.le_trans hBw HX1.out.size) ?_
    intro v4 w4 hown4 hg4 hor4
    have B4 : Below w.heap.size w w4 := HX1.out.drew.grown hg4 HX1.out.size (fun k hk => by simp [Value.ownBlock] at hk)
    have Q4 : Below W1.heap.size W1 w4 := (Below.refl _ _).drew.grown hg4 (Nat.le_refl _) (fun k hk => by simp [Value.ownBlock] at hk)
    have Rh4 := RawAt.below Rh Q4 Rh.lt
    have Rx4 := RawAt.below Rx.out Q4 Rx.out.lt
    obtain ⟨A4, c4, rfl⟩ := own_form hown4
    refine hK.out _ _ (by first | (with_reducible exact MK.out _ Rh') | (with_reducible exact MK.out _ Rh4)) (fun hHeld => ?_)
    clear hK K
    go_simp
    refine wpAnyH_take (i := 12) (v := ?_) rfl (by kernel_rfl) (by kernel_rfl) (by kernel_rfl) (fun _ _ _ h => h) (Or.inl ⟨by rfl, ?_⟩) hHeld ?_
    rotate_left
    · intro w hSw
      (try dsimp only at hSw)
      go_simp
      try with_reducible rfl
    go_simp
    refine wpAnyH_done (by kernel_rfl) ?_ _
    refine NoPanic.normal ?_
    rw [Nat.zero_add] at hown4
    rw [List.nil_append] at hown4
    have HO4 := Lib.hid hown4
    have RX := Lib.hid Rx4
    have RH := Lib.hid Rh4
    have b0 := RawAt.cell Rx4 0
    have b1 := RawAt.cell Rx4 1
    simp at b0 b1
    have HB4 := Lib.hid B4
    have e5 : Below w4.heap.size w4 (w4.alloc (.cells #[.slice A n c, .slice A' n' c'] 71)) := (Below.refl _ _).alloc (Nat.le_refl _) _
    have Rn : RawAt 71 (w4.alloc (.cells #[.slice A n c, .slice A' n' c'] 71)) w4.heap.size #[.slice A n c, .slice A' n' c'] := heap_alloc_new w4 _
    have RN := Lib.hid (rows_of_block (enc := en2) (k := 2) (fun _ => rfl) Rn (l := [(.slice A n c, .slice A' n' c')]) rfl)
    have HO5 := Lib.hid (own_below HO4.out e5)
    have RH5 := Lib.hid (RawAt.below RH.out e5 RH.out.lt)
    have HE5 := Lib.hid e5
    have hlt4 := hown4.lt
    clear hown4 hg4 hor4 Rh4 Rx4 B4 Q4 hHeld cut MK Rh Rh' HR' e1 hrow hcp e5 Rn
    go_wp2_with (at_builtin; refine wpList_appK (enc := en2) ST (fun _ => rfl) (by omega) rfl (.tmp 23) (.tmp 25) rfl (base := B) rfl HO5.out _ 1 1 [(.slice A n c, .slice A' n' c')] rfl RN.out ⟨Nat.le_refl _, fun h => by cases h⟩ rfl (by simp [kfl, en2, Value.oneCell']) (by simp only [maxLen]; omega) (by omega) (Nat.le_trans hBw (Nat.le_trans HB4.out.size HE5.out.size)) ?_; intro v6 w6 hown6 hg6 hor6; obtain ⟨A6, c6, rfl⟩ := own_form hown6; have Q6 : Below B w w6 := ((HB4.out.mono hBw).trans (HE5.out.mono (Nat.le_trans hBw HB4.out.size))).grown hg6 (Nat.le_trans hBw (Nat.le_trans HB4.out.size HE5.out.size)) (fun k hk => (hlt4 k hk).1); have T6 := ((OnT.of HB4.out).trans (OnT.of HE5.out)).trans (OnT.grown (ts := [63, 71]) HO5.out hg6 (by simp)); have R6 := (OnT.grown (ts := [71]) HO5.out hg6 (by simp)) _ _ _ (by decide) RH5.out; have g0 := RawAt.free R6 0; have g1 := RawAt.free R6 1; have h0 := RawAt.cell R6 0; have h1 := RawAt.cell R6 1; simp at h0 h1)
    go_end0
    have eN : N - 0 + 1 = N + 1 := by omega
    rw [eN] at hown6
    rw [eN]
    have hp := rf_put (N := N + 1) (sp := (s.drop 0).take (N - 0) ++ [(.slice A n c, .slice A' n' c')]) R6 (by rw [kfl_append]; exact hown6) (by rw [List.length_append, HLEN.out]; exact eN) hle (fun p hp => (List.mem_append.1 hp).elim (fun h => HSS.out p (List.mem_of_mem_drop (List.mem_of_mem_take h))) (fun h => by obtain rfl := List.mem_singleton.1 h; exact ⟨_, _, _, _, _, _, rfl⟩)) T6 Q6
    (try simp only [Int.natCast_add, Int.natCast_one] at hp)
    exact ⟨rfl, hp⟩
set_option maxHeartbeats 4000000 in
set_option maxRecDepth 100000 in
theorem rUndo_none {B rb N : Nat} {w : World} {s : List (Value × Value)} (h : RfAt B w rb s N) (hN : N = 0) : Calls Try.prog 35 #[.pointer (some ⟨rb, 0, none⟩)] w fun e w' => e = .returned (.tuple #[.slice none 0 0, .int .i64 6]) ∧ Below w.heap.size w w' := by
  obtain ⟨⟨v, a1, a2⟩, hle, hsl⟩ := h
  obtain ⟨AL, cL, rfl⟩ := own_form a2
  subst hN
  have e0 := RawAt.cell a1 0
  have e1 := RawAt.cell a1 1
  simp at e0 e1
  clear a1 a2 hsl
  generalize s.length = n at *
  go_enter Try.func35, Try.ntmps35
  go_wp2_with fail
  refine bodyPost_ret (v := .tuple #[.slice none 0 0, .int .i64 6]) (by simp [results, Try.results35, go_sem]) rfl ⟨rfl, ?_⟩
  exact (Below.refl _ _)
set_option maxHeartbeats 4000000 in
set_option maxRecDepth 100000 in
theorem rUndo_any {B rb N m : Nat} {w : World} {s : List (Value × Value)} {A A' : Option Addr} {n c n' c' : Nat} (h : RfAt B w rb s N) (hs : s.length ≤ 100) (hBw : B ≤ w.heap.size) (hN : N = m + 1) (hm : s[m]? = some (.slice A n c, .slice A' n' c')) :
    Calls Try.prog 35 #[.pointer (some ⟨rb, 0, none⟩)] w fun e w' => e = .returned (.tuple #[.slice A n c, .int .i64 0]) ∧ RfAt B w' rb s (m) ∧ OnT [63, 71] w w' ∧ Below B w w' := by
  obtain ⟨⟨v, a1, a2⟩, hle, hsl⟩ := h
  subst hN
  have hml : m < s.length := (List.getElem?_eq_some_iff.1 hm).1
  obtain ⟨g, cL, rfl⟩ := own_slice a2 (by omega)
  have r1 := a1.set_ 1 (.int .i64 ((m : Nat) : Int))
  have t1 : OnT [63] w (w.setCell ⟨rb, 1, none⟩ (.int .i64 ((m : Nat) : Int))) := (OnT.refl _ w).set a1 (by simp) 1 _
  have o1 := own_onT a2 t1 (by decide)
  have e0 := RawAt.cell a1 1
  have f0 := RawAt.free a1 1
  have e1 := RawAt.cell r1 0
  have e2 := RawAt.cell r1 1
  have k0 := o1.cellAt (m * 2) (by omega)
  have k1 := o1.cellAt (m * 2 + 1) (by omega)
  have hg : s[m] = (.slice A n c, .slice A' n' c') := by have := (List.getElem?_eq_some_iff.1 hm).2; exact this
  have z0 := kfl_at (enc := en2) (k := 2) (fun _ => rfl) s m hml 0 (by omega)
  have z1 := kfl_at (enc := en2) (k := 2) (fun _ => rfl) s m hml 1 (by omega)
  rw [hg] at z0 z1
  rw [Nat.add_zero] at z0
  rw [z0] at k0
  rw [z1] at k1
  simp [en2] at e0 e1 e2 k0 k1
  have HP := Lib.hid (show RfAt B (w.setCell ⟨rb, 1, none⟩ (.int .i64 ((m : Nat) : Int))) rb s (m) ∧ OnT [63, 71] w (w.setCell ⟨rb, 1, none⟩ (.int .i64 ((m : Nat) : Int))) ∧ Below B w (w.setCell ⟨rb, 1, none⟩ (.int .i64 ((m : Nat) : Int))) from ⟨⟨⟨_, r1, o1⟩, hle, hsl⟩, t1.mono (by simp), (Below.refl _ _).setCell (p := ⟨rb, 1, none⟩) hle _⟩)
  have hmm : m ≤ 100 := by omega
  have hml2 : (m : Int) < (s.length : Int) := by omega
  have hnl : s.length ≤ 100 := hs
  have n1 : IntKind.i64.wrap ((m : Int) + 1 - 1) = (m : Int) := by rw [show (m : Int) + 1 - 1 = m by omega]; exact IntWalk.i64_in _ (by omega)
  have n2 : (m : Int) + 1 - 1 = (m : Int) := by omega
  have n3 : decide ((m : Int) + 1 = 0) = false := decide_eq_false (by omega)
  clear r1 t1 o1 a1 a2 hsl z0 z1 hg hm
  (try simp only [Int.natCast_add, Int.natCast_one] at *)
  generalize s.length = ln at *
  go_enter Try.func35, Try.ntmps35
  go_wp2_with fail
  go_region
  go_wp2
  refine bodyPost_ret (v := .tuple #[.slice A n c, .int .i64 0]) (by simp [results, Try.results35, go_sem]) rfl ⟨rfl, RfAt.below HP.out.1 (Below.refl _ _).drew, HP.out.2.1.drew, HP.out.2.2.drew⟩
set_option maxHeartbeats 4000000 in
set_option maxRecDepth 100000 in
theorem rRedo_none {B rb N : Nat} {w : World} {s : List (Value × Value)} (h : RfAt B w rb s N) (hN : N = s.length) : Calls Try.prog 38 #[.pointer (some ⟨rb, 0, none⟩)] w fun e w' => e = .returned (.tuple #[.slice none 0 0, .int .i64 6]) ∧ Below w.heap.size w w' := by
  obtain ⟨⟨v, a1, a2⟩, hle, hsl⟩ := h
  obtain ⟨AL, cL, rfl⟩ := own_form a2
  subst hN
  have e0 := RawAt.cell a1 0
  have e1 := RawAt.cell a1 1
  simp at e0 e1
  clear a1 a2 hsl
  generalize s.length = n at *
  go_enter Try.func38, Try.ntmps38
  go_wp2_with fail
  go_region
  go_wp2
  refine bodyPost_ret (v := .tuple #[.slice none 0 0, .int .i64 6]) (by simp [results, Try.results38, go_sem]) rfl ⟨rfl, ?_⟩
  exact (Below.refl _ _).drew
set_option maxHeartbeats 4000000 in
set_option maxRecDepth 100000 in
theorem rRedo_any {B rb m : Nat} {w : World} {s : List (Value × Value)} {A A' : Option Addr} {n c n' c' : Nat} (h : RfAt B w rb s m) (hs : s.length ≤ 100) (hBw : B ≤ w.heap.size) (hm : s[m]? = some (.slice A n c, .slice A' n' c')) :
    Calls Try.prog 38 #[.pointer (some ⟨rb, 0, none⟩)] w fun e w' => e = .returned (.tuple #[.slice A' n' c', .int .i64 0]) ∧ RfAt B w' rb s (m + 1) ∧ OnT [63, 71] w w' ∧ Below B w w' := by
  obtain ⟨⟨v, a1, a2⟩, hle, hsl⟩ := h
  have hml : m < s.length := (List.getElem?_eq_some_iff.1 hm).1
  obtain ⟨g, cL, rfl⟩ := own_slice a2 (by omega)
  have e0' := RawAt.cell a1 0
  have e1' := RawAt.cell a1 1
  simp at e0' e1'
  have hg : s[m] = (.slice A n c, .slice A' n' c') := by have := (List.getElem?_eq_some_iff.1 hm).2; exact this
  have z0 := kfl_at (enc := en2) (k := 2) (fun _ => rfl) s m hml 0 (by omega)
  have z1 := kfl_at (enc := en2) (k := 2) (fun _ => rfl) s m hml 1 (by omega)
  rw [hg] at z0 z1
  rw [Nat.add_zero] at z0
  have Z0 := Lib.hid z0
  have Z1 := Lib.hid z1
  clear z0 z1 hg
  have HA1 := Lib.hid a1
  have HA2 := Lib.hid a2
  have HSL := Lib.hid hsl
  have HM := Lib.hid hm
  have HML := Lib.hid hml
  clear a1 a2 hsl hm
  have hmm : m ≤ 100 := by omega
  have hml2 : (m : Int) < (s.length : Int) := by omega
  have hnl : s.length ≤ 100 := hs
  have n1 : IntKind.i64.wrap ((m : Int) + 1) = (m : Int) + 1 := IntWalk.i64_in _ (by omega)
  have n2 : (m : Int) + 1 - 1 = (m : Int) := by omega
  have n4 : IntKind.i64.wrap (m : Int) = (m : Int) := IntWalk.i64_in _ (by omega)
  have n3 : decide ((m : Int) = (s.length : Int)) = false := decide_eq_false (by omega)
  have n5 : ((m : Int) == (s.length : Int)) = false := by simp; omega
  go_enter Try.func38, Try.ntmps38
  go_wp2_with fail
  go_region
  have hwd0 : Below w.heap.size w w.drew := (Below.refl _ _).drew
  have a1 : RawAt 63 w.drew rb _ := HA1.out
  have a2 := own_below HA2.out hwd0
  have hsl := HSL.out
  have hm := HM.out
  clear e0' e1'
  generalize w.drew = wd at *
  have r1 := a1.set_ 1 (.int .i64 ((m + 1 : Nat) : Int))
  have t1 : OnT [63] wd (wd.setCell ⟨rb, 1, none⟩ (.int .i64 ((m + 1 : Nat) : Int))) := (OnT.refl _ wd).set a1 (by simp) 1 _
  have o1 := own_onT a2 t1 (by decide)
  have e0 := RawAt.cell a1 1
  have f0 := RawAt.free a1 1
  have e1 := RawAt.cell r1 0
  have e2 := RawAt.cell r1 1
  have k0 := o1.cellAt (m * 2) (by omega)
  have k1 := o1.cellAt (m * 2 + 1) (by omega)
  rw [Z0.out] at k0
  rw [Z1.out] at k1
  simp [en2] at e0 e1 e2 k0 k1
  have HP := Lib.hid (show RfAt B (wd.setCell ⟨rb, 1, none⟩ (.int .i64 ((m + 1 : Nat) : Int))) rb s (m + 1) ∧ OnT [63, 71] w (wd.setCell ⟨rb, 1, none⟩ (.int .i64 ((m + 1 : Nat) : Int))) ∧ Below B w (wd.setCell ⟨rb, 1, none⟩ (.int .i64 ((m + 1 : Nat) : Int))) from ⟨⟨⟨_, r1, o1⟩, hle, hsl⟩, (OnT.of hwd0).trans (t1.mono (by simp)), (hwd0.mono hBw).setCell (p := ⟨rb, 1, none⟩) hle _⟩)
  clear r1 t1 o1 a1 a2 hsl hm
  go_wp2_with fail
  go_region
  go_wp2
  refine bodyPost_ret (v := .tuple #[.slice A' n' c', .int .i64 0]) (by simp [results, Try.results38, go_sem]) rfl ⟨rfl, RfAt.below HP.out.1 (Below.refl _ _).drew, HP.out.2.1.drew, HP.out.2.2.drew⟩
end Go.Proofs.Ytncbhbjhfmbbkaa
