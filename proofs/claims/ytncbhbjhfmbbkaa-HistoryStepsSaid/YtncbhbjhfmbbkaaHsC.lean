/- Histories: the contract of Push. -/
import Derived.Test.YtncbhbjhfmbbkaaHsB
import Derived.Deep.AppendLies
namespace Go.Proofs.Ytncbhbjhfmbbkaa
open Go.RowKit
set_option linter.unusedVariables false
/-- One step more, and the eldest one less where there would be more than 100. -/
def hpush (d : List S2) (y : S2) : List S2 := if d.length < 100 then d ++ [y] else (d ++ [y]).drop 1
theorem sflat_one {W : World} : ∀ {s : List (Value × Value)} {x : List S2}, StsAt W s x → ∀ u ∈ sflat s, u.oneCell' = true
  | [], _, _, u, h => absurd h List.not_mem_nil
  | p :: s, [], h, _, _ => h.elim
  | p :: s, y :: x, h, u, hu => by
    rcases List.mem_append.1 (show u ∈ [p.1, p.2] ++ sflat s from hu) with hu | hu
    · obtain ⟨A, c, e1⟩ := own_form h.1.1
      obtain ⟨A', c', e2⟩ := own_form h.1.2
      rcases List.mem_cons.1 hu with rfl | hu
      · rw [e1]; rfl
      · obtain rfl := List.mem_singleton.1 hu
        rw [e2]; rfl
    · exact sflat_one h.2 u hu
theorem OnB.onT {g : Nat} {w w' : World} {t : TypeId} {cs : Array Value} {ts : List TypeId} (h : OnB g w w') (hr : RawAt t w g cs) (ht : t ∈ ts) : OnT ts w w' := by
  intro b t' cs' hn hr'
  refine h.raw hr' ?_
  rintro rfl
  unfold RawAt at hr hr'
  rw [hr] at hr'
  injection hr' with h2
  injection h2 with _ h3
  exact hn (h3 ▸ ht)
theorem hist_put {B hb n : Nat} {W W0 : World} {v0 v1 v : Value} {sp : List (Value × Value)} {d : List S2} (hR : RawAt 131 W hb #[v0, v1]) (hO : W.ownsRow B 69 2 v n (sflat sp)) (hn : sp.length = n) (hS : StsAt W sp d) (hB : B ≤ hb) (hT : OnT [69, 131] W0 W) (hb0 : Below B W0 W) :
    HAt B ((W.setCell ⟨hb, 0, none⟩ v).setCell ⟨hb, 1, none⟩ (.slice none 0 0)) hb d [] ∧ OnT [69, 131] W0 ((W.setCell ⟨hb, 0, none⟩ v).setCell ⟨hb, 1, none⟩ (.slice none 0 0)) ∧ Below B W0 ((W.setCell ⟨hb, 0, none⟩ v).setCell ⟨hb, 1, none⟩ (.slice none 0 0)) := by
  subst hn
  have r1 := hR.set_ 0 v
  have r2 := r1.set_ 1 (.slice none 0 0)
  have t1 : OnT [131] W ((W.setCell ⟨hb, 0, none⟩ v).setCell ⟨hb, 1, none⟩ (.slice none 0 0)) := ((OnT.refl _ W).set hR (by simp) 0 v).set r1 (by simp) 1 _
  refine ⟨⟨⟨v, .slice none 0 0, sp, [], r2, own_onT hO t1 (by decide), World.ownsRow_nil _ _ _ _, fun g hg => by simp [Value.ownBlock], hS.onT t1 (by decide), trivial⟩, hB⟩, hT.trans (t1.mono (by simp)), (hb0.setCell (p := ⟨hb, 0, none⟩) hB v).setCell (p := ⟨hb, 1, none⟩) hB _⟩
set_option maxHeartbeats 4000000 in
set_option maxRecDepth 100000 in
theorem hPush_any {B hb : Nat} {w : World} {d u : List S2} (h : HAt B w hb d u) (hBw : B ≤ w.heap.size) (hd : d.length ≤ 100) (A A' : Option Addr) (n c n' c' : Nat) (y : S2) (hA : EdsAt w A y.b) (hl : y.b.length = n) (hn : n ≤ 1000000) (hA' : EdsAt w A' y.f) (hl' : y.f.length = n') (hn' : n' ≤ 1000000) :
    Calls Try.prog 32 #[.pointer (some ⟨hb, 0, none⟩), .agg #[.slice A n c, .slice A' n' c']] w fun e w' => e = .returned (.int .i64 0) ∧ HAt B w' hb (hpush d y) [] ∧ OnT [69, 131] w w' ∧ Below B w w' := by
  have hle := h.le
  obtain ⟨⟨v0, v1, s0, s1, a1, a2, a3, a4, a5, a6⟩, _⟩ := h
  have HSL := Lib.hid a5.len
  have x1 : Below w.heap.size w (w.alloc (.cells #[.slice A n c, .slice A' n' c'] 69)) := (Below.refl _ _).alloc (Nat.le_refl _) _
  have Rx : RawAt 69 (w.alloc (.cells #[.slice A n c, .slice A' n' c'] 69)) w.heap.size #[.slice A n c, .slice A' n' c'] := heap_alloc_new w _
  have Rh := a1.below x1 a1.lt
  have HO := Lib.hid (own_below a2 x1)
  have HS := Lib.hid (a5.onT (OnT.of x1 (ts := [])) (by simp))
  have CB := Lib.hid fun (W : World) (hW : Below w.heap.size w W) => cloneE_any A n c y.b W (hA.below hW) hl hn
  have CF := Lib.hid fun (W : World) (hW : Below w.heap.size w W) => cloneE_any A' n' c' y.f W (hA'.below hW) hl' hn'
  have hlt := a2.lt
  have hs100 : s0.length ≤ 100 := by have := HSL.out; omega
  have hhb := a1.lt
  obtain ⟨A0, c0, rfl⟩ := own_form a2
  obtain ⟨i0, hi0, hz0, hz1, hz2⟩ := info_parts step_infoH
  have MK : Hid (∀ W : World, RawAt 131 W hb #[.slice A0 s0.length c0, v1] → RawAt 69 W w.heap.size #[.slice A n c, .slice A' n' c'] → (fun W => W.cell? ⟨hb, 0, none⟩ = some (.slice A0 s0.length c0) ∧ W.cell? ⟨w.heap.size, 0, none⟩ = some (.slice A n c) ∧ W.cell? ⟨w.heap.size, 1, none⟩ = some (.slice A' n' c')) W) := fun W h1 h2 => ⟨RawAt.cell h1 0, RawAt.cell h2 0, RawAt.cell h2 1⟩
  have HLN := Lib.hid hl
  have HLN' := Lib.hid hl'
  clear a1 a2 a3 a4 a5 a6 hA hA' hl hl'
  go_enter Try.func32, Try.ntmps32
  go_wp2_with fail
  generalize w.alloc (.cells #[.slice A n c, .slice A' n' c'] 69) = W1 at *
  have hW2 : Below W1.heap.size W1 W1.drew := (Below.refl _ _).drew
  have Rh : RawAt 131 W1.drew hb #[.slice A0 s0.length c0, v1] := Rh
  have Rx : RawAt 69 W1.drew w.heap.size #[.slice A n c, .slice A' n' c'] := Rx
  refine wp_region_noPanic ?_
  refine wp_region_held_drew (S := (fun W => W.cell? ⟨hb, 0, none⟩ = some (.slice A0 s0.length c0) ∧ W.cell? ⟨w.heap.size, 0, none⟩ = some (.slice A n c) ∧ W.cell? ⟨w.heap.size, 1, none⟩ = some (.slice A' n' c'))) (by kernel_rfl) (MK.out _ Rh Rx) (fun hHeld => ?_)
  refine wpAnyH_take (i := 0) (v := ?_) rfl (by kernel_rfl) (by kernel_rfl) (by kernel_rfl) (fun _ _ _ h => h) (Or.inl ⟨by rfl, ?_⟩) hHeld ?_
  rotate_left
  · intro w hSw
    (try dsimp only at hSw)
    go_simp
    try with_reducible rfl
  go_simp
  refine wpAnyH_take (i := 1) (v := ?_) rfl (by kernel_rfl) (by kernel_rfl) (by kernel_rfl) (fun _ _ _ h => h) (Or.inl ⟨by rfl, ?_⟩) hHeld ?_
  rotate_left
  · intro w hSw
    (try dsimp only at hSw)
    go_simp
    try with_reducible rfl
  go_simp
  refine wpAnyH_take (i := 2) (v := ?_) rfl (by kernel_rfl) (by kernel_rfl) (by kernel_rfl) (fun _ _ _ h => h) (Or.inl ⟨by rfl, ?_⟩) hHeld ?_
  rotate_left
  · intro w hSw
    (try dsimp only at hSw)
    go_simp
    try with_reducible rfl
  go_simp
  refine wpAnyH_take (i := 3) (v := ?_) rfl (by kernel_rfl) (by kernel_rfl) (by kernel_rfl) (fun _ _ _ h => h) (Or.inl ⟨by rfl, ?_⟩) hHeld ?_
  rotate_left
  · intro w hSw
    (try dsimp only at hSw)
    go_simp
    try with_reducible rfl
  go_simp
  refine wpAnyH_take (i := 4) (v := ?_) rfl (by kernel_rfl) (by kernel_rfl) (by kernel_rfl) (fun _ _ _ h => h) (Or.inl ⟨by rfl, ?_⟩) hHeld ?_
  rotate_left
  · intro w hSw
    (try dsimp only at hSw)
    go_simp
    try with_reducible rfl
  go_simp
  refine wpAnyH_take (i := 5) (v := ?_) rfl (by kernel_rfl) (by kernel_rfl) (by kernel_rfl) (fun _ _ _ h => h) (Or.inl ⟨by rfl, ?_⟩) hHeld ?_
  rotate_left
  · intro w hSw
    (try dsimp only at hSw)
    go_simp
    try with_reducible rfl
  go_simp
  refine wpAnyH_take (i := 6) (v := ?_) rfl (by kernel_rfl) (by kernel_rfl) (by kernel_rfl) (fun _ _ _ h => h) (Or.inl ⟨by rfl, ?_⟩) hHeld ?_
  rotate_left
  · intro w hSw
    (try dsimp only at hSw)
    go_simp
    try with_reducible rfl
  go_simp
  refine wpAnyH_take (i := 8) (v := ?_) rfl (by kernel_rfl) (by kernel_rfl) (by kernel_rfl) (fun _ _ _ h => h) (Or.inl ⟨by rfl, ?_⟩) hHeld ?_
  rotate_left
  · intro w hSw
    (try dsimp only at hSw)
    go_simp
    try with_reducible rfl
  go_simp
  refine wpAnyH_take (i := 9) (v := ?_) rfl (by kernel_rfl) (by kernel_rfl) (by kernel_rfl) (fun _ _ _ h => h) (Or.inl ⟨by rfl, ?_⟩) hHeld ?_
  rotate_left
  · intro w hSw
    (try dsimp only at hSw)
    go_simp
    try with_reducible rfl
  go_simp
  refine wpAnyH_ready (rs := [7]) (by kernel_rfl) (by simp) ?_
  refine AllReadyH.cons rfl (fun K hK => ?_) ?_
  rotate_left
  · exact AllReadyH.nil
  go_simp
  go_wp2_with (first | (go_at_call 66; ((with_reducible refine (CB.out _ (x1.trans (hW2.mono x1.size))).mono ?_); rintro e w8 ⟨vb, rfl, hob, hb8⟩; obtain ⟨Ab, cb, rfl⟩ := own_form hob); have Rh := RawAt.below Rh hb8 Rh.lt; have Rx := RawAt.below Rx hb8 Rx.lt; have hW2 := hW2.trans (hb8.mono hW2.size)) | (go_at_call 66; ((with_reducible refine (CF.out _ (x1.trans (hW2.mono x1.size))).mono ?_); rintro e w9 ⟨vf, rfl, hof, hb9⟩; obtain ⟨Af, cf, rfl⟩ := own_form hof); have Rh := RawAt.below Rh hb9 Rh.lt; have Rx := RawAt.below Rx hb9 Rx.lt; have hob := own_below hob hb9; have hW2 := hW2.trans (hb9.mono hW2.size)))
  refine hK.out _ _ (by first | (with_reducible exact MK.out _ Rh Rx) | exact MK.out _ (RawAt.below Rh ((Below.refl _ _).alloc (Nat.le_refl _) _) Rh.lt) (RawAt.below Rx ((Below.refl _ _).alloc (Nat.le_refl _) _) Rx.lt)) (fun hHeld => ?_)
  clear hK K
  go_simp
  refine wpAnyH_ready (rs := [10]) (by kernel_rfl) (by simp) ?_
  refine AllReadyH.cons rfl (fun K hK => ?_) ?_
  rotate_left
  · exact AllReadyH.nil
  go_simp
  go_wp2_with (first | (go_at_call 66; ((with_reducible refine (CB.out _ (x1.trans (hW2.mono x1.size))).mono ?_); rintro e w8 ⟨vb, rfl, hob, hb8⟩; obtain ⟨Ab, cb, rfl⟩ := own_form hob); have Rh := RawAt.below Rh hb8 Rh.lt; have Rx := RawAt.below Rx hb8 Rx.lt; have hW2 := hW2.trans (hb8.mono hW2.size)) | (go_at_call 66; ((with_reducible refine (CF.out _ (x1.trans (hW2.mono x1.size))).mono ?_); rintro e w9 ⟨vf, rfl, hof, hb9⟩; obtain ⟨Af, cf, rfl⟩ := own_form hof); have Rh := RawAt.below Rh hb9 Rh.lt; have Rx := RawAt.below Rx hb9 Rx.lt; have hob := own_below hob hb9; have hW2 := hW2.trans (hb9.mono hW2.size)))
  refine hK.out _ _ (by first | (with_reducible exact MK.out _ Rh Rx) | exact MK.out _ (RawAt.below Rh ((Below.refl _ _).alloc (Nat.le_refl _) _) Rh.lt) (RawAt.below Rx ((Below.refl _ _).alloc (Nat.le_refl _) _) Rx.lt)) (fun hHeld => ?_)
  clear hK K
  go_simp
  refine wpAnyH_take (i := 11) (v := ?_) rfl (by kernel_rfl) (by kernel_rfl) (by kernel_rfl) (fun _ _ _ h => h) (Or.inl ⟨by rfl, ?_⟩) hHeld ?_
  rotate_left
  · intro w hSw
    (try dsimp only at hSw)
    go_simp
    try with_reducible rfl
  go_simp
  refine wpAnyH_ready (rs := [12]) (by kernel_rfl) (by simp) ?_
  refine AllReadyH.cons rfl (fun K hK => ?_) ?_
  rotate_left
  · exact AllReadyH.nil
  go_simp
  go_wp2_with (first | (go_at_call 66; ((with_reducible refine (CB.out _ (x1.trans (hW2.mono x1.size))).mono ?_); rintro e w8 ⟨vb, rfl, hob, hb8⟩; obtain ⟨Ab, cb, rfl⟩ := own_form hob); have Rh := RawAt.below Rh hb8 Rh.lt; have Rx := RawAt.below Rx hb8 Rx.lt; have hW2 := hW2.trans (hb8.mono hW2.size)) | (go_at_call 66; ((with_reducible refine (CF.out _ (x1.trans (hW2.mono x1.size))).mono ?_); rintro e w9 ⟨vf, rfl, hof, hb9⟩; obtain ⟨Af, cf, rfl⟩ := own_form hof); have Rh := RawAt.below Rh hb9 Rh.lt; have Rx := RawAt.below Rx hb9 Rx.lt; have hob := own_below hob hb9; have hW2 := hW2.trans (hb9.mono hW2.size)))
  refine hK.out _ _ (by first | (with_reducible exact MK.out _ Rh Rx) | exact MK.out _ (RawAt.below Rh ((Below.refl _ _).alloc (Nat.le_refl _) _) Rh.lt) (RawAt.below Rx ((Below.refl _ _).alloc (Nat.le_refl _) _) Rx.lt)) (fun hHeld => ?_)
  clear hK K
  go_simp
  refine wpAnyH_ready (rs := [13]) (by kernel_rfl) (by simp) ?_
  refine AllReadyH.cons rfl (fun K hK => ?_) ?_
  rotate_left
  · exact AllReadyH.nil
  have x9 : Below w9.heap.size w9 (w9.alloc (.cells #[.slice Ab y.b.length cb, .slice Af y.f.length cf] 69)) := (Below.refl _ _).alloc (Nat.le_refl _) _
  have hW9 : Below W1.heap.size W1 w9 := hW2
  have hz9 := hW9.size
  have hz1' := x1.size
  have hown9 := own_below (own_below HO.out hW9) x9
  have Rh9 := RawAt.below Rh x9 Rh.lt
  have Rx9 := RawAt.below Rx x9 Rx.lt
  refine step_append_lies _ rfl (.tmp 12) (.tmp 20) 128 rfl B 69 i0 _ 2 48 Try.underlying128 hi0 hz0 hz1 hz2 rfl (by omega) (.slice A0 s0.length c0) s0.length (sflat s0) (by simp [Act.eval]) hown9 ⟨w9.heap.size, 0, none⟩ 1 1 [.slice Ab y.b.length cb, .slice Af y.f.length cf] (by simp [Act.eval]) rfl (World.news_of_block (cs := #[.slice Ab y.b.length cb, .slice Af y.f.length cf]) (t := 69) (fr := (0, 0)) (heap_alloc_new w9 _)) (by simp [Value.oneCell']) (by omega) (by simp only [maxLen]; omega) (by omega) (by simp; omega) _ rfl ?_
  intro g4 cap4 w4 hown4 hg4 hor4 hlt4
  have T4 := OnT.grown (ts := [69]) hown9 hg4 (by simp)
  have Rh := T4 _ _ _ (by decide) Rh9
  have Rx : RawAt 69 w4 w.heap.size #[.slice A n c, .slice A' n' c'] := (hg4.block w.heap.size Rx9.lt (fun hk => by have := (hlt _ hk.symm).2; omega)).trans Rx9
  have B4 : Below B w w4 := (((x1.mono hBw).trans (hW9.mono (by omega))).trans (x9.mono (by omega))).grown hg4 (by simp; omega) (fun k hk => (hlt k hk).1)
  have O4 : OnT [69, 131] w w4 := (((OnT.of x1).trans (OnT.of hW9)).trans (OnT.of x9)).trans (T4.mono (by simp))
  have S4 : StsAt w4 (s0 ++ [(.slice Ab y.b.length cb, .slice Af y.f.length cf)]) (d ++ [y]) := ((HS.out.onT (((OnT.of hW9 (ts := [69])).trans (OnT.of x9)).trans T4) (by decide))).snoc (own_onT (own_below hob x9) T4 (by decide)) (own_onT (own_below hof x9) T4 (by decide))
  have HO4 : w4.ownsRow B 69 2 (.slice (some ⟨g4, 0, none⟩) (s0.length + 1) cap4) (s0.length + 1) (sflat (s0 ++ [(.slice Ab y.b.length cb, .slice Af y.f.length cf)])) := by rw [sflat_append]; exact hown4
  refine hK.out _ _ (by first | (with_reducible exact MK.out _ Rh Rx) | exact MK.out _ (RawAt.below Rh ((Below.refl _ _).alloc (Nat.le_refl _) _) Rh.lt) (RawAt.below Rx ((Below.refl _ _).alloc (Nat.le_refl _) _) Rx.lt)) (fun hHeld => ?_)
  clear hK K
  go_simp
  refine wpAnyH_take (i := 14) (v := ?_) rfl (by kernel_rfl) (by kernel_rfl) (by kernel_rfl) (fun _ _ _ h => h) (Or.inl ⟨by rfl, ?_⟩) hHeld ?_
  rotate_left
  · intro w hSw
    (try dsimp only at hSw)
    go_simp
    try with_reducible rfl
  go_simp
  refine wpAnyH_done (by kernel_rfl) ?_ _
  refine NoPanic.normal ?_
  clear Rx MK hHeld HS CB CF hob hof
  have HSP := Lib.hid S4
  have HB4 := Lib.hid B4
  have HT4 := Lib.hid O4
  have HOW := Lib.hid HO4
  have RH := Lib.hid Rh
  have hgB : B ≤ g4 ∧ g4 < w4.heap.size ∧ ∃ cur, RawAt 69 w4 g4 cur := by
    rcases HO4.2 with ⟨h2, _⟩ | ⟨g', cap', cur, hv, hB, cc, h3, h4, h5, h6⟩
    · cases h2
    · injection hv with hv1 hv2 hv3
      injection hv1 with hv1
      injection hv1 with hv1
      subst hv1
      exact ⟨hB, block_lt cc, cur, cc⟩
  obtain ⟨hgB1, hgB2, cur4, hcur4⟩ := hgB
  have HCU := Lib.hid hcur4
  generalize hsp : (s0 ++ [((.slice Ab y.b.length cb, .slice Af y.f.length cf) : Value × Value)]) = sp at *
  have hspl : sp.length = s0.length + 1 := by rw [← hsp]; simp
  clear S4 B4 O4 HO4 Rh hcur4 hown4 hg4 T4 hown9 Rh9 Rx9 x9 hsp hor4 HO hW2 hW9 x1
  by_cases h100 : s0.length < 100
  · have k1 : decide ((100 : Int) < (s0.length : Int) + 1) = false := decide_eq_false (by omega)
    have k2 : decide (100 < s0.length + 1) = false := decide_eq_false (by omega)
    have e0 := RawAt.cell RH.out 0
    have e1 := RawAt.cell RH.out 1
    have f0 := RawAt.free RH.out 0
    have f1 := RawAt.free RH.out 1
    simp at e0 e1
    have hpd : hpush d y = d ++ [y] := by unfold hpush; rw [if_pos (by have := HSL.out; omega)]
    go_wp2
    go_ret
    rw [hpd]
    have hp := hist_put RH.out HOW.out hspl HSP.out hle HT4.out HB4.out
    exact ⟨rfl, hp⟩
  · have h1 : s0.length = 100 := by omega
    have k1 : decide ((100 : Int) < (s0.length : Int) + 1) = true := decide_eq_true (by omega)
    have k2 : decide (100 < s0.length + 1) = true := decide_eq_true (by omega)
    have hpd : hpush d y = (d ++ [y]).drop 1 := by unfold hpush; rw [if_neg (by have := HSL.out; omega)]
    have HSPL := Lib.hid hspl
    have HDL := Lib.hid fun (W : World) (h : W.ownsRow B 69 2 (.slice (some ⟨g4, 0, none⟩) (s0.length + 1) cap4) (s0.length + 1) (sflat sp)) => hDelete_any (i := 0) (m := s0.length) (by rw [Nat.zero_add]; exact h) (sflat_one HSP.out) (by omega)
    simp only [Nat.zero_add, Int.natCast_zero, Int.zero_add, Nat.zero_mul, List.take_zero, List.nil_append, Nat.one_mul] at HDL
    have H2 := Lib.hid h100
    clear h100 h1 hspl
    go_wp2_with (go_at_call 67; ((with_reducible refine (HDL.out _ HOW.out).mono ?_); rintro e w5 ⟨rfl, ho5, hb5⟩); have T5 := hb5.onT (ts := [69]) HCU.out (by simp); have R5 := T5 _ _ _ (by decide) RH.out; have e0 := RawAt.cell R5 0; have e1 := RawAt.cell R5 1; have f0 := RawAt.free R5 0; have f1 := RawAt.free R5 1; simp at e0 e1; have HO5 := Lib.hid ho5; have HR5 := Lib.hid R5; have HT5 := Lib.hid T5; have HB5 := Lib.hid hb5; clear ho5 R5 T5 hb5)
    go_ret
    rw [hpd]
    have hsd : sflat (sp.drop 1) = (sflat sp).drop 2 := by
      cases sp with
      | nil => rfl
      | cons p q => simp [sflat]
    have hp := hist_put (sp := sp.drop 1) (d := (d ++ [y]).drop 1) HR5.out (by rw [hsd]; exact HO5.out) (by rw [List.length_drop, HSPL.out]; rfl) ((HSP.out.onT HT5.out (by decide)).drop1) hle (HT4.out.trans (HT5.out.mono (by simp))) (HB4.out.trans (HB5.out.below.mono hgB1))
    exact ⟨rfl, hp⟩
end Go.Proofs.Ytncbhbjhfmbbkaa
