/- The walk of the law on sums of widths. -/
import Derived.Test.YtapamkefcfnbpaaDoorRefP
import Derived.Deep.RegionWith
import Derived.OpenShut
namespace Go.Proofs.YtapamkefcfnbpaaDoor
open Go.RowKit
theorem IntsAt.take_ {kd : IntKind} {w : World} {A : Option Addr} {l : List Int} (h : IntsAt kd w A l) (k : Nat) : IntsAt kd w A (l.take k) := by
  intro hp
  have hl : (l.take k).length ≤ l.length := List.length_take_le' _ _
  obtain ⟨b, off, rfl, hb, hc⟩ := h (by omega)
  refine ⟨b, off, rfl, hb, fun j hj => ?_⟩
  have hj' : j < min k l.length := by simpa [List.length_take] using hj
  rw [hc j (by omega)]
  have e : nth (l.take k) j = nth l j := by
    unfold nth
    simp only [List.getD, List.getElem?_take]
    rw [if_pos (by omega)]
  rw [e]
theorem IntsAt.drop_ {kd : IntKind} {w : World} {b off : Nat} {l : List Int} (h : IntsAt kd w (some ⟨b, off, none⟩) l) (k : Nat) : IntsAt kd w (some ⟨b, off + k, none⟩) (l.drop k) := by
  intro hp
  have hk : k < l.length := by have := List.length_drop (i := k) (l := l); omega
  obtain ⟨b', off', e, hb, hc⟩ := h (by omega)
  obtain ⟨rfl, rfl⟩ : b = b' ∧ off = off' := by
    injection e with e
    injection e with e1 e2
    exact ⟨e1, e2⟩
  refine ⟨b, off + k, rfl, hb, fun j hj => ?_⟩
  have hj' : j < l.length - k := by simpa [List.length_drop] using hj
  rw [Nat.add_assoc, hc (k + j) (by omega)]
  have e : nth (l.drop k) j = nth l (k + j) := by
    unfold nth
    simp only [List.getD, List.getElem?_drop]
  rw [e]
theorem map_sum_bd (f : Int → Int) (hf : ∀ r, 0 ≤ f r ∧ f r ≤ 2) (l : List Int) : 0 ≤ (l.map f).sum ∧ (l.map f).sum ≤ 2 * l.length := by
  have := sumTo_bd hf l l.length (Nat.le_refl _)
  rwa [sumTo_all f l (Nat.le_refl _)] at this
theorem cut_head {P : Program} {t e : TypeId} (ht : P.underlying t = some (.slice e)) {i : TypeInfo} (hi : P.info? e = some i) (A : Option Addr) (n c k : Nat) (hk : k ≤ c) (w : World) :
    (Instr.slice t (.slice A n c) none (some (.int .i64 k)) none).run P w = .ok (.slice A k c) w := by
  have he : P.elem t = e := by simp [Program.elem, ht]
  subst he
  rw [run_slice_h _ _ _ _ _ ht _ _ (by omega) (by omega), run_sizeOf _ hi]
  have h0 : (A.map fun x => x.add 0) = A := by cases A <;> simp [Addr.add]
  simp [Result.andThen, sliced, h0]
theorem cut_tail {P : Program} {t e : TypeId} (ht : P.underlying t = some (.slice e)) {i : TypeInfo} (hi : P.info? e = some i) (h1 : P.cellsOf e = 1) (A : Option Addr) (n c k : Nat) (hk : k ≤ n) (w : World) :
    (Instr.slice t (.slice A n c) (some (.int .i64 k)) none none).run P w = .ok (.slice (if c = k then A else A.map (·.add k)) (n - k) (c - k)) w := by
  have he : P.elem t = e := by simp [Program.elem, ht]
  subst he
  rw [run_slice_l _ _ _ _ _ ht _ _ (by omega) (by omega), run_sizeOf _ hi, h1]
  simp [Result.andThen, sliced]
set_option maxRecDepth 100000 in
set_option maxHeartbeats 1000000 in
theorem widthSums_main (A A' : Option Addr) (n c k : Nat) (l : List Int) (w : World) (h : Tabs w) (hA : IntsAt .i32 w A l) (hA' : IntsAt .i32 w A' (l.drop k)) (hl : l.length = n) (hn : n ≤ 1000) (hk : k ≤ n)
    (s1 : ∀ W : World, (Instr.slice 23 (.slice A n c) none (some (.int .i64 k)) none).run Tryd.prog W = .ok (.slice A k c) W)
    (s2 : ∀ W : World, (Instr.slice 23 (.slice A n c) (some (.int .i64 k)) none none).run Tryd.prog W = .ok (.slice A' (n - k) (c - k)) W) :
    Calls Tryd.prog 11 #[.slice A n c, .int .i64 k] w fun e w' => e = .returned (.bool true) ∧ Below w.heap.size w w' := by
  have H := Lib.hid h; clear h
  have HA := Lib.hid hA; clear hA
  have HA' := Lib.hid hA'; clear hA'
  have HL := Lib.hid hl; clear hl
  go_enter Tryd.func11, Tryd.ntmps11
  go_wp2_with fail
  refine (plain_any _ H.out).mono ?_
  rintro e w1 ⟨tb, rfl, hb1, ht1⟩
  have HT := Lib.hid ht1; clear ht1
  go_wp2_with fail
  have hlr : (l.map (wid zeroL wideL)).sum = ((l.take k).map (wid zeroL wideL)).sum + ((l.drop k).map (wid zeroL wideL)).sum := by
    rw [← List.sum_append, ← List.map_append, List.take_append_drop]
  have bl := map_sum_bd _ (wid_bd zeroL wideL) (l.take k)
  have br := map_sum_bd _ (wid_bd zeroL wideL) (l.drop k)
  have lt : (l.take k).length = k := by rw [List.length_take, HL.out]; omega
  have ld : (l.drop k).length = n - k := by rw [List.length_drop, HL.out]
  have C1 := Lib.hid fun (W : World) (hW : Below w1.heap.size w1 W) => (sum_any tb zeroL wideL A n c l W (HT.out.below hW) ((HA.out.below hb1).below hW) HL.out (by omega))
  have C2 := Lib.hid fun (W : World) (hW : Below w1.heap.size w1 W) => (sum_any tb zeroL wideL A k c (l.take k) W (HT.out.below hW) (((HA.out.take_ k).below hb1).below hW) lt (by omega))
  have C3 := Lib.hid fun (W : World) (hW : Below w1.heap.size w1 W) => (sum_any tb zeroL wideL A' (n - k) (c - k) (l.drop k) W (HT.out.below hW) ((HA'.out.below hb1).below hW) ld (by omega))
  have C4 := Lib.hid fun (W : World) (hW : Below w1.heap.size w1 W) (tb' : Nat) (hT : RTab W tb' zeroL wideL) => (rsum_any tb' zeroL wideL A n c l W hT ((HA.out.below hb1).below hW) HL.out (by omega))
  generalize ((l.take k).map (wid zeroL wideL)).sum = sL at *
  generalize ((l.drop k).map (wid zeroL wideL)).sum = sR at *
  rw [hlr] at C1 C4
  clear hlr
  have hL1 : sL ≤ 2000 := by omega
  have hL2 : sR ≤ 2000 := by omega
  have hL3 : 0 ≤ sL := bl.1
  have hL4 : 0 ≤ sR := br.1
  have hW0 : Below w1.heap.size w1 w1.drew := (Below.refl _ _).drew
  clear bl br lt ld
  have hwr : IntKind.i64.wrap (sL + sR) = sL + sR := IntWalk.i64_in _ (by omega)
  refine wp_region_any (by kernel_rfl) ?_
  try (change wpAny _ _ _ _ _ _ _ (World.drew _))
  refine wpAny_take (i := 0) (v := ?_) rfl (by kernel_rfl) (by kernel_rfl) (by kernel_rfl) (fun _ _ _ h => h) (Or.inl ⟨by rfl, ?_⟩) ?_
  rotate_left
  · intro w
    go_simp
    try with_reducible rfl
  go_simp
  refine wpAny_take (i := 1) (v := ?_) rfl (by kernel_rfl) (by kernel_rfl) (by kernel_rfl) (fun _ _ _ h => h) (Or.inl ⟨by rfl, ?_⟩) ?_
  rotate_left
  · intro w
    go_simp
    try with_reducible rfl
  go_simp
  refine wpAny_take (i := 4) (v := ?_) rfl (by kernel_rfl) (by kernel_rfl) (by kernel_rfl) (fun _ _ _ h => h) (Or.inl ⟨by rfl, ?_⟩) ?_
  rotate_left
  · intro w
    go_simp
    try with_reducible rfl
  go_simp
  refine wpAny_ready (rs := [2]) (by kernel_rfl) (by simp) ?_
  refine AllReady.cons rfl (fun K hK => ?_) ?_
  rotate_left
  · exact AllReady.nil
  go_simp
  go_wp2_with (first
    | (go_at_call_of 36 (Value.slice A n c); refine (C1.out _ hW0).mono ?_; rintro e w2 ⟨rfl, hb2⟩; have hW0 := hW0.trans (hb2.mono hW0.size); clear hb2)
    | (go_at_call_of 36 (Value.slice A k c); refine (C2.out _ hW0).mono ?_; rintro e w2 ⟨rfl, hb2⟩; have hW0 := hW0.trans (hb2.mono hW0.size); clear hb2)
    | (go_at_call_of 36 (Value.slice A' (n - k) (c - k)); refine (C3.out _ hW0).mono ?_; rintro e w2 ⟨rfl, hb2⟩; have hW0 := hW0.trans (hb2.mono hW0.size); clear hb2)
    | (go_at_call 35; refine (rplain_any _).mono ?_; rintro e w2 ⟨tb', rfl, hb2, hT2⟩; have hW0 := hW0.trans (hb2.mono hW0.size); clear hb2; have HT2 := Lib.hid hT2; clear hT2)
    | (go_at_call 37; refine (C4.out _ hW0 _ HT2.out).mono ?_; rintro e w2 ⟨rfl, hb2⟩; have hW0 := hW0.trans (hb2.mono hW0.size); clear hb2)
    | (go_at_call 28; refine (three_any _ ((H.out.below hb1).below hW0)).mono ?_; rintro e w2 ⟨rfl, hb2⟩; have hW0 := hW0.trans (hb2.mono hW0.size); clear hb2))
  refine wpAny_ready (rs := [3]) (by kernel_rfl) (by simp) ?_
  refine AllReady.cons rfl (fun K hK => ?_) ?_
  rotate_left
  · exact AllReady.nil
  go_simp
  go_wp2_with (first
    | (go_at_call_of 36 (Value.slice A n c); refine (C1.out _ hW0).mono ?_; rintro e w2 ⟨rfl, hb2⟩; have hW0 := hW0.trans (hb2.mono hW0.size); clear hb2)
    | (go_at_call_of 36 (Value.slice A k c); refine (C2.out _ hW0).mono ?_; rintro e w2 ⟨rfl, hb2⟩; have hW0 := hW0.trans (hb2.mono hW0.size); clear hb2)
    | (go_at_call_of 36 (Value.slice A' (n - k) (c - k)); refine (C3.out _ hW0).mono ?_; rintro e w2 ⟨rfl, hb2⟩; have hW0 := hW0.trans (hb2.mono hW0.size); clear hb2)
    | (go_at_call 35; refine (rplain_any _).mono ?_; rintro e w2 ⟨tb', rfl, hb2, hT2⟩; have hW0 := hW0.trans (hb2.mono hW0.size); clear hb2; have HT2 := Lib.hid hT2; clear hT2)
    | (go_at_call 37; refine (C4.out _ hW0 _ HT2.out).mono ?_; rintro e w2 ⟨rfl, hb2⟩; have hW0 := hW0.trans (hb2.mono hW0.size); clear hb2)
    | (go_at_call 28; refine (three_any _ ((H.out.below hb1).below hW0)).mono ?_; rintro e w2 ⟨rfl, hb2⟩; have hW0 := hW0.trans (hb2.mono hW0.size); clear hb2))
  refine wpAny_ready (rs := [5]) (by kernel_rfl) (by simp) ?_
  refine AllReady.cons rfl (fun K hK => ?_) ?_
  rotate_left
  · exact AllReady.nil
  go_simp
  go_wp2_with (first
    | (go_at_call_of 36 (Value.slice A n c); refine (C1.out _ hW0).mono ?_; rintro e w2 ⟨rfl, hb2⟩; have hW0 := hW0.trans (hb2.mono hW0.size); clear hb2)
    | (go_at_call_of 36 (Value.slice A k c); refine (C2.out _ hW0).mono ?_; rintro e w2 ⟨rfl, hb2⟩; have hW0 := hW0.trans (hb2.mono hW0.size); clear hb2)
    | (go_at_call_of 36 (Value.slice A' (n - k) (c - k)); refine (C3.out _ hW0).mono ?_; rintro e w2 ⟨rfl, hb2⟩; have hW0 := hW0.trans (hb2.mono hW0.size); clear hb2)
    | (go_at_call 35; refine (rplain_any _).mono ?_; rintro e w2 ⟨tb', rfl, hb2, hT2⟩; have hW0 := hW0.trans (hb2.mono hW0.size); clear hb2; have HT2 := Lib.hid hT2; clear hT2)
    | (go_at_call 37; refine (C4.out _ hW0 _ HT2.out).mono ?_; rintro e w2 ⟨rfl, hb2⟩; have hW0 := hW0.trans (hb2.mono hW0.size); clear hb2)
    | (go_at_call 28; refine (three_any _ ((H.out.below hb1).below hW0)).mono ?_; rintro e w2 ⟨rfl, hb2⟩; have hW0 := hW0.trans (hb2.mono hW0.size); clear hb2))
  refine wpAny_take (i := 6) (v := ?_) rfl (by kernel_rfl) (by kernel_rfl) (by kernel_rfl) (fun _ _ _ h => h) (Or.inl ⟨by rfl, ?_⟩) ?_
  rotate_left
  · intro w
    go_simp
    try with_reducible rfl
  go_simp
  refine wpAny_take (i := 7) (v := ?_) rfl (by kernel_rfl) (by kernel_rfl) (by kernel_rfl) (fun _ _ _ h => h) (Or.inl ⟨by rfl, ?_⟩) ?_
  rotate_left
  · intro w
    go_simp
    try with_reducible rfl
  go_simp
  refine wpAny_take (i := 8) (v := ?_) rfl (by kernel_rfl) (by kernel_rfl) (by kernel_rfl) (fun _ _ _ h => h) (Or.inl ⟨by rfl, ?_⟩) ?_
  rotate_left
  · intro w
    go_simp
    try with_reducible rfl
  go_simp
  refine wpAny_take (i := 9) (v := ?_) rfl (by kernel_rfl) (by kernel_rfl) (by kernel_rfl) (fun _ _ _ h => h) (Or.inl ⟨by rfl, ?_⟩) ?_
  rotate_left
  · intro w
    go_simp
    try with_reducible rfl
  go_simp
  refine wpAny_take (i := 11) (v := ?_) rfl (by kernel_rfl) (by kernel_rfl) (by kernel_rfl) (fun _ _ _ h => h) (Or.inl ⟨by rfl, ?_⟩) ?_
  rotate_left
  · intro w
    go_simp
    try with_reducible rfl
  go_simp
  refine wpAny_take (i := 12) (v := ?_) rfl (by kernel_rfl) (by kernel_rfl) (by kernel_rfl) (fun _ _ _ h => h) (Or.inl ⟨by rfl, ?_⟩) ?_
  rotate_left
  · intro w
    go_simp
    try with_reducible rfl
  go_simp
  refine wpAny_take (i := 13) (v := ?_) rfl (by kernel_rfl) (by kernel_rfl) (by kernel_rfl) (fun _ _ _ h => h) (Or.inl ⟨by rfl, ?_⟩) ?_
  rotate_left
  · intro w
    go_simp
    try with_reducible rfl
  go_simp
  refine wpAny_take (i := 16) (v := ?_) rfl (by kernel_rfl) (by kernel_rfl) (by kernel_rfl) (fun _ _ _ h => h) (Or.inl ⟨by rfl, ?_⟩) ?_
  rotate_left
  · intro w
    go_simp
    try with_reducible rfl
  go_simp
  refine wpAny_take (i := 17) (v := ?_) rfl (by kernel_rfl) (by kernel_rfl) (by kernel_rfl) (fun _ _ _ h => h) (Or.inl ⟨by rfl, ?_⟩) ?_
  rotate_left
  · intro w
    go_simp
    try with_reducible rfl
  go_simp
  refine wpAny_take (i := 18) (v := ?_) rfl (by kernel_rfl) (by kernel_rfl) (by kernel_rfl) (fun _ _ _ h => h) (Or.inl ⟨by rfl, ?_⟩) ?_
  rotate_left
  · intro w
    go_simp
    try with_reducible rfl
  go_simp
  refine wpAny_take (i := 14) (v := ?_) rfl (by kernel_rfl) (by kernel_rfl) (by kernel_rfl) (fun _ _ _ h => h) (Or.inl ⟨by rfl, ?_⟩) ?_
  rotate_left
  · intro w
    go_simp
    try with_reducible rfl
  go_simp
  refine wpAny_take (i := 19) (v := ?_) rfl (by kernel_rfl) (by kernel_rfl) (by kernel_rfl) (fun _ _ _ h => h) (Or.inl ⟨by rfl, ?_⟩) ?_
  rotate_left
  · intro w
    go_simp
    try with_reducible rfl
  go_simp
  refine wpAny_ready (rs := [10]) (by kernel_rfl) (by simp) ?_
  refine AllReady.cons rfl (fun K hK => ?_) ?_
  rotate_left
  · exact AllReady.nil
  go_simp
  go_wp2_with (first
    | (go_at_call_of 36 (Value.slice A n c); refine (C1.out _ hW0).mono ?_; rintro e w2 ⟨rfl, hb2⟩; have hW0 := hW0.trans (hb2.mono hW0.size); clear hb2)
    | (go_at_call_of 36 (Value.slice A k c); refine (C2.out _ hW0).mono ?_; rintro e w2 ⟨rfl, hb2⟩; have hW0 := hW0.trans (hb2.mono hW0.size); clear hb2)
    | (go_at_call_of 36 (Value.slice A' (n - k) (c - k)); refine (C3.out _ hW0).mono ?_; rintro e w2 ⟨rfl, hb2⟩; have hW0 := hW0.trans (hb2.mono hW0.size); clear hb2)
    | (go_at_call 35; refine (rplain_any _).mono ?_; rintro e w2 ⟨tb', rfl, hb2, hT2⟩; have hW0 := hW0.trans (hb2.mono hW0.size); clear hb2; have HT2 := Lib.hid hT2; clear hT2)
    | (go_at_call 37; refine (C4.out _ hW0 _ HT2.out).mono ?_; rintro e w2 ⟨rfl, hb2⟩; have hW0 := hW0.trans (hb2.mono hW0.size); clear hb2)
    | (go_at_call 28; refine (three_any _ ((H.out.below hb1).below hW0)).mono ?_; rintro e w2 ⟨rfl, hb2⟩; have hW0 := hW0.trans (hb2.mono hW0.size); clear hb2))
  refine wpAny_ready (rs := [15]) (by kernel_rfl) (by simp) ?_
  refine AllReady.cons rfl (fun K hK => ?_) ?_
  rotate_left
  · exact AllReady.nil
  go_simp
  go_wp2_with (first
    | (go_at_call_of 36 (Value.slice A n c); refine (C1.out _ hW0).mono ?_; rintro e w2 ⟨rfl, hb2⟩; have hW0 := hW0.trans (hb2.mono hW0.size); clear hb2)
    | (go_at_call_of 36 (Value.slice A k c); refine (C2.out _ hW0).mono ?_; rintro e w2 ⟨rfl, hb2⟩; have hW0 := hW0.trans (hb2.mono hW0.size); clear hb2)
    | (go_at_call_of 36 (Value.slice A' (n - k) (c - k)); refine (C3.out _ hW0).mono ?_; rintro e w2 ⟨rfl, hb2⟩; have hW0 := hW0.trans (hb2.mono hW0.size); clear hb2)
    | (go_at_call 35; refine (rplain_any _).mono ?_; rintro e w2 ⟨tb', rfl, hb2, hT2⟩; have hW0 := hW0.trans (hb2.mono hW0.size); clear hb2; have HT2 := Lib.hid hT2; clear hT2)
    | (go_at_call 37; refine (C4.out _ hW0 _ HT2.out).mono ?_; rintro e w2 ⟨rfl, hb2⟩; have hW0 := hW0.trans (hb2.mono hW0.size); clear hb2)
    | (go_at_call 28; refine (three_any _ ((H.out.below hb1).below hW0)).mono ?_; rintro e w2 ⟨rfl, hb2⟩; have hW0 := hW0.trans (hb2.mono hW0.size); clear hb2))
  refine wpAny_ready (rs := [20]) (by kernel_rfl) (by simp) ?_
  refine AllReady.cons rfl (fun K hK => ?_) ?_
  rotate_left
  · exact AllReady.nil
  go_simp
  go_wp2_with (first
    | (go_at_call_of 36 (Value.slice A n c); refine (C1.out _ hW0).mono ?_; rintro e w2 ⟨rfl, hb2⟩; have hW0 := hW0.trans (hb2.mono hW0.size); clear hb2)
    | (go_at_call_of 36 (Value.slice A k c); refine (C2.out _ hW0).mono ?_; rintro e w2 ⟨rfl, hb2⟩; have hW0 := hW0.trans (hb2.mono hW0.size); clear hb2)
    | (go_at_call_of 36 (Value.slice A' (n - k) (c - k)); refine (C3.out _ hW0).mono ?_; rintro e w2 ⟨rfl, hb2⟩; have hW0 := hW0.trans (hb2.mono hW0.size); clear hb2)
    | (go_at_call 35; refine (rplain_any _).mono ?_; rintro e w2 ⟨tb', rfl, hb2, hT2⟩; have hW0 := hW0.trans (hb2.mono hW0.size); clear hb2; have HT2 := Lib.hid hT2; clear hT2)
    | (go_at_call 37; refine (C4.out _ hW0 _ HT2.out).mono ?_; rintro e w2 ⟨rfl, hb2⟩; have hW0 := hW0.trans (hb2.mono hW0.size); clear hb2)
    | (go_at_call 28; refine (three_any _ ((H.out.below hb1).below hW0)).mono ?_; rintro e w2 ⟨rfl, hb2⟩; have hW0 := hW0.trans (hb2.mono hW0.size); clear hb2))
  refine wpAny_take (i := 21) (v := ?_) rfl (by kernel_rfl) (by kernel_rfl) (by kernel_rfl) (fun _ _ _ h => h) (Or.inl ⟨by rfl, ?_⟩) ?_
  rotate_left
  · intro w
    go_simp
    try with_reducible rfl
  go_simp
  refine wpAny_take (i := 22) (v := ?_) rfl (by kernel_rfl) (by kernel_rfl) (by kernel_rfl) (fun _ _ _ h => h) (Or.inl ⟨by rfl, ?_⟩) ?_
  rotate_left
  · intro w
    go_simp
    try with_reducible rfl
  go_simp
  refine wpAny_take (i := 23) (v := ?_) rfl (by kernel_rfl) (by kernel_rfl) (by kernel_rfl) (fun _ _ _ h => h) (Or.inl ⟨by rfl, ?_⟩) ?_
  rotate_left
  · intro w
    go_simp
    try with_reducible rfl
  go_simp
  refine wpAny_take (i := 24) (v := ?_) rfl (by kernel_rfl) (by kernel_rfl) (by kernel_rfl) (fun _ _ _ h => h) (Or.inl ⟨by rfl, ?_⟩) ?_
  rotate_left
  · intro w
    go_simp
    try with_reducible rfl
  go_simp
  refine wpAny_ready (rs := [25]) (by kernel_rfl) (by simp) ?_
  refine AllReady.cons rfl (fun K hK => ?_) ?_
  rotate_left
  · exact AllReady.nil
  go_simp
  go_wp2_with (first
    | (go_at_call_of 36 (Value.slice A n c); refine (C1.out _ hW0).mono ?_; rintro e w2 ⟨rfl, hb2⟩; have hW0 := hW0.trans (hb2.mono hW0.size); clear hb2)
    | (go_at_call_of 36 (Value.slice A k c); refine (C2.out _ hW0).mono ?_; rintro e w2 ⟨rfl, hb2⟩; have hW0 := hW0.trans (hb2.mono hW0.size); clear hb2)
    | (go_at_call_of 36 (Value.slice A' (n - k) (c - k)); refine (C3.out _ hW0).mono ?_; rintro e w2 ⟨rfl, hb2⟩; have hW0 := hW0.trans (hb2.mono hW0.size); clear hb2)
    | (go_at_call 35; refine (rplain_any _).mono ?_; rintro e w2 ⟨tb', rfl, hb2, hT2⟩; have hW0 := hW0.trans (hb2.mono hW0.size); clear hb2; have HT2 := Lib.hid hT2; clear hT2)
    | (go_at_call 37; refine (C4.out _ hW0 _ HT2.out).mono ?_; rintro e w2 ⟨rfl, hb2⟩; have hW0 := hW0.trans (hb2.mono hW0.size); clear hb2)
    | (go_at_call 28; refine (three_any _ ((H.out.below hb1).below hW0)).mono ?_; rintro e w2 ⟨rfl, hb2⟩; have hW0 := hW0.trans (hb2.mono hW0.size); clear hb2))
  refine wpAny_take (i := 26) (v := ?_) rfl (by kernel_rfl) (by kernel_rfl) (by kernel_rfl) (fun _ _ _ h => h) (Or.inl ⟨by rfl, ?_⟩) ?_
  rotate_left
  · intro w
    go_simp
    try with_reducible rfl
  go_simp
  refine wpAny_take (i := 27) (v := ?_) rfl (by kernel_rfl) (by kernel_rfl) (by kernel_rfl) (fun _ _ _ h => h) (Or.inl ⟨by rfl, ?_⟩) ?_
  rotate_left
  · intro w
    go_simp
    try with_reducible rfl
  go_simp
  refine wpAny_done (by kernel_rfl) ?_ _
  clear hwr
  go_wp2_with fail
  go_ret
  exact ⟨rfl, hb1.trans (hW0.mono hb1.size)⟩
set_option maxHeartbeats 400000 in
theorem widthSums_out (A : Option Addr) (n c : Nat) (at_ : Int) (w : World) (h : Tabs w) (hn : n ≤ maxLen) (hb1 : -9223372036854775808 ≤ at_) (hb2 : at_ ≤ 9223372036854775807) (ho : 1000 < n ∨ at_ < 0 ∨ (n : Int) < at_) :
    Calls Tryd.prog 11 #[.slice A n c, .int .i64 at_] w fun e w' => e = .returned (.bool true) ∧ Below w.heap.size w w' := by
  unfold maxLen at hn
  have H := Lib.hid h; clear h
  by_cases g1 : 1000 < n
  · go_enter Tryd.func11, Tryd.ntmps11
    go_wp2_with fail
    refine (three_any _ H.out).mono ?_
    rintro e w1 ⟨rfl, hb1⟩
    go_wp2_with fail
    go_ret
    exact ⟨rfl, hb1⟩
  · by_cases g2 : at_ < 0
    · go_enter Tryd.func11, Tryd.ntmps11
      go_wp2_with fail
      refine (three_any _ H.out).mono ?_
      rintro e w1 ⟨rfl, hb1⟩
      go_wp2_with fail
      go_ret
      exact ⟨rfl, hb1⟩
    · have g3 : (n : Int) < at_ := by omega
      go_enter Tryd.func11, Tryd.ntmps11
      go_wp2_with fail
      refine (three_any _ H.out).mono ?_
      rintro e w1 ⟨rfl, hb1⟩
      go_wp2_with fail
      go_ret
      exact ⟨rfl, hb1⟩
theorem widthSums_walk (A : Option Addr) (n c : Nat) (l : List Int) (at_ : Int) (w : World) (h : Tabs w) (hA : IntsAt .i32 w A l) (hl : l.length = n) (hn : n ≤ maxLen) (hc' : Caps A n c) (_ : ∀ x ∈ l, (Lit.int .i32 x).wf = true) (hat : (Lit.int .i64 at_).wf = true) :
    Calls Tryd.prog 11 #[.slice A n c, .int .i64 at_] w fun e w' => e = .returned (.bool true) ∧ Below w.heap.size w w' := by
  have hb := bounds_i64 hat
  have hc := hc'.1
  by_cases ho : 1000 < n ∨ at_ < 0 ∨ (n : Int) < at_
  · exact widthSums_out A n c at_ w h hn hb.1 hb.2 ho
  · obtain ⟨k, rfl⟩ : ∃ k : Nat, at_ = k := ⟨at_.toNat, by omega⟩
    have h3 : k ≤ n := by omega
    obtain ⟨i, hi⟩ : ∃ i, Tryd.prog.info? 21 = some i := Option.isSome_iff_exists.1 (by kernel_rfl)
    refine widthSums_main A (if c = k then A else A.map (·.add k)) n c k l w h hA (fun hp => ?_) hl (by omega) h3 (fun W => cut_head Tryd.underlying23 hi A n c k (by omega) W) (fun W => cut_tail Tryd.underlying23 hi (by kernel_rfl) A n c k h3 W)
    have hkn : k < n := by have := List.length_drop (i := k) (l := l); omega
    obtain ⟨b, off, rfl, _⟩ := hA (by omega)
    rw [if_neg (by omega)]
    have := hA.drop_ k hp
    simpa [Go.WideShapes.add_plain] using this
end Go.Proofs.YtapamkefcfnbpaaDoor
