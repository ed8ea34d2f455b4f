/- The world behind a sort: the row holds what was sorted; all else is as it was. Inlays: what one is in memory; order; slices.Clone and slices.SortFunc at inlays. -/
import Derived.Test.YtpnjokhhbjpciaaGreatDoorKRow
import Derived.Shelf.SlSortCmp.WholeK
import Derived.Test.YtpnjokhhbjpciaaGreatDoorSortIn
import Derived.Deep.RegionHeld3
namespace Go.Proofs.YtpnjokhhbjpciaaGreatDoor
open Go.RowKit Go.Sort
section
variable {α : Type} [Inhabited α] {enc : α → List Value} {k : Nat}
theorem holdsK_of_own (hk : ∀ x, (enc x).length = k) {B : Nat} {w : World} {e : TypeId} {g n cap : Nat} {l : List α} (h : w.ownsRow B e k (.slice (some ⟨g, 0, none⟩) n cap) n (kfl enc l)) (hl : l.length = n) : HoldsK enc k w g 0 l.toArray := by
  intro j hj
  rw [size_flatK] at hj
  have hj' : j < l.length * k := by simpa using hj
  have hk0 : 0 < k := by
    rcases Nat.eq_zero_or_pos k with h0 | h0
    · rw [h0, Nat.mul_zero] at hj'; omega
    · exact h0
  have hq : j / k < l.length := (Nat.div_lt_iff_lt_mul hk0).2 hj'
  have hm : j % k < k := Nat.mod_lt _ hk0
  have e3 : j / k * k + j % k = j := Nat.div_add_mod' j k
  have e2 := kfl_at hk l (j / k) hq (j % k) hm
  rw [e3] at e2
  rw [get_flatK enc k l.toArray j hj]
  have hel : (l.toArray[j / k]!) = l[j / k] := by rw [getElem!_pos l.toArray (j / k) (by simpa using hq)]; simp
  have hlc : j % k < (enc l[j / k]).length := by rw [hk]; exact hm
  rw [hel, getElem!_pos (enc l[j / k]) (j % k) hlc]
  rw [List.getElem?_eq_getElem hlc] at e2
  rcases h.2 with ⟨h2, _⟩ | ⟨g', cap', cur, hv, hB, c, h3, h4, h5, h6⟩
  · cases h2
  · injection hv with hv1 hv2 hv3
    injection hv1 with hv1
    injection hv1 with hv1
    subst hv1
    refine ⟨?_, RawAt.free (t := e) c _⟩
    rw [Nat.zero_add, RawAt.cell (t := e) c, ← Array.getElem?_toList]
    rw [← h6, List.getElem?_take, if_pos (by rw [← hl]; exact hj')] at e2
    exact e2
theorem own_sort (hk : ∀ x, (enc x).length = k) (hp : 0 < k) {B : Nat} {w : World} {e : TypeId} {g n cap : Nat} {l : List α} {d : Array α} (h : w.ownsRow B e k (.slice (some ⟨g, 0, none⟩) n cap) n (kfl enc l)) (hl : l.length = n) (hs : d.size = n) (m : Nat) (os : Array Obj) :
    (Go.Proofs.sortWorldK enc k w g 0 m d os).ownsRow B e k (.slice (some ⟨g, 0, none⟩) n cap) n (kfl enc d.toList) ∧ OnB g w (Go.Proofs.sortWorldK enc k w g 0 m d os) := by
  have hH := holdsK_of_own hk h hl
  have hlt : g < w.heap.size := by
    rcases h.2 with ⟨h2, _⟩ | ⟨g', cap', cur, hv, hB, c, h3, h4, h5, h6⟩
    · cases h2
    · injection hv with hv1 hv2 hv3
      injection hv1 with hv1
      injection hv1 with hv1
      subst hv1
      exact block_lt c
  have hH' := Go.Proofs.holdsK_sortWorldK_c enc k w g 0 l.toArray d m os hH hlt (by rw [hs]; simpa using hl.symm)
  have hheap : ∀ b, b < w.heap.size → b ≠ g → (Go.Proofs.sortWorldK enc k w g 0 m d os).heap[b]? = w.heap[b]? := fun b hb hne => by
    unfold Go.Proofs.sortWorldK putRowK putRow mapBlock
    rw [heap_grow_old _ _ (by simpa [ahead] using hb)]
    simp [Array.getElem?_modify, Ne.symm hne]
  refine ⟨⟨by rw [kfl_length hk]; simp [hs], ?_⟩, ⟨⟨rfl, rfl, rfl, Go.Proofs.size_sortWorldK_c enc k w g 0 m d os, fun b hb => hheap b (Nat.lt_trans hb hlt) (by omega)⟩, fun b hb hne => hheap b hb hne⟩⟩
  rcases h.2 with ⟨h2, _⟩ | ⟨g', cap', cur, hv, hB, c, h3, h4, h5, h6⟩
  · cases h2
  · injection hv with hv1 hv2 hv3
    injection hv1 with hv1
    injection hv1 with hv1
    subst hv1
    subst hv3
    have hg : (Go.Proofs.sortWorldK enc k w g 0 m d os).heap[g]? = some (.cells (putCells id 0 (flatK enc k d) cur) e (0, 0)) := by
      unfold Go.Proofs.sortWorldK putRowK putRow mapBlock
      rw [heap_grow_old _ _ (by simpa [ahead] using hlt)]
      simp [Array.getElem?_modify, c, onCells]
    have hsz : (putCells id 0 (flatK enc k d) cur).size = cur.size := by simp [putCells]
    refine .inr ⟨g, cap, _, rfl, hB, hg, h3, h4, by rw [hsz]; exact h5, ?_⟩
    have hle : n * k ≤ (putCells id 0 (flatK enc k d) cur).toList.length := by
      rw [Array.length_toList, hsz, h5]
      exact Nat.mul_le_mul_right _ h3
    refine List.ext_getElem? fun j => ?_
    rw [List.getElem?_take]
    split
    · rename_i hj
      have hq : j / k < n := (Nat.div_lt_iff_lt_mul hp).2 hj
      have hm : j % k < k := Nat.mod_lt _ hp
      have e3 : j / k * k + j % k = j := Nat.div_add_mod' j k
      have e1 := (hH'.cell (i := j / k) (c := j % k) (by omega) hm).1
      rw [Nat.zero_add, e3, RawAt.cell (t := e) hg, ← Array.getElem?_toList] at e1
      have hqd : j / k < d.toList.length := by simpa [hs] using hq
      have e2 := kfl_at hk d.toList (j / k) hqd (j % k) hm
      rw [e3] at e2
      have hlc : j % k < (enc d.toList[j / k]).length := by rw [hk]; exact hm
      have hel : d[j / k]! = d.toList[j / k] := by rw [getElem!_pos d (j / k) (by omega)]; simp
      rw [e1, e2, hel, getElem!_pos (enc d.toList[j / k]) (j % k) hlc, List.getElem?_eq_getElem hlc]
    · rename_i hj
      rw [List.getElem?_eq_none (by rw [kfl_length hk]; simp [hs]; omega)]
end
set_option linter.unusedVariables false
/-- An inlay. -/
structure In where
  id : Int
  pl : Int
  bi : Int
  ky : Int
  tx : ByteArray
instance : Inhabited In := ⟨⟨0, 0, 0, 0, ⟨#[]⟩⟩⟩
def encI (a : In) : List Value := [.int .i64 a.id, .int .i64 a.pl, .int .i64 a.bi, .int .i64 a.ky, .string a.tx]
theorem encI_len (a : In) : (encI a).length = 5 := rfl
theorem encI_one (a : In) : ∀ v ∈ encI a, v.oneCell' = true := by intro v hv; simp [encI] at hv; rcases hv with rfl | rfl | rfl | rfl | rfl <;> rfl
/-- Which is ahead. -/
def icf (a b : In) : Int := orr [cmpI a.pl b.pl, cmpI a.ky b.ky, cmpI a.id b.id]
def ilt (a b : In) : Bool := decide (a.pl < b.pl ∨ a.pl = b.pl ∧ (a.ky < b.ky ∨ a.ky = b.ky ∧ a.id < b.id))
theorem icf_ilt (a b : In) : Go.Proofs.ltOf icf a b = ilt a b := by
  unfold Go.Proofs.ltOf icf ilt orr cmpI
  by_cases h1 : a.pl < b.pl
  · simp [h1]
  · by_cases h2 : b.pl < a.pl
    · simp [h1, h2]; omega
    · have : a.pl = b.pl := by omega
      simp [this, orr]
      by_cases h3 : a.ky < b.ky
      · simp [h3]
      · by_cases h4 : b.ky < a.ky
        · simp [h3, h4]; omega
        · have : a.ky = b.ky := by omega
          simp [this]
          by_cases h5 : a.id < b.id
          · simp [h5]
          · by_cases h6 : b.id < a.id
            · simp [h5, h6]
            · simp [h5, h6]
theorem ilt_swo : SWO ilt where
  irrefl x := by simp [ilt]
  trans x y z h1 h2 := by simp only [ilt, decide_eq_true_eq] at *; omega
  ntrans x y z h1 h2 := by simp only [ilt, decide_eq_false_iff_not] at *; omega
theorem icf_swo : SWO (Go.Proofs.ltOf icf) := by
  have e : Go.Proofs.ltOf icf = ilt := by funext a b; exact icf_ilt a b
  rw [e]
  exact ilt_swo
theorem in_info : (Tryz.prog.info? 63).map (fun i => (i.zero, i.size, i.bytes)) = some (some (.agg #[.int .i64 0, .int .i64 0, .int .i64 0, .int .i64 0, .string ⟨#[]⟩]), 5, 48) := by kernel_rfl
theorem in_slt : SlT Tryz.prog 22 63 5 48 := slt_of Tryz.underlying22 in_info rfl (by kernel_rfl)
set_option maxHeartbeats 4000000 in
set_option maxRecDepth 100000 in
theorem iOrder_any (a b : In) (w : World) : Calls Tryz.prog 45 #[.agg #[.int .i64 a.id, .int .i64 a.pl, .int .i64 a.bi, .int .i64 a.ky, .string a.tx], .agg #[.int .i64 b.id, .int .i64 b.pl, .int .i64 b.bi, .int .i64 b.ky, .string b.tx]] w fun e w' => e = .returned (.int .i64 (icf a b)) ∧ ∃ q os', w' = grow (w.drewN q) os' := by
  have C1 := Lib.hid fun W => cmpInt_any a.pl b.pl W
  have C2 := Lib.hid fun W => cmpInt_any a.ky b.ky W
  have C3 := Lib.hid fun W => cmpInt_any a.id b.id W
  have x1 : RawAt 63 ((w.alloc (.cells #[.int .i64 a.id, .int .i64 a.pl, .int .i64 a.bi, .int .i64 a.ky, .string a.tx] 63)).alloc (.cells #[.int .i64 b.id, .int .i64 b.pl, .int .i64 b.bi, .int .i64 b.ky, .string b.tx] 63)) w.heap.size #[.int .i64 a.id, .int .i64 a.pl, .int .i64 a.bi, .int .i64 a.ky, .string a.tx] := (new2 w _ _ _ _).1
  have x2 : RawAt 63 ((w.alloc (.cells #[.int .i64 a.id, .int .i64 a.pl, .int .i64 a.bi, .int .i64 a.ky, .string a.tx] 63)).alloc (.cells #[.int .i64 b.id, .int .i64 b.pl, .int .i64 b.bi, .int .i64 b.ky, .string b.tx] 63)) (w.heap.size + 1) #[.int .i64 b.id, .int .i64 b.pl, .int .i64 b.bi, .int .i64 b.ky, .string b.tx] := (new2 w _ _ _ _).2.1
  obtain ⟨W2, hW2⟩ : ∃ W2, W2 = ((w.alloc (.cells #[.int .i64 a.id, .int .i64 a.pl, .int .i64 a.bi, .int .i64 a.ky, .string a.tx] 63)).alloc (.cells #[.int .i64 b.id, .int .i64 b.pl, .int .i64 b.bi, .int .i64 b.ky, .string b.tx] 63)) := ⟨_, rfl⟩
  have HW2 := Lib.hid hW2
  rw [← hW2] at x1 x2
  have CO := Lib.hid (orInt_any (some ⟨W2.heap.size, 0, none⟩) 3 3 [cmpI a.pl b.pl, cmpI a.ky b.ky, cmpI a.id b.id] (W2.alloc (.cells #[.int .i64 (cmpI a.pl b.pl), .int .i64 (cmpI a.ky b.ky), .int .i64 (cmpI a.id b.id)] 3)).drew (fun _ => ⟨_, 0, rfl, by simp, fun k hk => by
    have hr : RawAt 3 (W2.alloc (.cells #[.int .i64 (cmpI a.pl b.pl), .int .i64 (cmpI a.ky b.ky), .int .i64 (cmpI a.id b.id)] 3)).drew W2.heap.size #[.int .i64 (cmpI a.pl b.pl), .int .i64 (cmpI a.ky b.ky), .int .i64 (cmpI a.id b.id)] := heap_alloc_new W2 _
    have h2 : k = 0 ∨ k = 1 ∨ k = 2 := by simp at hk; omega
    rcases h2 with rfl | rfl | rfl
    · exact RawAt.cell hr 0
    · exact RawAt.cell hr 1
    · exact RawAt.cell hr 2⟩) rfl (by omega))
  have HR : Hid (orr [cmpI a.pl b.pl, cmpI a.ky b.ky, cmpI a.id b.id] = icf a b) := Lib.hid rfl
  rw [HR.out] at CO
  have MK : Hid (∀ W : World, RawAt 63 W w.heap.size #[.int .i64 a.id, .int .i64 a.pl, .int .i64 a.bi, .int .i64 a.ky, .string a.tx] → RawAt 63 W (w.heap.size + 1) #[.int .i64 b.id, .int .i64 b.pl, .int .i64 b.bi, .int .i64 b.ky, .string b.tx] → (fun W => W.cell? ⟨w.heap.size, 1, none⟩ = some (.int .i64 a.pl) ∧ W.cell? ⟨w.heap.size + 1, 1, none⟩ = some (.int .i64 b.pl) ∧ W.cell? ⟨w.heap.size, 3, none⟩ = some (.int .i64 a.ky) ∧ W.cell? ⟨w.heap.size + 1, 3, none⟩ = some (.int .i64 b.ky) ∧ W.cell? ⟨w.heap.size, 0, none⟩ = some (.int .i64 a.id) ∧ W.cell? ⟨w.heap.size + 1, 0, none⟩ = some (.int .i64 b.id)) W) := fun W h1 h2 => ⟨RawAt.cell h1 1, RawAt.cell h2 1, RawAt.cell h1 3, RawAt.cell h2 3, RawAt.cell h1 0, RawAt.cell h2 0⟩
  have x1d : RawAt 63 W2.drew w.heap.size _ := x1
  have x2d : RawAt 63 W2.drew (w.heap.size + 1) _ := x2
  have y1 : RawAt 63 (W2.alloc (.cells #[.int .i64 (cmpI a.pl b.pl), .int .i64 (cmpI a.ky b.ky), .int .i64 (cmpI a.id b.id)] 3)).drew w.heap.size _ := RawAt.below x1 (((Below.refl _ _).alloc (Nat.le_refl _) _).drew) x1.lt
  have y2 : RawAt 63 (W2.alloc (.cells #[.int .i64 (cmpI a.pl b.pl), .int .i64 (cmpI a.ky b.ky), .int .i64 (cmpI a.id b.id)] 3)).drew (w.heap.size + 1) _ := RawAt.below x2 (((Below.refl _ _).alloc (Nat.le_refl _) _).drew) x2.lt
  clear hW2
  generalize icf a b = r at *
  generalize cmpI a.pl b.pl = r1 at *
  generalize cmpI a.ky b.ky = r2 at *
  generalize cmpI a.id b.id = r3 at *
  go_enter Tryz.func45, Tryz.ntmps45
  go_wp2_with fail
  rw [← HW2.out]
  refine wp_region_noPanic ?_
  refine wp_region_held_drew (S := (fun W => W.cell? ⟨w.heap.size, 1, none⟩ = some (.int .i64 a.pl) ∧ W.cell? ⟨w.heap.size + 1, 1, none⟩ = some (.int .i64 b.pl) ∧ W.cell? ⟨w.heap.size, 3, none⟩ = some (.int .i64 a.ky) ∧ W.cell? ⟨w.heap.size + 1, 3, none⟩ = some (.int .i64 b.ky) ∧ W.cell? ⟨w.heap.size, 0, none⟩ = some (.int .i64 a.id) ∧ W.cell? ⟨w.heap.size + 1, 0, none⟩ = some (.int .i64 b.id))) (by kernel_rfl) (MK.out _ x1d x2d) (fun hHeld => ?_)
  refine wpAnyH_take (i := 0) (v := ?_) rfl (by kernel_rfl) (by kernel_rfl) (by kernel_rfl) (fun _ _ _ h => h) (Or.inl ⟨by rfl, ?_⟩) hHeld ?_
  rotate_left
  · intro w hSw
    (try dsimp only at hSw)
    go_simp
    try with_reducible rfl
  go_simp
  refine wpAnyH_take (i := 1) (v := ?_) rfl (by kernel_rfl) (by kernel_rfl) (by kernel_rfl) (fun _ _ _ h => h) (Or.inl ⟨by rfl, ?_⟩) hHeld ?_
  rotate_left
  · intro w hSw
    (try dsimp only at hSw)
    go_simp
    try with_reducible rfl
  go_simp
  refine wpAnyH_take (i := 2) (v := ?_) rfl (by kernel_rfl) (by kernel_rfl) (by kernel_rfl) (fun _ _ _ h => h) (Or.inl ⟨by rfl, ?_⟩) hHeld ?_
  rotate_left
  · intro w hSw
    (try dsimp only at hSw)
    go_simp
    try with_reducible rfl
  go_simp
  refine wpAnyH_take (i := 3) (v := ?_) rfl (by kernel_rfl) (by kernel_rfl) (by kernel_rfl) (fun _ _ _ h => h) (Or.inl ⟨by rfl, ?_⟩) hHeld ?_
  rotate_left
  · intro w hSw
    (try dsimp only at hSw)
    go_simp
    try with_reducible rfl
  go_simp
  refine wpAnyH_take (i := 5) (v := ?_) rfl (by kernel_rfl) (by kernel_rfl) (by kernel_rfl) (fun _ _ _ h => h) (Or.inl ⟨by rfl, ?_⟩) hHeld ?_
  rotate_left
  · intro w hSw
    (try dsimp only at hSw)
    go_simp
    try with_reducible rfl
  go_simp
  refine wpAnyH_take (i := 6) (v := ?_) rfl (by kernel_rfl) (by kernel_rfl) (by kernel_rfl) (fun _ _ _ h => h) (Or.inl ⟨by rfl, ?_⟩) hHeld ?_
  rotate_left
  · intro w hSw
    (try dsimp only at hSw)
    go_simp
    try with_reducible rfl
  go_simp
  refine wpAnyH_take (i := 7) (v := ?_) rfl (by kernel_rfl) (by kernel_rfl) (by kernel_rfl) (fun _ _ _ h => h) (Or.inl ⟨by rfl, ?_⟩) hHeld ?_
  rotate_left
  · intro w hSw
    (try dsimp only at hSw)
    go_simp
    try with_reducible rfl
  go_simp
  refine wpAnyH_take (i := 8) (v := ?_) rfl (by kernel_rfl) (by kernel_rfl) (by kernel_rfl) (fun _ _ _ h => h) (Or.inl ⟨by rfl, ?_⟩) hHeld ?_
  rotate_left
  · intro w hSw
    (try dsimp only at hSw)
    go_simp
    try with_reducible rfl
  go_simp
  refine wpAnyH_take (i := 10) (v := ?_) rfl (by kernel_rfl) (by kernel_rfl) (by kernel_rfl) (fun _ _ _ h => h) (Or.inl ⟨by rfl, ?_⟩) hHeld ?_
  rotate_left
  · intro w hSw
    (try dsimp only at hSw)
    go_simp
    try with_reducible rfl
  go_simp
  refine wpAnyH_take (i := 11) (v := ?_) rfl (by kernel_rfl) (by kernel_rfl) (by kernel_rfl) (fun _ _ _ h => h) (Or.inl ⟨by rfl, ?_⟩) hHeld ?_
  rotate_left
  · intro w hSw
    (try dsimp only at hSw)
    go_simp
    try with_reducible rfl
  go_simp
  refine wpAnyH_take (i := 12) (v := ?_) rfl (by kernel_rfl) (by kernel_rfl) (by kernel_rfl) (fun _ _ _ h => h) (Or.inl ⟨by rfl, ?_⟩) hHeld ?_
  rotate_left
  · intro w hSw
    (try dsimp only at hSw)
    go_simp
    try with_reducible rfl
  go_simp
  refine wpAnyH_take (i := 13) (v := ?_) rfl (by kernel_rfl) (by kernel_rfl) (by kernel_rfl) (fun _ _ _ h => h) (Or.inl ⟨by rfl, ?_⟩) hHeld ?_
  rotate_left
  · intro w hSw
    (try dsimp only at hSw)
    go_simp
    try with_reducible rfl
  go_simp
  refine wpAnyH_ready (rs := [4]) (by kernel_rfl) (by simp) ?_
  refine AllReadyH.cons rfl (fun K hK => ?_) ?_
  rotate_left
  · exact AllReadyH.nil
  go_simp
  go_wp2_with (first | (go_at_call 84; (with_reducible refine (C1.out _).mono ?_); rintro e w1 ⟨rfl, rfl⟩) | (go_at_call 84; (with_reducible refine (C2.out _).mono ?_); rintro e w1 ⟨rfl, rfl⟩) | (go_at_call 84; (with_reducible refine (C3.out _).mono ?_); rintro e w1 ⟨rfl, rfl⟩) | (go_at_call 83; (with_reducible refine (CO.out).mono ?_); rintro e w1 ⟨rfl, rfl⟩))
  refine hK.out _ _ (by first | (with_reducible exact MK.out _ x1d x2d) | exact MK.out _ y1 y2) (fun hHeld => ?_)
  clear hK K
  go_simp
  refine wpAnyH_ready (rs := [9]) (by kernel_rfl) (by simp) ?_
  refine AllReadyH.cons rfl (fun K hK => ?_) ?_
  rotate_left
  · exact AllReadyH.nil
  go_simp
  go_wp2_with (first | (go_at_call 84; (with_reducible refine (C1.out _).mono ?_); rintro e w1 ⟨rfl, rfl⟩) | (go_at_call 84; (with_reducible refine (C2.out _).mono ?_); rintro e w1 ⟨rfl, rfl⟩) | (go_at_call 84; (with_reducible refine (C3.out _).mono ?_); rintro e w1 ⟨rfl, rfl⟩) | (go_at_call 83; (with_reducible refine (CO.out).mono ?_); rintro e w1 ⟨rfl, rfl⟩))
  refine hK.out _ _ (by first | (with_reducible exact MK.out _ x1d x2d) | exact MK.out _ y1 y2) (fun hHeld => ?_)
  clear hK K
  go_simp
  refine wpAnyH_ready (rs := [14]) (by kernel_rfl) (by simp) ?_
  refine AllReadyH.cons rfl (fun K hK => ?_) ?_
  rotate_left
  · exact AllReadyH.nil
  go_simp
  go_wp2_with (first | (go_at_call 84; (with_reducible refine (C1.out _).mono ?_); rintro e w1 ⟨rfl, rfl⟩) | (go_at_call 84; (with_reducible refine (C2.out _).mono ?_); rintro e w1 ⟨rfl, rfl⟩) | (go_at_call 84; (with_reducible refine (C3.out _).mono ?_); rintro e w1 ⟨rfl, rfl⟩) | (go_at_call 83; (with_reducible refine (CO.out).mono ?_); rintro e w1 ⟨rfl, rfl⟩))
  refine hK.out _ _ (by first | (with_reducible exact MK.out _ x1d x2d) | exact MK.out _ y1 y2) (fun hHeld => ?_)
  clear hK K
  go_simp
  refine wpAnyH_ready (rs := [15]) (by kernel_rfl) (by simp) ?_
  refine AllReadyH.cons rfl (fun K hK => ?_) ?_
  rotate_left
  · exact AllReadyH.nil
  go_simp
  go_wp2_with (first | (go_at_call 84; (with_reducible refine (C1.out _).mono ?_); rintro e w1 ⟨rfl, rfl⟩) | (go_at_call 84; (with_reducible refine (C2.out _).mono ?_); rintro e w1 ⟨rfl, rfl⟩) | (go_at_call 84; (with_reducible refine (C3.out _).mono ?_); rintro e w1 ⟨rfl, rfl⟩) | (go_at_call 83; (with_reducible refine (CO.out).mono ?_); rintro e w1 ⟨rfl, rfl⟩))
  refine hK.out _ _ (by first | (with_reducible exact MK.out _ x1d x2d) | exact MK.out _ y1 y2) (fun hHeld => ?_)
  clear hK K
  go_simp
  refine wpAnyH_ready (rs := [16]) (by kernel_rfl) (by simp) ?_
  refine AllReadyH.cons rfl (fun K hK => ?_) ?_
  rotate_left
  · exact AllReadyH.nil
  go_simp
  go_wp2_with (first | (go_at_call 84; (with_reducible refine (C1.out _).mono ?_); rintro e w1 ⟨rfl, rfl⟩) | (go_at_call 84; (with_reducible refine (C2.out _).mono ?_); rintro e w1 ⟨rfl, rfl⟩) | (go_at_call 84; (with_reducible refine (C3.out _).mono ?_); rintro e w1 ⟨rfl, rfl⟩) | (go_at_call 83; (with_reducible refine (CO.out).mono ?_); rintro e w1 ⟨rfl, rfl⟩))
  refine hK.out _ _ (by first | (with_reducible exact MK.out _ x1d x2d) | exact MK.out _ y1 y2) (fun hHeld => ?_)
  clear hK K
  go_simp
  refine wpAnyH_take (i := 17) (v := ?_) rfl (by kernel_rfl) (by kernel_rfl) (by kernel_rfl) (fun _ _ _ h => h) (Or.inl ⟨by rfl, ?_⟩) hHeld ?_
  rotate_left
  · intro w hSw
    (try dsimp only at hSw)
    go_simp
    try with_reducible rfl
  go_simp
  refine wpAnyH_done (by kernel_rfl) ?_ _
  refine NoPanic.normal ?_
  go_wp2
  go_ret
  exact ⟨rfl, 1, _, by rw [HW2.out]; simp only [alloc_eq_grow, drew_grow, grow_grow]; rfl⟩
theorem icmpLays (blk off size : Nat) (w : World) : CmpLays Tryz.prog 45 #[] encI 5 icf blk off size w :=
  fun _ _ _ _ x y => iOrder_any x y _
/-- slices.SortFunc at anchors whose numbers differ. -/
theorem iSort_any {B : Nat} {w : World} {g n cap : Nat} {l : List In} (h : w.ownsRow B 63 5 (.slice (some ⟨g, 0, none⟩) n cap) n (kfl encI l)) (hn : n ≤ 100000) (hi : ∀ x ∈ l, ∀ y ∈ l, x.id = y.id → x = y) :
    Calls Tryz.prog 44 #[.slice (some ⟨g, 0, none⟩) n cap, .func (.func 45) #[] #[]] w fun e w' => e = .returned (.tuple #[]) ∧ w'.ownsRow B 63 5 (.slice (some ⟨g, 0, none⟩) n cap) n (kfl encI (ord ilt l)) ∧ OnB g w w' := by
  have hl := own_len encI_len (by omega) h
  have hH := holdsK_of_own encI_len h hl
  have hlt : g < w.heap.size := (h.lt g rfl).2
  have eg : ∀ args w, (callFunc 45 args).run Tryz.prog w = .ok (.enter 45 args) w := enters_of Tryz.func45 (by kernel_rfl) rfl
  have hcon := AnyQ.slices_SortFunc Tryz.sortIn 5 Tryz.isAgg63 Tryz.sizeOf63 encI encI_len encI_one icf icf_swo 45 #[] g 0 cap l.toArray w eg (icmpLays g 0 _ w) hH hlt (by simp; omega)
  have hsz : l.toArray.size = n := by simpa using hl
  rw [hsz] at hcon
  refine Calls.mono hcon ?_
  rintro e w' ⟨rfl, d', m, os, hp, hs, rfl⟩
  have hds : d'.size = n := by rw [hp.1]; exact hsz
  obtain ⟨r1, r2⟩ := own_sort encI_len (by omega) h hl hds m os
  have e0 : Go.Proofs.ltOf icf = ilt := by funext a b; exact icf_ilt a b
  rw [e0] at hs
  have hpp : PermIn 0 l.length l.toArray d' := by rw [hl]; exact hp
  have hss : SortedIn ilt 0 l.length d' := by rw [hl]; exact hs
  have hd := ord_of_array ilt ilt_swo hpp hss (fun x hx y hy h1 h2 => hi x hx y hy (by simp only [ilt, decide_eq_false_iff_not] at h1 h2; omega))
  rw [hd] at r1
  exact ⟨rfl, r1, r2⟩
theorem own_madeI (w : World) (e : TypeId) (k : Nat) : (w.alloc (.cells #[] e)).ownsRow w.heap.size e k (.slice (some ⟨w.heap.size, 0, none⟩) 0 0) 0 [] :=
  ⟨by simp, .inr ⟨w.heap.size, 0, #[], rfl, Nat.le_refl _, heap_alloc_new w _, Nat.le_refl _, by decide, by simp, by simp⟩⟩
set_option maxHeartbeats 4000000 in
set_option maxRecDepth 100000 in
theorem iClone_any (A : Option Addr) (n c : Nat) (l : List In) (w : World) (hA : RowsAt encI 5 w A l) (hcap : Caps A n c) (hl : l.length = n) (hn : n ≤ 100000) :
    Calls Tryz.prog 42 #[.slice A n c] w fun e w' => ∃ v, e = .returned v ∧ w'.ownsRow w.heap.size 63 5 v n (kfl encI l) ∧ Below w.heap.size w w' ∧ (0 < n → ∃ g cap, v = .slice (some ⟨g, 0, none⟩) n cap) := by
  have HL := Lib.hid hl
  have HC := Lib.hid hcap
  have ST := in_slt
  have ON := Lib.hid (own_madeI w 63 5)
  have x1 : Below w.heap.size w (w.alloc (.cells #[] 63)) := (Below.refl _ _).alloc (Nat.le_refl _) _
  have HA := Lib.hid (hA.below x1)
  clear hl hcap hA
  rcases A with _ | a
  · have hc0 : c = 0 := HC.out.2 rfl
    have hn0 : n = 0 := by have := HC.out.1; omega
    subst hc0
    subst hn0
    have hz : l = [] := List.eq_nil_of_length_eq_zero HL.out
    subst hz
    have he := fun W : World => Lib.run_eql_slice_nil (P := Tryz.prog) W 22 63 none 0 0 0 0 Tryz.underlying22
    clear HA HC HL ON x1 ST
    go_enter Tryz.func42, Tryz.ntmps42
    go_wp2
    go_ret
    exact ⟨_, rfl, World.ownsRow_nil _ _ _ _, Below.refl _ _, fun h => absurd h (by omega)⟩
  · have he := fun W : World => Lib.run_eql_slice_nil (P := Tryz.prog) W 22 63 (some a) n c 0 0 Tryz.underlying22
    go_enter Tryz.func42, Tryz.ntmps42
    go_wp2_with (at_builtin; refine wpList_appK (enc := encI) ST encI_len (by omega) rfl (.tmp 5) (.tmp 6) rfl (base := w.heap.size) (v := .slice (some ⟨w.heap.size, 0, none⟩) 0 0) (n := 0) (xs := []) rfl ON.out (some a) n c l rfl HA.out HC.out HL.out (kfl_one' encI_one l) (by simp only [maxLen]; omega) (by omega) x1.size ?_; intro v1 w1 hown1 hg1 hor1)
    have hbw : Below w.heap.size w w1 := x1.grown hg1 x1.size (fun k hk => Nat.le_of_eq (by simpa [Value.ownBlock] using hk))
    rw [Nat.zero_add, List.nil_append] at hown1
    have HO := Lib.hid hown1
    clear hown1 hg1 hor1
    go_wp2
    go_ret
    exact ⟨v1, rfl, HO.out, hbw, fun h => own_slice HO.out h⟩
end Go.Proofs.YtpnjokhhbjpciaaGreatDoor
