/- Folds: what one is in memory; order; slices.Clone and slices.SortFunc at spans. -/
import Derived.Test.YtnfjleobcfhpnaaAppK
import Derived.Test.YtnfjleobcfhpnaaCmpI
import Derived.Test.YtnfjleobcfhpnaaSortW
import Derived.Test.YtnfjleobcfhpnaaSortFo
import Derived.Deep.RegionHeld3
namespace Go.Proofs.Ytnfjleobcfhpnaa
open Go.RowKit Go.Sort
set_option linter.unusedVariables false
/-- A fold. -/
structure Fo where
  f : Int
  t : Int
  deriving DecidableEq
instance : Inhabited Fo := ⟨⟨0, 0⟩⟩
def encF (a : Fo) : List Value := [.int .i64 a.f, .int .i64 a.t]
theorem encF_len (a : Fo) : (encF a).length = 2 := rfl
theorem encF_one (a : Fo) : ∀ v ∈ encF a, v.oneCell' = true := by intro v hv; simp [encF] at hv; rcases hv with rfl | rfl <;> rfl
/-- Which is ahead. -/
def fcf (a b : Fo) : Int := orr [cmpI a.f b.f, cmpI a.t b.t]
def flt (a b : Fo) : Bool := decide (a.f < b.f ∨ a.f = b.f ∧ a.t < b.t)
theorem fcf_flt (a b : Fo) : Go.Proofs.ltOf fcf a b = flt a b := by
  unfold Go.Proofs.ltOf fcf flt orr cmpI
  by_cases h1 : a.f < b.f
  · simp [h1]
  · by_cases h2 : b.f < a.f
    · simp [h1, h2]; omega
    · have : a.f = b.f := by omega
      simp [this, orr]
      by_cases h3 : a.t < b.t
      · simp [h3]
      · by_cases h4 : b.t < a.t
        · simp [h3, h4]
        · simp [h3, h4]
theorem flt_swo : SWO flt where
  irrefl x := by simp [flt]
  trans x y z h1 h2 := by simp only [flt, decide_eq_true_eq] at *; omega
  ntrans x y z h1 h2 := by simp only [flt, decide_eq_false_iff_not] at *; omega
theorem fcf_swo : SWO (Go.Proofs.ltOf fcf) := by
  have e : Go.Proofs.ltOf fcf = flt := by funext a b; exact fcf_flt a b
  rw [e]
  exact flt_swo
theorem flt_eq {x y : Fo} (h1 : flt x y = false) (h2 : flt y x = false) : x = y := by
  cases x
  cases y
  simp only [flt, decide_eq_false_iff_not] at h1 h2
  simp only [Fo.mk.injEq]
  omega
theorem fo_info : (Try.prog.info? 33).map (fun i => (i.zero, i.size, i.bytes)) = some (some (.agg #[.int .i64 0, .int .i64 0]), 2, 16) := by kernel_rfl
theorem fo_slt : SlT Try.prog 22 33 2 16 := slt_of Try.underlying22 fo_info rfl (by kernel_rfl)
set_option maxHeartbeats 4000000 in
set_option maxRecDepth 100000 in
theorem fOrder_any (a b : Fo) (w : World) : Calls Try.prog 38 #[.agg #[.int .i64 a.f, .int .i64 a.t], .agg #[.int .i64 b.f, .int .i64 b.t]] w fun e w' => e = .returned (.int .i64 (fcf a b)) ∧ ∃ q os', w' = grow (w.drewN q) os' := by
  have C1 := Lib.hid fun W => cmpInt_any a.f b.f W
  have C2 := Lib.hid fun W => cmpInt_any a.t b.t W
  have x1 : RawAt 33 ((w.alloc (.cells #[.int .i64 a.f, .int .i64 a.t] 33)).alloc (.cells #[.int .i64 b.f, .int .i64 b.t] 33)) w.heap.size #[.int .i64 a.f, .int .i64 a.t] := (new2 w _ _ _ _).1
  have x2 : RawAt 33 ((w.alloc (.cells #[.int .i64 a.f, .int .i64 a.t] 33)).alloc (.cells #[.int .i64 b.f, .int .i64 b.t] 33)) (w.heap.size + 1) #[.int .i64 b.f, .int .i64 b.t] := (new2 w _ _ _ _).2.1
  obtain ⟨W2, hW2⟩ : ∃ W2, W2 = ((w.alloc (.cells #[.int .i64 a.f, .int .i64 a.t] 33)).alloc (.cells #[.int .i64 b.f, .int .i64 b.t] 33)) := ⟨_, rfl⟩
  have HW2 := Lib.hid hW2
  rw [← hW2] at x1 x2
  have CO := Lib.hid (orInt_any (some ⟨W2.heap.size, 0, none⟩) 2 2 [cmpI a.f b.f, cmpI a.t b.t] (W2.alloc (.cells #[.int .i64 (cmpI a.f b.f), .int .i64 (cmpI a.t b.t)] 3)).drew (fun _ => ⟨_, 0, rfl, by simp, fun k hk => by
    have hr : RawAt 3 (W2.alloc (.cells #[.int .i64 (cmpI a.f b.f), .int .i64 (cmpI a.t b.t)] 3)).drew W2.heap.size #[.int .i64 (cmpI a.f b.f), .int .i64 (cmpI a.t b.t)] := heap_alloc_new W2 _
    have h2 : k = 0 ∨ k = 1 := by simp at hk; omega
    rcases h2 with rfl | rfl
    · exact RawAt.cell hr 0
    · exact RawAt.cell hr 1⟩) rfl (by omega))
  have HR : Hid (orr [cmpI a.f b.f, cmpI a.t b.t] = fcf a b) := Lib.hid rfl
  rw [HR.out] at CO
  have MK : Hid (∀ W : World, RawAt 33 W w.heap.size #[.int .i64 a.f, .int .i64 a.t] → RawAt 33 W (w.heap.size + 1) #[.int .i64 b.f, .int .i64 b.t] → (fun W => W.cell? ⟨w.heap.size, 0, none⟩ = some (.int .i64 a.f) ∧ W.cell? ⟨w.heap.size + 1, 0, none⟩ = some (.int .i64 b.f) ∧ W.cell? ⟨w.heap.size, 1, none⟩ = some (.int .i64 a.t) ∧ W.cell? ⟨w.heap.size + 1, 1, none⟩ = some (.int .i64 b.t)) W) := fun W h1 h2 => ⟨RawAt.cell h1 0, RawAt.cell h2 0, RawAt.cell h1 1, RawAt.cell h2 1⟩
  have x1d : RawAt 33 W2.drew w.heap.size _ := x1
  have x2d : RawAt 33 W2.drew (w.heap.size + 1) _ := x2
  have y1 : RawAt 33 (W2.alloc (.cells #[.int .i64 (cmpI a.f b.f), .int .i64 (cmpI a.t b.t)] 3)).drew w.heap.size _ := RawAt.below x1 (((Below.refl _ _).alloc (Nat.le_refl _) _).drew) x1.lt
  have y2 : RawAt 33 (W2.alloc (.cells #[.int .i64 (cmpI a.f b.f), .int .i64 (cmpI a.t b.t)] 3)).drew (w.heap.size + 1) _ := RawAt.below x2 (((Below.refl _ _).alloc (Nat.le_refl _) _).drew) x2.lt
  clear hW2
  generalize fcf a b = r at *
  generalize cmpI a.f b.f = r1 at *
  generalize cmpI a.t b.t = r2 at *
  go_enter Try.func38, Try.ntmps38
  go_wp2_with fail
  rw [← HW2.out]
  refine wp_region_noPanic ?_
  refine wp_region_held_drew (S := (fun W => W.cell? ⟨w.heap.size, 0, none⟩ = some (.int .i64 a.f) ∧ W.cell? ⟨w.heap.size + 1, 0, none⟩ = some (.int .i64 b.f) ∧ W.cell? ⟨w.heap.size, 1, none⟩ = some (.int .i64 a.t) ∧ W.cell? ⟨w.heap.size + 1, 1, none⟩ = some (.int .i64 b.t))) (by kernel_rfl) (MK.out _ x1d x2d) (fun hHeld => ?_)
  refine wpAnyH_take (i := 0) (v := ?_) rfl (by kernel_rfl) (by kernel_rfl) (by kernel_rfl) (fun _ _ _ h => h) (Or.inl ⟨by rfl, ?_⟩) hHeld ?_
  rotate_left
  · intro w hSw
    (try dsimp only at hSw)
    go_simp
    try with_reducible rfl
  go_simp
  refine wpAnyH_take (i := 1) (v := ?_) rfl (by kernel_rfl) (by kernel_rfl) (by kernel_rfl) (fun _ _ _ h => h) (Or.inl ⟨by rfl, ?_⟩) hHeld ?_
  rotate_left
  · intro w hSw
    (try dsimp only at hSw)
    go_simp
    try with_reducible rfl
  go_simp
  refine wpAnyH_take (i := 2) (v := ?_) rfl (by kernel_rfl) (by kernel_rfl) (by kernel_rfl) (fun _ _ _ h => h) (Or.inl ⟨by rfl, ?_⟩) hHeld ?_
  rotate_left
  · intro w hSw
    (try dsimp only at hSw)
    go_simp
    try with_reducible rfl
  go_simp
  refine wpAnyH_take (i := 3) (v := ?_) rfl (by kernel_rfl) (by kernel_rfl) (by kernel_rfl) (fun _ _ _ h => h) (Or.inl ⟨by rfl, ?_⟩) hHeld ?_
  rotate_left
  · intro w hSw
    (try dsimp only at hSw)
    go_simp
    try with_reducible rfl
  go_simp
  refine wpAnyH_take (i := 5) (v := ?_) rfl (by kernel_rfl) (by kernel_rfl) (by kernel_rfl) (fun _ _ _ h => h) (Or.inl ⟨by rfl, ?_⟩) hHeld ?_
  rotate_left
  · intro w hSw
    (try dsimp only at hSw)
    go_simp
    try with_reducible rfl
  go_simp
  refine wpAnyH_take (i := 6) (v := ?_) rfl (by kernel_rfl) (by kernel_rfl) (by kernel_rfl) (fun _ _ _ h => h) (Or.inl ⟨by rfl, ?_⟩) hHeld ?_
  rotate_left
  · intro w hSw
    (try dsimp only at hSw)
    go_simp
    try with_reducible rfl
  go_simp
  refine wpAnyH_take (i := 7) (v := ?_) rfl (by kernel_rfl) (by kernel_rfl) (by kernel_rfl) (fun _ _ _ h => h) (Or.inl ⟨by rfl, ?_⟩) hHeld ?_
  rotate_left
  · intro w hSw
    (try dsimp only at hSw)
    go_simp
    try with_reducible rfl
  go_simp
  refine wpAnyH_take (i := 8) (v := ?_) rfl (by kernel_rfl) (by kernel_rfl) (by kernel_rfl) (fun _ _ _ h => h) (Or.inl ⟨by rfl, ?_⟩) hHeld ?_
  rotate_left
  · intro w hSw
    (try dsimp only at hSw)
    go_simp
    try with_reducible rfl
  go_simp
  refine wpAnyH_ready (rs := [4]) (by kernel_rfl) (by simp) ?_
  refine AllReadyH.cons rfl (fun K hK => ?_) ?_
  rotate_left
  · exact AllReadyH.nil
  go_simp
  go_wp2_with (first | (go_at_call 64; (with_reducible refine (C1.out _).mono ?_); rintro e w1 ⟨rfl, rfl⟩) | (go_at_call 64; (with_reducible refine (C2.out _).mono ?_); rintro e w1 ⟨rfl, rfl⟩) | (go_at_call 63; (with_reducible refine (CO.out).mono ?_); rintro e w1 ⟨rfl, rfl⟩))
  refine hK.out _ _ (by first | (with_reducible exact MK.out _ x1d x2d) | exact MK.out _ y1 y2) (fun hHeld => ?_)
  clear hK K
  go_simp
  refine wpAnyH_ready (rs := [9]) (by kernel_rfl) (by simp) ?_
  refine AllReadyH.cons rfl (fun K hK => ?_) ?_
  rotate_left
  · exact AllReadyH.nil
  go_simp
  go_wp2_with (first | (go_at_call 64; (with_reducible refine (C1.out _).mono ?_); rintro e w1 ⟨rfl, rfl⟩) | (go_at_call 64; (with_reducible refine (C2.out _).mono ?_); rintro e w1 ⟨rfl, rfl⟩) | (go_at_call 63; (with_reducible refine (CO.out).mono ?_); rintro e w1 ⟨rfl, rfl⟩))
  refine hK.out _ _ (by first | (with_reducible exact MK.out _ x1d x2d) | exact MK.out _ y1 y2) (fun hHeld => ?_)
  clear hK K
  go_simp
  refine wpAnyH_ready (rs := [10]) (by kernel_rfl) (by simp) ?_
  refine AllReadyH.cons rfl (fun K hK => ?_) ?_
  rotate_left
  · exact AllReadyH.nil
  go_simp
  go_wp2_with (first | (go_at_call 64; (with_reducible refine (C1.out _).mono ?_); rintro e w1 ⟨rfl, rfl⟩) | (go_at_call 64; (with_reducible refine (C2.out _).mono ?_); rintro e w1 ⟨rfl, rfl⟩) | (go_at_call 63; (with_reducible refine (CO.out).mono ?_); rintro e w1 ⟨rfl, rfl⟩))
  refine hK.out _ _ (by first | (with_reducible exact MK.out _ x1d x2d) | exact MK.out _ y1 y2) (fun hHeld => ?_)
  clear hK K
  go_simp
  refine wpAnyH_ready (rs := [11]) (by kernel_rfl) (by simp) ?_
  refine AllReadyH.cons rfl (fun K hK => ?_) ?_
  rotate_left
  · exact AllReadyH.nil
  go_simp
  go_wp2_with (first | (go_at_call 64; (with_reducible refine (C1.out _).mono ?_); rintro e w1 ⟨rfl, rfl⟩) | (go_at_call 64; (with_reducible refine (C2.out _).mono ?_); rintro e w1 ⟨rfl, rfl⟩) | (go_at_call 63; (with_reducible refine (CO.out).mono ?_); rintro e w1 ⟨rfl, rfl⟩))
  refine hK.out _ _ (by first | (with_reducible exact MK.out _ x1d x2d) | exact MK.out _ y1 y2) (fun hHeld => ?_)
  clear hK K
  go_simp
  refine wpAnyH_take (i := 12) (v := ?_) rfl (by kernel_rfl) (by kernel_rfl) (by kernel_rfl) (fun _ _ _ h => h) (Or.inl ⟨by rfl, ?_⟩) hHeld ?_
  rotate_left
  · intro w hSw
    (try dsimp only at hSw)
    go_simp
    try with_reducible rfl
  go_simp
  refine wpAnyH_done (by kernel_rfl) ?_ _
  refine NoPanic.normal ?_
  go_wp2
  go_ret
  exact ⟨rfl, 1, _, by rw [HW2.out]; simp only [alloc_eq_grow, drew_grow, grow_grow]; rfl⟩
theorem fcmpLays (blk off size : Nat) (w : World) : CmpLays Try.prog 38 #[] encF 2 fcf blk off size w :=
  fun _ _ _ _ x y => fOrder_any x y _
/-- slices.SortFunc at anchors whose numbers differ. -/
theorem fSort_any {B : Nat} {w : World} {g n cap : Nat} {l : List Fo} (h : w.ownsRow B 33 2 (.slice (some ⟨g, 0, none⟩) n cap) n (kfl encF l)) (hn : n ≤ 100000) :
    Calls Try.prog 37 #[.slice (some ⟨g, 0, none⟩) n cap, .func (.func 38) #[] #[]] w fun e w' => e = .returned (.tuple #[]) ∧ w'.ownsRow B 33 2 (.slice (some ⟨g, 0, none⟩) n cap) n (kfl encF (ord flt l)) ∧ OnB g w w' := by
  have hl := own_len encF_len (by omega) h
  have hH := holdsK_of_own encF_len h hl
  have hlt : g < w.heap.size := (h.lt g rfl).2
  have eg : ∀ args w, (callFunc 38 args).run Try.prog w = .ok (.enter 38 args) w := enters_of Try.func38 (by kernel_rfl) rfl
  have hcon := AnyQ.slices_SortFunc Try.sortFo 2 Try.isAgg33 Try.sizeOf33 encF encF_len encF_one fcf fcf_swo 38 #[] g 0 cap l.toArray w eg (fcmpLays g 0 _ w) hH hlt (by simp; omega)
  have hsz : l.toArray.size = n := by simpa using hl
  rw [hsz] at hcon
  refine Calls.mono hcon ?_
  rintro e w' ⟨rfl, d', m, os, hp, hs, rfl⟩
  have hds : d'.size = n := by rw [hp.1]; exact hsz
  obtain ⟨r1, r2⟩ := own_sort encF_len (by omega) h hl hds m os
  have e0 : Go.Proofs.ltOf fcf = flt := by funext a b; exact fcf_flt a b
  rw [e0] at hs
  have hpp : PermIn 0 l.length l.toArray d' := by rw [hl]; exact hp
  have hss : SortedIn flt 0 l.length d' := by rw [hl]; exact hs
  have hd := ord_of_array flt flt_swo hpp hss (fun x hx y hy h1 h2 => flt_eq h1 h2)
  rw [hd] at r1
  exact ⟨rfl, r1, r2⟩
theorem own_madeF (w : World) (e : TypeId) (k : Nat) : (w.alloc (.cells #[] e)).ownsRow w.heap.size e k (.slice (some ⟨w.heap.size, 0, none⟩) 0 0) 0 [] :=
  ⟨by simp, .inr ⟨w.heap.size, 0, #[], rfl, Nat.le_refl _, heap_alloc_new w _, Nat.le_refl _, by decide, by simp, by simp⟩⟩
set_option maxHeartbeats 4000000 in
set_option maxRecDepth 100000 in
theorem fClone_any (A : Option Addr) (n c : Nat) (l : List Fo) (w : World) (hA : RowsAt encF 2 w A l) (hcap : Caps A n c) (hl : l.length = n) (hn : n ≤ 100000) :
    Calls Try.prog 36 #[.slice A n c] w fun e w' => ∃ v, e = .returned v ∧ w'.ownsRow w.heap.size 33 2 v n (kfl encF l) ∧ Below w.heap.size w w' ∧ (0 < n → ∃ g cap, v = .slice (some ⟨g, 0, none⟩) n cap) := by
  have HL := Lib.hid hl
  have HC := Lib.hid hcap
  have ST := fo_slt
  have ON := Lib.hid (own_madeF w 33 2)
  have x1 : Below w.heap.size w (w.alloc (.cells #[] 33)) := (Below.refl _ _).alloc (Nat.le_refl _) _
  have HA := Lib.hid (hA.below x1)
  clear hl hcap hA
  rcases A with _ | a
  · have hc0 : c = 0 := HC.out.2 rfl
    have hn0 : n = 0 := by have := HC.out.1; omega
    subst hc0
    subst hn0
    have hz : l = [] := List.eq_nil_of_length_eq_zero HL.out
    subst hz
    have he := fun W : World => Lib.run_eql_slice_nil (P := Try.prog) W 22 33 none 0 0 0 0 Try.underlying22
    clear HA HC HL ON x1 ST
    go_enter Try.func36, Try.ntmps36
    go_wp2
    go_ret
    exact ⟨_, rfl, World.ownsRow_nil _ _ _ _, Below.refl _ _, fun h => absurd h (by omega)⟩
  · have he := fun W : World => Lib.run_eql_slice_nil (P := Try.prog) W 22 33 (some a) n c 0 0 Try.underlying22
    go_enter Try.func36, Try.ntmps36
    go_wp2_with (at_builtin; refine wpList_appK (enc := encF) ST encF_len (by omega) rfl (.tmp 5) (.tmp 6) rfl (base := w.heap.size) (v := .slice (some ⟨w.heap.size, 0, none⟩) 0 0) (n := 0) (xs := []) rfl ON.out (some a) n c l rfl HA.out HC.out HL.out (kfl_one' encF_one l) (by simp only [maxLen]; omega) (by omega) x1.size ?_; intro v1 w1 hown1 hg1 hor1)
    have hbw : Below w.heap.size w w1 := x1.grown hg1 x1.size (fun k hk => Nat.le_of_eq (by simpa [Value.ownBlock] using hk))
    rw [Nat.zero_add, List.nil_append] at hown1
    have HO := Lib.hid hown1
    clear hown1 hg1 hor1
    go_wp2
    go_ret
    exact ⟨v1, rfl, HO.out, hbw, fun h => own_slice HO.out h⟩
end Go.Proofs.Ytnfjleobcfhpnaa
