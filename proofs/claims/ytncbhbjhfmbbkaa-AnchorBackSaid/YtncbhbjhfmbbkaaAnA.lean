/- Anchors: what one is in memory; order; slices.Clone and slices.SortFunc at anchors. -/
import Derived.Test.YtncbhbjhfmbbkaaAppK
import Derived.Test.YtncbhbjhfmbbkaaCmpI
import Derived.Test.YtncbhbjhfmbbkaaSortW
import Derived.Test.YtncbhbjhfmbbkaaSortAn
import Derived.Deep.RegionHeld3
namespace Go.Proofs.Ytncbhbjhfmbbkaa
open Go.RowKit Go.Sort
set_option linter.unusedVariables false
/-- An anchor. -/
structure An where
  id : Int
  pl : Int
  bi : Int
instance : Inhabited An := ⟨⟨0, 0, 0⟩⟩
instance : DecidableEq An := fun a b => decidable_of_iff (a.id = b.id ∧ a.pl = b.pl ∧ a.bi = b.bi) ⟨fun ⟨h1, h2, h3⟩ => by cases a; cases b; simp_all, fun h => by subst h; exact ⟨rfl, rfl, rfl⟩⟩
def encA (a : An) : List Value := [.int .i64 a.id, .int .i64 a.pl, .int .i64 a.bi]
theorem encA_len (a : An) : (encA a).length = 3 := rfl
theorem encA_one (a : An) : ∀ v ∈ encA a, v.oneCell' = true := by intro v hv; simp [encA] at hv; rcases hv with rfl | rfl | rfl <;> rfl
/-- Which is ahead. -/
def acf (a b : An) : Int := orr [cmpI a.pl b.pl, cmpI a.id b.id]
def alt (a b : An) : Bool := decide (a.pl < b.pl ∨ a.pl = b.pl ∧ a.id < b.id)
theorem acf_alt (a b : An) : Go.Proofs.ltOf acf a b = alt a b := by
  unfold Go.Proofs.ltOf acf alt orr cmpI
  by_cases h1 : a.pl < b.pl
  · simp [h1]
  · by_cases h2 : b.pl < a.pl
    · simp [h1, h2]; omega
    · have : a.pl = b.pl := by omega
      simp [this, orr]
      by_cases h3 : a.id < b.id
      · simp [h3]
      · by_cases h4 : b.id < a.id
        · simp [h3, h4]
        · simp [h3, h4]
theorem alt_swo : SWO alt where
  irrefl x := by simp [alt]
  trans x y z h1 h2 := by simp only [alt, decide_eq_true_eq] at *; omega
  ntrans x y z h1 h2 := by simp only [alt, decide_eq_false_iff_not] at *; omega
theorem acf_swo : SWO (Go.Proofs.ltOf acf) := by
  have e : Go.Proofs.ltOf acf = alt := by funext a b; exact acf_alt a b
  rw [e]
  exact alt_swo
theorem an_info : (Try.prog.info? 36).map (fun i => (i.zero, i.size, i.bytes)) = some (some (.agg #[.int .i64 0, .int .i64 0, .int .i64 0]), 3, 24) := by kernel_rfl
theorem an_slt : SlT Try.prog 22 36 3 24 := slt_of Try.underlying22 an_info rfl (by kernel_rfl)
set_option maxHeartbeats 4000000 in
set_option maxRecDepth 100000 in
theorem aOrder_any (a b : An) (w : World) : Calls Try.prog 58 #[.agg #[.int .i64 a.id, .int .i64 a.pl, .int .i64 a.bi], .agg #[.int .i64 b.id, .int .i64 b.pl, .int .i64 b.bi]] w fun e w' => e = .returned (.int .i64 (acf a b)) ∧ ∃ q os', w' = grow (w.drewN q) os' := by
  have C1 := Lib.hid fun W => cmpInt_any a.pl b.pl W
  have C2 := Lib.hid fun W => cmpInt_any a.id b.id W
  have x1 : RawAt 36 ((w.alloc (.cells #[.int .i64 a.id, .int .i64 a.pl, .int .i64 a.bi] 36)).alloc (.cells #[.int .i64 b.id, .int .i64 b.pl, .int .i64 b.bi] 36)) w.heap.size #[.int .i64 a.id, .int .i64 a.pl, .int .i64 a.bi] := (new2 w _ _ _ _).1
  have x2 : RawAt 36 ((w.alloc (.cells #[.int .i64 a.id, .int .i64 a.pl, .int .i64 a.bi] 36)).alloc (.cells #[.int .i64 b.id, .int .i64 b.pl, .int .i64 b.bi] 36)) (w.heap.size + 1) #[.int .i64 b.id, .int .i64 b.pl, .int .i64 b.bi] := (new2 w _ _ _ _).2.1
  obtain ⟨W2, hW2⟩ : ∃ W2, W2 = ((w.alloc (.cells #[.int .i64 a.id, .int .i64 a.pl, .int .i64 a.bi] 36)).alloc (.cells #[.int .i64 b.id, .int .i64 b.pl, .int .i64 b.bi] 36)) := ⟨_, rfl⟩
  have HW2 := Lib.hid hW2
  rw [← hW2] at x1 x2
  have CO := Lib.hid (orInt_any (some ⟨W2.heap.size, 0, none⟩) 2 2 [cmpI a.pl b.pl, cmpI a.id b.id] (W2.alloc (.cells #[.int .i64 (cmpI a.pl b.pl), .int .i64 (cmpI a.id b.id)] 3)).drew (fun _ => ⟨_, 0, rfl, by simp, fun k hk => by
    have hr : RawAt 3 (W2.alloc (.cells #[.int .i64 (cmpI a.pl b.pl), .int .i64 (cmpI a.id b.id)] 3)).drew W2.heap.size #[.int .i64 (cmpI a.pl b.pl), .int .i64 (cmpI a.id b.id)] := heap_alloc_new W2 _
    have h2 : k = 0 ∨ k = 1 := by simp at hk; omega
    rcases h2 with rfl | rfl
    · exact RawAt.cell hr 0
    · exact RawAt.cell hr 1⟩) rfl (by omega))
  have HR : Hid (orr [cmpI a.pl b.pl, cmpI a.id b.id] = acf a b) := Lib.hid rfl
  rw [HR.out] at CO
  have MK : Hid (∀ W : World, RawAt 36 W w.heap.size #[.int .i64 a.id, .int .i64 a.pl, .int .i64 a.bi] → RawAt 36 W (w.heap.size + 1) #[.int .i64 b.id, .int .i64 b.pl, .int .i64 b.bi] → (fun W => W.cell? ⟨w.heap.size, 1, none⟩ = some (.int .i64 a.pl) ∧ W.cell? ⟨w.heap.size + 1, 1, none⟩ = some (.int .i64 b.pl) ∧ W.cell? ⟨w.heap.size, 0, none⟩ = some (.int .i64 a.id) ∧ W.cell? ⟨w.heap.size + 1, 0, none⟩ = some (.int .i64 b.id)) W) := fun W h1 h2 => ⟨RawAt.cell h1 1, RawAt.cell h2 1, RawAt.cell h1 0, RawAt.cell h2 0⟩
  have x1d : RawAt 36 W2.drew w.heap.size _ := x1
  have x2d : RawAt 36 W2.drew (w.heap.size + 1) _ := x2
  have y1 : RawAt 36 (W2.alloc (.cells #[.int .i64 (cmpI a.pl b.pl), .int .i64 (cmpI a.id b.id)] 3)).drew w.heap.size _ := RawAt.below x1 (((Below.refl _ _).alloc (Nat.le_refl _) _).drew) x1.lt
  have y2 : RawAt 36 (W2.alloc (.cells #[.int .i64 (cmpI a.pl b.pl), .int .i64 (cmpI a.id b.id)] 3)).drew (w.heap.size + 1) _ := RawAt.below x2 (((Below.refl _ _).alloc (Nat.le_refl _) _).drew) x2.lt
  clear hW2
  generalize acf a b = r at *
  generalize cmpI a.pl b.pl = r1 at *
  generalize cmpI a.id b.id = r2 at *
  go_enter Try.func58, Try.ntmps58
  go_wp2_with fail
  rw [← HW2.out]
  refine wp_region_noPanic ?_
  refine wp_region_held_drew (S := (fun W => W.cell? ⟨w.heap.size, 1, none⟩ = some (.int .i64 a.pl) ∧ W.cell? ⟨w.heap.size + 1, 1, none⟩ = some (.int .i64 b.pl) ∧ W.cell? ⟨w.heap.size, 0, none⟩ = some (.int .i64 a.id) ∧ W.cell? ⟨w.heap.size + 1, 0, none⟩ = some (.int .i64 b.id))) (by kernel_rfl) (MK.out _ x1d x2d) (fun hHeld => ?_)
  refine wpAnyH_take (i := 0) (v := ?_) rfl (by kernel_rfl) (by kernel_rfl) (by kernel_rfl) (fun _ _ _ h => h) (Or.inl ⟨by rfl, ?_⟩) hHeld ?_
  rotate_left
  · intro w hSw
    (try dsimp only at hSw)
    go_simp
    try with_reducible rfl
  go_simp
  refine wpAnyH_take (i := 1) (v := ?_) rfl (by kernel_rfl) (by kernel_rfl) (by kernel_rfl) (fun _ _ _ h => h) (Or.inl ⟨by rfl, ?_⟩) hHeld ?_
  rotate_left
  · intro w hSw
    (try dsimp only at hSw)
    go_simp
    try with_reducible rfl
  go_simp
  refine wpAnyH_take (i := 2) (v := ?_) rfl (by kernel_rfl) (by kernel_rfl) (by kernel_rfl) (fun _ _ _ h => h) (Or.inl ⟨by rfl, ?_⟩) hHeld ?_
  rotate_left
  · intro w hSw
    (try dsimp only at hSw)
    go_simp
    try with_reducible rfl
  go_simp
  refine wpAnyH_take (i := 3) (v := ?_) rfl (by kernel_rfl) (by kernel_rfl) (by kernel_rfl) (fun _ _ _ h => h) (Or.inl ⟨by rfl, ?_⟩) hHeld ?_
  rotate_left
  · intro w hSw
    (try dsimp only at hSw)
    go_simp
    try with_reducible rfl
  go_simp
  refine wpAnyH_take (i := 5) (v := ?_) rfl (by kernel_rfl) (by kernel_rfl) (by kernel_rfl) (fun _ _ _ h => h) (Or.inl ⟨by rfl, ?_⟩) hHeld ?_
  rotate_left
  · intro w hSw
    (try dsimp only at hSw)
    go_simp
    try with_reducible rfl
  go_simp
  refine wpAnyH_take (i := 6) (v := ?_) rfl (by kernel_rfl) (by kernel_rfl) (by kernel_rfl) (fun _ _ _ h => h) (Or.inl ⟨by rfl, ?_⟩) hHeld ?_
  rotate_left
  · intro w hSw
    (try dsimp only at hSw)
    go_simp
    try with_reducible rfl
  go_simp
  refine wpAnyH_take (i := 7) (v := ?_) rfl (by kernel_rfl) (by kernel_rfl) (by kernel_rfl) (fun _ _ _ h => h) (Or.inl ⟨by rfl, ?_⟩) hHeld ?_
  rotate_left
  · intro w hSw
    (try dsimp only at hSw)
    go_simp
    try with_reducible rfl
  go_simp
  refine wpAnyH_take (i := 8) (v := ?_) rfl (by kernel_rfl) (by kernel_rfl) (by kernel_rfl) (fun _ _ _ h => h) (Or.inl ⟨by rfl, ?_⟩) hHeld ?_
  rotate_left
  · intro w hSw
    (try dsimp only at hSw)
    go_simp
    try with_reducible rfl
  go_simp
  refine wpAnyH_ready (rs := [4]) (by kernel_rfl) (by simp) ?_
  refine AllReadyH.cons rfl (fun K hK => ?_) ?_
  rotate_left
  · exact AllReadyH.nil
  go_simp
  go_wp2_with (first | (go_at_call 87; (with_reducible refine (C1.out _).mono ?_); rintro e w1 ⟨rfl, rfl⟩) | (go_at_call 87; (with_reducible refine (C2.out _).mono ?_); rintro e w1 ⟨rfl, rfl⟩) | (go_at_call 86; (with_reducible refine (CO.out).mono ?_); rintro e w1 ⟨rfl, rfl⟩))
  refine hK.out _ _ (by first | (with_reducible exact MK.out _ x1d x2d) | exact MK.out _ y1 y2) (fun hHeld => ?_)
  clear hK K
  go_simp
  refine wpAnyH_ready (rs := [9]) (by kernel_rfl) (by simp) ?_
  refine AllReadyH.cons rfl (fun K hK => ?_) ?_
  rotate_left
  · exact AllReadyH.nil
  go_simp
  go_wp2_with (first | (go_at_call 87; (with_reducible refine (C1.out _).mono ?_); rintro e w1 ⟨rfl, rfl⟩) | (go_at_call 87; (with_reducible refine (C2.out _).mono ?_); rintro e w1 ⟨rfl, rfl⟩) | (go_at_call 86; (with_reducible refine (CO.out).mono ?_); rintro e w1 ⟨rfl, rfl⟩))
  refine hK.out _ _ (by first | (with_reducible exact MK.out _ x1d x2d) | exact MK.out _ y1 y2) (fun hHeld => ?_)
  clear hK K
  go_simp
  refine wpAnyH_ready (rs := [10]) (by kernel_rfl) (by simp) ?_
  refine AllReadyH.cons rfl (fun K hK => ?_) ?_
  rotate_left
  · exact AllReadyH.nil
  go_simp
  go_wp2_with (first | (go_at_call 87; (with_reducible refine (C1.out _).mono ?_); rintro e w1 ⟨rfl, rfl⟩) | (go_at_call 87; (with_reducible refine (C2.out _).mono ?_); rintro e w1 ⟨rfl, rfl⟩) | (go_at_call 86; (with_reducible refine (CO.out).mono ?_); rintro e w1 ⟨rfl, rfl⟩))
  refine hK.out _ _ (by first | (with_reducible exact MK.out _ x1d x2d) | exact MK.out _ y1 y2) (fun hHeld => ?_)
  clear hK K
  go_simp
  refine wpAnyH_ready (rs := [11]) (by kernel_rfl) (by simp) ?_
  refine AllReadyH.cons rfl (fun K hK => ?_) ?_
  rotate_left
  · exact AllReadyH.nil
  go_simp
  go_wp2_with (first | (go_at_call 87; (with_reducible refine (C1.out _).mono ?_); rintro e w1 ⟨rfl, rfl⟩) | (go_at_call 87; (with_reducible refine (C2.out _).mono ?_); rintro e w1 ⟨rfl, rfl⟩) | (go_at_call 86; (with_reducible refine (CO.out).mono ?_); rintro e w1 ⟨rfl, rfl⟩))
  refine hK.out _ _ (by first | (with_reducible exact MK.out _ x1d x2d) | exact MK.out _ y1 y2) (fun hHeld => ?_)
  clear hK K
  go_simp
  refine wpAnyH_take (i := 12) (v := ?_) rfl (by kernel_rfl) (by kernel_rfl) (by kernel_rfl) (fun _ _ _ h => h) (Or.inl ⟨by rfl, ?_⟩) hHeld ?_
  rotate_left
  · intro w hSw
    (try dsimp only at hSw)
    go_simp
    try with_reducible rfl
  go_simp
  refine wpAnyH_done (by kernel_rfl) ?_ _
  refine NoPanic.normal ?_
  go_wp2
  go_ret
  exact ⟨rfl, 1, _, by rw [HW2.out]; simp only [alloc_eq_grow, drew_grow, grow_grow]; rfl⟩
theorem acmpLays (blk off size : Nat) (w : World) : CmpLays Try.prog 58 #[] encA 3 acf blk off size w :=
  fun _ _ _ _ x y => aOrder_any x y _
/-- slices.SortFunc at anchors whose numbers differ. -/
theorem aSort_any {B : Nat} {w : World} {g n cap : Nat} {l : List An} (h : w.ownsRow B 36 3 (.slice (some ⟨g, 0, none⟩) n cap) n (kfl encA l)) (hn : n ≤ 100000) (hi : ∀ x ∈ l, ∀ y ∈ l, x.id = y.id → x = y) :
    Calls Try.prog 57 #[.slice (some ⟨g, 0, none⟩) n cap, .func (.func 58) #[] #[]] w fun e w' => e = .returned (.tuple #[]) ∧ w'.ownsRow B 36 3 (.slice (some ⟨g, 0, none⟩) n cap) n (kfl encA (ord alt l)) ∧ OnB g w w' := by
  have hl := own_len encA_len (by omega) h
  have hH := holdsK_of_own encA_len h hl
  have hlt : g < w.heap.size := (h.lt g rfl).2
  have eg : ∀ args w, (callFunc 58 args).run Try.prog w = .ok (.enter 58 args) w := enters_of Try.func58 (by kernel_rfl) rfl
  have hcon := AnyQ.slices_SortFunc Try.sortAn 3 Try.isAgg36 Try.sizeOf36 encA encA_len encA_one acf acf_swo 58 #[] g 0 cap l.toArray w eg (acmpLays g 0 _ w) hH hlt (by simp; omega)
  have hsz : l.toArray.size = n := by simpa using hl
  rw [hsz] at hcon
  refine Calls.mono hcon ?_
  rintro e w' ⟨rfl, d', m, os, hp, hs, rfl⟩
  have hds : d'.size = n := by rw [hp.1]; exact hsz
  obtain ⟨r1, r2⟩ := own_sort encA_len (by omega) h hl hds m os
  have e0 : Go.Proofs.ltOf acf = alt := by funext a b; exact acf_alt a b
  rw [e0] at hs
  have hpp : PermIn 0 l.length l.toArray d' := by rw [hl]; exact hp
  have hss : SortedIn alt 0 l.length d' := by rw [hl]; exact hs
  have hd := ord_of_array alt alt_swo hpp hss (fun x hx y hy h1 h2 => hi x hx y hy (by simp only [alt, decide_eq_false_iff_not] at h1 h2; omega))
  rw [hd] at r1
  exact ⟨rfl, r1, r2⟩
theorem own_made0 (w : World) (e : TypeId) (k : Nat) : (w.alloc (.cells #[] e)).ownsRow w.heap.size e k (.slice (some ⟨w.heap.size, 0, none⟩) 0 0) 0 [] :=
  ⟨by simp, .inr ⟨w.heap.size, 0, #[], rfl, Nat.le_refl _, heap_alloc_new w _, Nat.le_refl _, by decide, by simp, by simp⟩⟩
set_option maxHeartbeats 4000000 in
set_option maxRecDepth 100000 in
theorem aClone_any (A : Option Addr) (n c : Nat) (l : List An) (w : World) (hA : RowsAt encA 3 w A l) (hcap : Caps A n c) (hl : l.length = n) (hn : n ≤ 100000) :
    Calls Try.prog 56 #[.slice A n c] w fun e w' => ∃ v, e = .returned v ∧ w'.ownsRow w.heap.size 36 3 v n (kfl encA l) ∧ Below w.heap.size w w' ∧ (0 < n → ∃ g cap, v = .slice (some ⟨g, 0, none⟩) n cap) := by
  have HL := Lib.hid hl
  have HC := Lib.hid hcap
  have ST := an_slt
  have ON := Lib.hid (own_made0 w 36 3)
  have x1 : Below w.heap.size w (w.alloc (.cells #[] 36)) := (Below.refl _ _).alloc (Nat.le_refl _) _
  have HA := Lib.hid (hA.below x1)
  clear hl hcap hA
  rcases A with _ | a
  · have hc0 : c = 0 := HC.out.2 rfl
    have hn0 : n = 0 := by have := HC.out.1; omega
    subst hc0
    subst hn0
    have hz : l = [] := List.eq_nil_of_length_eq_zero HL.out
    subst hz
    have he := fun W : World => Lib.run_eql_slice_nil (P := Try.prog) W 22 36 none 0 0 0 0 Try.underlying22
    clear HA HC HL ON x1 ST
    go_enter Try.func56, Try.ntmps56
    go_wp2
    go_ret
    exact ⟨_, rfl, World.ownsRow_nil _ _ _ _, Below.refl _ _, fun h => absurd h (by omega)⟩
  · have he := fun W : World => Lib.run_eql_slice_nil (P := Try.prog) W 22 36 (some a) n c 0 0 Try.underlying22
    go_enter Try.func56, Try.ntmps56
    go_wp2_with (at_builtin; refine wpList_appK (enc := encA) ST encA_len (by omega) rfl (.tmp 5) (.tmp 6) rfl (base := w.heap.size) (v := .slice (some ⟨w.heap.size, 0, none⟩) 0 0) (n := 0) (xs := []) rfl ON.out (some a) n c l rfl HA.out HC.out HL.out (kfl_one' encA_one l) (by simp only [maxLen]; omega) (by omega) x1.size ?_; intro v1 w1 hown1 hg1 hor1)
    have hbw : Below w.heap.size w w1 := x1.grown hg1 x1.size (fun k hk => Nat.le_of_eq (by simpa [Value.ownBlock] using hk))
    rw [Nat.zero_add, List.nil_append] at hown1
    have HO := Lib.hid hown1
    clear hown1 hg1 hor1
    go_wp2
    go_ret
    exact ⟨v1, rfl, HO.out, hbw, fun h => own_slice HO.out h⟩
end Go.Proofs.Ytncbhbjhfmbbkaa
