/- Stops: a place's cell: the contracts of Cell and its closure. -/
import Derived.Test.YtbalafgoengppaaDoorStC
namespace Go.Proofs.YtbalafgoengppaaDoor
open Go.RowKit
set_option linter.unusedVariables false
theorem ceC_any (b : Nat) (s x : Int) (W : World) (h : RawAt 3 W b #[.int .i64 s]) (h1 : 0 ≤ s) (h2 : s ≤ 1000000000) (h3 : 0 ≤ x) (h4 : x ≤ 16) :
    Calls Tryd.prog 38 #[.int .i64 x, .pointer (some ⟨b, 0, none⟩)] W fun e w' => e = .returned (.tuple #[]) ∧ RawAt 3 w' b #[.int .i64 (s + x)] ∧ w' = W.setCell ⟨b, 0, none⟩ (.int .i64 (s + x)) := by
  have r0 := RawAt.cell h 0
  have f0 := RawAt.free h 0
  have R5 : RawAt 3 (W.setCell ⟨b, 0, none⟩ (.int .i64 (s + x))) b #[.int .i64 (s + x)] := (h.set_ 0 _).of_eq (by simp)
  have HR := Lib.hid R5
  clear h R5
  simp at r0
  go_enter Tryd.func38, Tryd.ntmps38
  go_wp2
  refine bodyPost_end (v := .tuple #[]) (by simp [results, Tryd.results38, go_sem]) rfl ⟨rfl, HR.out, rfl⟩
theorem IntsAt.take {kd : IntKind} {w : World} {A : Option Addr} {l : List Int} (h : IntsAt kd w A l) (k : Nat) : IntsAt kd w A (l.take k) := by
  intro hl
  have hlen : (l.take k).length ≤ l.length := by rw [List.length_take]; omega
  obtain ⟨b, off, rfl, h1, h2⟩ := h (by omega)
  refine ⟨b, off, rfl, h1, fun j hj => ?_⟩
  rw [h2 j (by omega)]
  rw [List.length_take] at hj
  unfold nth
  rw [List.getD_eq_getElem?_getD, List.getD_eq_getElem?_getD, List.getElem?_take, if_pos (by omega)]
/-- Is a place of a line asked for? -/
theorem sCell_no (tv : Value) (A : Option Addr) (n c : Nat) (tab q : Int) (w : World) (hn : n ≤ 1000000) (h : ¬ (1 ≤ tab ∧ tab ≤ 16) ∨ q < 0 ∨ (n : Int) < q) :
    Calls Tryd.prog 20 #[tv, .slice A n c, .agg #[.int .i64 tab, .int .i64 q]] w fun e w' => e = .returned (.tuple #[.int .i64 0, .int .i64 1]) ∧ Below w.heap.size w w' := by
  have CN := Lib.hid fun W h => stRight_no tab W h
  have CY := Lib.hid fun W h1 h2 => stRight_yes tab W h1 h2
  have H := Lib.hid h
  have R1 : RawAt 37 (w.alloc (.cells #[.int .i64 tab, .int .i64 q] 37)) w.heap.size #[.int .i64 tab, .int .i64 q] := heap_alloc_new w _
  have x1 : Below w.heap.size w (w.alloc (.cells #[.int .i64 tab, .int .i64 q] 37)) := (Below.refl _ _).alloc (Nat.le_refl _) _
  have c0 := RawAt.cell R1 0
  have c1 := RawAt.cell R1 1
  simp at c0 c1
  clear h R1
  by_cases hr : 1 ≤ tab ∧ tab ≤ 16
  · have CY1 := Lib.hid fun W => CY.out W hr.1 hr.2
    clear CY CN
    by_cases hq : q < 0
    · clear hr H
      have k1 : decide (q < 0) = true := decide_eq_true hq
      go_enter Tryd.func20, Tryd.ntmps20
      go_wp2_with fail
      with_reducible refine (CY1.out _).mono ?_
      rintro e w1 ⟨rfl, rfl⟩
      go_wp2
      go_ret2
      exact ⟨rfl, x1⟩
    · have hq2 : (n : Int) < q := by rcases H.out with h | h | h; exact absurd hr h; exact absurd h hq; exact h
      clear hr H
      have k1 : decide (q < 0) = false := decide_eq_false hq
      have k2 : decide ((n : Int) < q) = true := decide_eq_true hq2
      go_enter Tryd.func20, Tryd.ntmps20
      go_wp2_with fail
      with_reducible refine (CY1.out _).mono ?_
      rintro e w1 ⟨rfl, rfl⟩
      go_wp2
      go_ret2
      exact ⟨rfl, x1⟩
  · have CN1 := Lib.hid fun W => CN.out W hr
    clear CY CN hr H
    go_enter Tryd.func20, Tryd.ntmps20
    go_wp2_with fail
    with_reducible refine (CN1.out _).mono ?_
    rintro e w1 ⟨rfl, rfl⟩
    go_wp2
    go_ret2
    exact ⟨rfl, x1⟩
set_option maxHeartbeats 4000000 in
set_option maxRecDepth 100000 in
theorem sCell_any (tv : Value) (f : Int → Int) (A : Option Addr) (n c : Nat) (l : List Int) (tab : Int) (k : Nat) (w : World) (hT : TabV w tv f) (hA : IntsAt .i32 w A l) (hl : l.length = n) (hn : n ≤ 1000000) (hc : n ≤ c) (h1 : 1 ≤ tab) (h2 : tab ≤ 16) (hk : k ≤ n) :
    Calls Tryd.prog 20 #[tv, .slice A n c, .agg #[.int .i64 tab, .int .i64 (k : Int)]] w fun e w' => e = .returned (.tuple #[.int .i64 (szs f tab 0 (l.take k)).sum, .int .i64 0]) ∧ Below w.heap.size w w' := by
  have CR := Lib.hid fun W => stRight_yes tab W h1 h2
  have hmf : ∀ (fn : Fn) (first cap : Array Value) (w : World), (Instr.makeFunc fn first cap).run Tryd.prog w = .ok (.func fn first cap) w := fun _ _ _ _ => rfl
  have hsl := fun W => cutK_hd (P := Tryd.prog) rune_slt A n c k (by omega) W
  obtain ⟨hr0, hq0, hb0, hs0⟩ := new2 w 37 3 #[.int .i64 tab, .int .i64 (k : Int)] #[.int .i64 0]
  have hlk : (l.take k).length = k := by rw [List.length_take]; omega
  have HE := Lib.hid fun (w0 : World) (h0 : RawAt 3 w0 (w.heap.size + 1) #[.int .i64 0] ∧ RawAt 37 w0 w.heap.size #[.int .i64 tab, .int .i64 (k : Int)] ∧ Below w.heap.size w w0) => stEach_any 38 #[.pointer (some ⟨w.heap.size + 1, 0, none⟩)] tv f A k c (l.take k) tab (fun d W => RawAt 3 W (w.heap.size + 1) #[.int .i64 d.sum] ∧ RawAt 37 W w.heap.size #[.int .i64 tab, .int .i64 (k : Int)] ∧ Below w.heap.size w W) w0 hT.bd h1 h2 hK_ce hlk (by omega)
    (fun d W h => (hA.take k).below h.2.2) (fun d W W' h hb => ⟨h.1.below hb h.1.lt, h.2.1.below hb h.2.1.lt, h.2.2.trans (hb.mono h.2.2.size)⟩) (fun d W r h => tabV_of (hT.below h.2.2) r)
    (fun d x r W hd h => by
      have hle := congrArg List.length hd
      rw [szs_length, List.length_append] at hle
      obtain ⟨g1, g2⟩ := szs_bd hT.bd h1 h2 (l.take k) 0 (by omega)
      rw [← hd] at g1
      have gx := g1 x (by simp)
      have gd : ∀ y ∈ d, 0 ≤ y ∧ y ≤ 16 := fun y hy => g1 y (by simp [hy])
      have s1 := sum_nn d (fun y hy => (gd y hy).1)
      have s2 := sum_le16 d gd
      exact (ceC_any (w.heap.size + 1) d.sum x W h.1 s1 (by omega) gx.1 gx.2).mono fun e w' ⟨he, hs, hw⟩ => ⟨he, by rw [List.sum_append]; simpa using hs, by rw [hw]; exact h.2.1.set_other (by omega) 0 _, by rw [hw]; exact h.2.2.setCell (p := ⟨w.heap.size + 1, 0, none⟩) (by simp) _⟩) h0
  have x1 : Below w.heap.size w (w.alloc (.cells #[.int .i64 tab, .int .i64 (k : Int)] 37)) := (Below.refl _ _).alloc (Nat.le_refl _) _
  have R1 : RawAt 37 (w.alloc (.cells #[.int .i64 tab, .int .i64 (k : Int)] 37)) w.heap.size #[.int .i64 tab, .int .i64 (k : Int)] := heap_alloc_new w _
  have c0 := RawAt.cell R1 0
  have c1 := RawAt.cell R1 1
  simp at c0 c1
  have k1 : decide ((k : Int) < 0) = false := decide_eq_false (by omega)
  have k2 : decide ((n : Int) < (k : Int)) = false := decide_eq_false (by omega)
  have k3 : decide (n < k) = false := decide_eq_false (by omega)
  have HR0 := Lib.hid hr0
  have HQ0 := Lib.hid hq0
  have HB0 := Lib.hid hb0
  have HS0 := Lib.hid hs0
  clear hT hA hl R1 hr0 hq0 hb0 hs0 hlk
  go_enter Tryd.func20, Tryd.ntmps20
  go_wp2_with fail
  with_reducible refine (CR.out _).mono ?_
  rintro e w1 ⟨rfl, rfl⟩
  go_wp2_with fail
  clear c0 c1 x1
  generalize (w.alloc (.cells #[.int .i64 tab, .int .i64 (k : Int)] 37)).alloc (.cells #[.int .i64 0] 3) = W1 at *
  have MK : Hid (∀ W : World, Below W1.heap.size W1 W → (fun W => W.cell? ⟨w.heap.size, 0, none⟩ = some (.int .i64 tab) ∧ W.cell? ⟨w.heap.size, 1, none⟩ = some (.int .i64 (k : Int))) W) := fun W hW => ⟨RawAt.cell (HR0.out.below hW (HR0.out.lt)) 0, RawAt.cell (HR0.out.below hW (HR0.out.lt)) 1⟩
  have hW2 : Below W1.heap.size W1 W1.drew := (Below.refl _ _).drew
  have HE1 := Lib.hid (HE.out W1.drew ⟨HQ0.out, HR0.out, HB0.out.drew⟩)
  refine wp_region_noPanic ?_
  refine wp_region_held_drew (S := (fun W => W.cell? ⟨w.heap.size, 0, none⟩ = some (.int .i64 tab) ∧ W.cell? ⟨w.heap.size, 1, none⟩ = some (.int .i64 (k : Int)))) (by kernel_rfl) (MK.out _ hW2) (fun hHeld => ?_)
  refine wpAnyH_take (i := 0) (v := ?_) rfl (by kernel_rfl) (by kernel_rfl) (by kernel_rfl) (fun _ _ _ h => h) (Or.inl ⟨by rfl, ?_⟩) hHeld ?_
  rotate_left
  · intro w hSw
    (try dsimp only at hSw)
    go_simp
    try with_reducible rfl
  go_simp
  refine wpAnyH_take (i := 1) (v := ?_) rfl (by kernel_rfl) (by kernel_rfl) (by kernel_rfl) (fun _ _ _ h => h) (Or.inl ⟨by rfl, ?_⟩) hHeld ?_
  rotate_left
  · intro w hSw
    (try dsimp only at hSw)
    go_simp
    try with_reducible rfl
  go_simp
  refine wpAnyH_take (i := 2) (v := ?_) rfl (by kernel_rfl) (by kernel_rfl) (by kernel_rfl) (fun _ _ _ h => h) (Or.inl ⟨by rfl, ?_⟩) hHeld ?_
  rotate_left
  · intro w hSw
    (try dsimp only at hSw)
    go_simp
    try with_reducible rfl
  go_simp
  refine wpAnyH_take (i := 3) (v := ?_) rfl (by kernel_rfl) (by kernel_rfl) (by kernel_rfl) (fun _ _ _ h => h) (Or.inl ⟨by rfl, ?_⟩) hHeld ?_
  rotate_left
  · intro w hSw
    (try dsimp only at hSw)
    go_simp
    try with_reducible rfl
  go_simp
  refine wpAnyH_take (i := 4) (v := ?_) rfl (by kernel_rfl) (by kernel_rfl) (by kernel_rfl) (fun _ _ _ h => h) (Or.inl ⟨by rfl, ?_⟩) hHeld ?_
  rotate_left
  · intro w hSw
    (try dsimp only at hSw)
    go_simp
    try with_reducible rfl
  go_simp
  refine wpAnyH_take (i := 5) (v := ?_) rfl (by kernel_rfl) (by kernel_rfl) (by kernel_rfl) (fun _ _ _ h => h) (Or.inl ⟨by rfl, ?_⟩) hHeld ?_
  rotate_left
  · intro w hSw
    (try dsimp only at hSw)
    go_simp
    try with_reducible rfl
  go_simp
  refine wpAnyH_take (i := 6) (v := ?_) rfl (by kernel_rfl) (by kernel_rfl) (by kernel_rfl) (fun _ _ _ h => h) (Or.inl ⟨by rfl, ?_⟩) hHeld ?_
  rotate_left
  · intro w hSw
    (try dsimp only at hSw)
    go_simp
    try with_reducible rfl
  go_simp
  refine wpAnyH_take (i := 7) (v := ?_) rfl (by kernel_rfl) (by kernel_rfl) (by kernel_rfl) (fun _ _ _ h => h) (Or.inl ⟨by rfl, ?_⟩) hHeld ?_
  rotate_left
  · intro w hSw
    (try dsimp only at hSw)
    go_simp
    try with_reducible rfl
  go_simp
  refine wpAnyH_ready (rs := [8]) (by kernel_rfl) (by simp) ?_
  refine AllReadyH.cons rfl (fun K hK => ?_) ?_
  rotate_left
  · exact AllReadyH.nil
  go_simp
  go_wp2_with ((go_at_call 35; (with_reducible refine (HE1.out).mono ?_); rintro e w5 ⟨rfl, hR5, hQ5, hb5⟩; have c5 := RawAt.cell hR5 0; simp at c5))
  refine hK.out _ _ (⟨RawAt.cell hQ5 0, RawAt.cell hQ5 1⟩) (fun hHeld => ?_)
  clear hK K
  go_simp
  refine wpAnyH_done (by kernel_rfl) ?_ _
  refine NoPanic.normal ?_
  have HB5 := Lib.hid hb5
  clear hQ5 hR5 hb5
  go_wp2
  go_ret2
  exact ⟨rfl, HB5.out⟩
end Go.Proofs.YtbalafgoengppaaDoor
