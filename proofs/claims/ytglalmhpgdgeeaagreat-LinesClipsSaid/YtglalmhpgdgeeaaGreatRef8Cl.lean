/- The document's points of a text: the contract of bodkinref08.Clip. -/
import Derived.Test.YtglalmhpgdgeeaaGreatRef8
import Derived.Test.YtglalmhpgdgeeaaGreatLnA
namespace Go.Proofs.YtglalmhpgdgeeaaGreat
open Go.RowKit
set_option maxHeartbeats 4000000 in
set_option maxRecDepth 100000 in
theorem f8clip (A : Option Addr) (n c : Nat) (l : List Int) (w : World) (hA : IntsAt .i32 w A l) (hl : l.length = n) (hc : Caps A n c) (hn : n ≤ 100000) (r k : Int) (hk0 : -9223372036854775808 ≤ k) (hk1 : k ≤ 9223372036854775807) :
    Calls Tryz.prog 23 #[.slice A n c, .agg #[.int .i64 r, .int .i64 k]] w fun e w' => ∃ a b, ClipIs l r k a b ∧ e = .returned (.agg #[.int .i64 a, .int .i64 b]) ∧ Below w.heap.size w w' := by
  have CS := Lib.hid fun (W : World) (hW : Below w.heap.size w W) => f8spans A n c l W (hA.below hW) hl hn
  have CP := Lib.hid fun (W : World) (hW : Below w.heap.size w W) => f8point A n c l W (hA.below hW) hl hc hn n (Nat.le_refl _)
  have hbl := brks_le l
  clear hA hc
  have x1 := (Below.refl w.heap.size w).alloc (Nat.le_refl _) (.cells #[.int .i64 r, .int .i64 k] 41)
  have x2 := x1.alloc x1.size (.cells #[.int .i64 0, .int .i64 0] 41)
  obtain ⟨R0, R1, _, hz2⟩ := new2 w 41 41 #[.int .i64 r, .int .i64 k] #[.int .i64 0, .int .i64 0]
  have HR0 := Lib.hid R0
  have HR1 := Lib.hid R1
  clear R0 R1 hz2
  go_enter Tryz.func23, Tryz.ntmps23
  go_wp2_with fail
  generalize ((w.alloc (.cells #[.int .i64 r, .int .i64 k] 41)).alloc (.cells #[.int .i64 0, .int .i64 0] 41)) = W2 at *
  refine (CS.out _ x2).mono ?_
  rintro e w3 ⟨B, d, o, rfl, ho, hB, _, hb3⟩
  have a3 := x2.trans (hb3.mono x2.size)
  have HA3 := Lib.hid (RawAt.below HR0.out hb3 (RawAt.lt HR0.out))
  have HB3 := Lib.hid (RawAt.below HR1.out hb3 (RawAt.lt HR1.out))
  have hol := ho.len
  have HO := Lib.hid ho
  clear ho CS
  have q0 := RawAt.cell HA3.out 0
  have q1 := RawAt.cell HA3.out 1
  have f0 := RawAt.free HB3.out 0
  have f1 := RawAt.free HB3.out 1
  have p0 := RawAt.cell HB3.out 0
  have p1 := RawAt.cell HB3.out 1
  simp at q0 q1 p0 p1
  by_cases h0 : r < 0
  · have H := Lib.hid (show ClipIs l r k 0 0 from .inl ⟨h0, rfl, rfl⟩)
    go_wp2
    refine bodyPost_ret (v := .agg #[.int .i64 0, .int .i64 0]) (by simp [results, Tryz.results23, go_sem, p0, p1]) rfl ⟨0, 0, H.out, rfl, ?_⟩
    (repeat' (first | (with_reducible exact a3) | (with_reducible refine Below.setCell ?_ ?_ _) | (with_reducible refine Below.drew ?_))) <;> (simp; done)
  by_cases h1 : (o.length : Int) ≤ r
  · have h1' : (brks l : Int) < r := by omega
    have h0' : 0 ≤ r := by omega
    clear hol
    go_wp2_with fail
    refine (CP.out _ a3).mono ?_
    rintro e w4 ⟨x, y, hi, rfl, hb4⟩
    have a4 := a3.trans (hb4.mono a3.size)
    have H := Lib.hid (show ClipIs l r k x y from .inr (.inl ⟨h0', h1', by rw [hl]; exact hi⟩))
    clear hi f0 f1 p0 p1 q0 q1
    have HB4 := RawAt.below HB3.out hb4 (RawAt.lt HB3.out)
    have f0 := RawAt.free HB4 0
    have f1 := RawAt.free HB4 1
    have p0 := RawAt.cell HB4 0
    have p1 := RawAt.cell HB4 1
    simp at p0 p1
    clear HB4
    go_wp2
    refine bodyPost_ret (v := .agg #[.int .i64 x, .int .i64 y]) (by simp [results, Tryz.results23, go_sem, p0, p1]) rfl ⟨x, y, H.out, rfl, ?_⟩
    (repeat' (first | (with_reducible exact a4) | (with_reducible refine Below.setCell ?_ ?_ _) | (with_reducible refine Below.drew ?_))) <;> (simp; done)
  obtain ⟨i, rfl⟩ : ∃ i : Nat, r = i := ⟨r.toNat, by omega⟩
  have hi : i < o.length := by omega
  have i0 : (0 : Int) ≤ (i : Int) := by omega
  have i1 : (i : Int) < (o.length : Int) := by omega
  have i2 : ¬ ((i : Int) < 0) := by omega
  have i3 : ¬ ((o.length : Int) ≤ (i : Int)) := by omega
  obtain ⟨bA, off, rfl, hbA, hcell⟩ := hB (by omega)
  obtain ⟨e0, e1⟩ := hcell i hi
  clear hcell
  have hsp := span_bd (HO.out.at_ i hi)
  have hsle := (span_le (HO.out.at_ i hi)).2.2
  have HC := Lib.hid (show ∀ b, b = min (max k 0) ((oth o i).2 - (oth o i).1) → ClipIs l (i : Int) k (i : Int) b from fun b hb => .inr (.inr ⟨by omega, by omega, _, _, HO.out.at_ i hi, rfl, hb⟩))
  generalize (oth o i).1 = f at *
  generalize (oth o i).2 = t at *
  generalize o.length = N at *
  clear hol
  have hw : IntKind.i64.wrap (t - f) = t - f := IntWalk.i64_in _ (by omega)
  obtain ⟨pb, hpb⟩ : ∃ pb, pb = w.heap.size := ⟨_, rfl⟩
  have HPB := Lib.hid hpb
  have hst : ∀ W : World, Below w3.heap.size w3 W → RawAt 41 W w.heap.size #[.int .i64 (i : Int), .int .i64 k] := fun W hW => RawAt.below HA3.out hW (RawAt.lt HA3.out)
  have MK : Hid (∀ W : World, Below w3.heap.size w3 W → (fun W => W.cell? ⟨w.heap.size, 0, none⟩ = some (.int .i64 (i : Int)) ∧ W.cell? ⟨bA, off + i * 2, none⟩ = some (.int .i64 f) ∧ W.cell? ⟨bA, off + i * 2 + 1, none⟩ = some (.int .i64 t) ∧ Below w3.heap.size w3 W) W) := fun W hW => ⟨RawAt.cell (hst W hW) 0, ((old_cells hW).1 _ _ hbA).trans e0, ((old_cells hW).1 _ _ hbA).trans e1, hW⟩
  have hW2 : Below w3.heap.size w3 w3.drew := (Below.refl _ _).drew
  have a5 : Below w.heap.size w w3.drew := a3.drew
  clear hpb
  go_wp2_with fail
  refine wp_region_noPanic ?_
  refine wp_region_held_drew (S := (fun W => W.cell? ⟨w.heap.size, 0, none⟩ = some (.int .i64 (i : Int)) ∧ W.cell? ⟨bA, off + i * 2, none⟩ = some (.int .i64 f) ∧ W.cell? ⟨bA, off + i * 2 + 1, none⟩ = some (.int .i64 t) ∧ Below w3.heap.size w3 W)) (by kernel_rfl) (MK.out _ hW2) (fun hHeld => ?_)
  refine wpAnyH_take (i := 0) (v := ?_) rfl (by kernel_rfl) (by kernel_rfl) (by kernel_rfl) (fun _ _ _ h => h) (Or.inl ⟨by rfl, ?_⟩) hHeld ?_
  rotate_left
  · intro w hSw
    (try dsimp only at hSw)
    go_simp
    try with_reducible rfl
  go_simp
  refine wpAnyH_take (i := 1) (v := ?_) rfl (by kernel_rfl) (by kernel_rfl) (by kernel_rfl) (fun _ _ _ h => h) (Or.inl ⟨by rfl, ?_⟩) hHeld ?_
  rotate_left
  · intro w hSw
    (try dsimp only at hSw)
    go_simp
    try with_reducible rfl
  go_simp
  refine wpAnyH_take (i := 2) (v := ?_) rfl (by kernel_rfl) (by kernel_rfl) (by kernel_rfl) (fun _ _ _ h => h) (Or.inl ⟨by rfl, ?_⟩) hHeld ?_
  rotate_left
  · intro w hSw
    (try dsimp only at hSw)
    go_simp
    try with_reducible rfl
  go_simp
  refine wpAnyH_take (i := 3) (v := ?_) rfl (by kernel_rfl) (by kernel_rfl) (by kernel_rfl) (fun _ _ _ h => h) (Or.inl ⟨by rfl, ?_⟩) hHeld ?_
  rotate_left
  · intro w hSw
    (try dsimp only at hSw)
    go_simp
    try with_reducible rfl
  go_simp
  refine wpAnyH_take (i := 4) (v := ?_) rfl (by kernel_rfl) (by kernel_rfl) (by kernel_rfl) (fun _ _ _ h => h) (Or.inl ⟨by rfl, ?_⟩) hHeld ?_
  rotate_left
  · intro w hSw
    (try dsimp only at hSw)
    go_simp
    try with_reducible rfl
  go_simp
  refine wpAnyH_take (i := 5) (v := ?_) rfl (by kernel_rfl) (by kernel_rfl) (by kernel_rfl) (fun _ _ _ h => h) (Or.inl ⟨by rfl, ?_⟩) hHeld ?_
  rotate_left
  · intro w hSw
    (try dsimp only at hSw)
    go_simp
    try with_reducible rfl
  go_simp
  refine wpAnyH_take (i := 6) (v := ?_) rfl (by kernel_rfl) (by kernel_rfl) (by kernel_rfl) (fun _ _ _ h => h) (Or.inl ⟨by rfl, ?_⟩) hHeld ?_
  rotate_left
  · intro w hSw
    (try dsimp only at hSw)
    go_simp
    try with_reducible rfl
  go_simp
  refine wpAnyH_take (i := 7) (v := ?_) rfl (by kernel_rfl) (by kernel_rfl) (by kernel_rfl) (fun _ _ _ h => h) (Or.inl ⟨by rfl, ?_⟩) hHeld ?_
  rotate_left
  · intro w hSw
    (try dsimp only at hSw)
    go_simp
    try with_reducible rfl
  go_simp
  refine wpAnyH_take (i := 8) (v := ?_) rfl (by kernel_rfl) (by kernel_rfl) (by kernel_rfl) (fun _ _ _ h => h) (Or.inl ⟨by rfl, ?_⟩) hHeld ?_
  rotate_left
  · intro w hSw
    (try dsimp only at hSw)
    go_simp
    try with_reducible rfl
  go_simp
  refine wpAnyH_take (i := 9) (v := ?_) rfl (by kernel_rfl) (by kernel_rfl) (by kernel_rfl) (fun _ _ _ h => h) (Or.inl ⟨by rfl, ?_⟩) hHeld ?_
  rotate_left
  · intro w hSw
    (try dsimp only at hSw)
    go_simp
    try with_reducible rfl
  go_simp
  refine wpAnyH_take (i := 10) (v := ?_) rfl (by kernel_rfl) (by kernel_rfl) (by kernel_rfl) (fun _ _ _ h => h) (Or.inl ⟨by rfl, ?_⟩) hHeld ?_
  rotate_left
  · intro w hSw
    (try dsimp only at hSw)
    go_simp
    try with_reducible rfl
  go_simp
  refine wpAnyH_take (i := 11) (v := ?_) rfl (by kernel_rfl) (by kernel_rfl) (by kernel_rfl) (fun _ _ _ h => h) (Or.inl ⟨by rfl, ?_⟩) hHeld ?_
  rotate_left
  · intro w hSw
    (try dsimp only at hSw)
    go_simp
    try with_reducible rfl
  go_simp
  refine wpAnyH_take (i := 12) (v := ?_) rfl (by kernel_rfl) (by kernel_rfl) (by kernel_rfl) (fun _ _ _ h => h) (Or.inl ⟨by rfl, ?_⟩) hHeld ?_
  rotate_left
  · intro w hSw
    (try dsimp only at hSw)
    go_simp
    try with_reducible rfl
  go_simp
  refine wpAnyH_take (i := 13) (v := ?_) rfl (by kernel_rfl) (by kernel_rfl) (by kernel_rfl) (fun _ _ _ h => h) (Or.inl ⟨by rfl, ?_⟩) hHeld ?_
  rotate_left
  · intro w hSw
    (try dsimp only at hSw)
    go_simp
    try with_reducible rfl
  go_simp
  refine wpAnyH_done (by kernel_rfl) ?_ _
  refine NoPanic.normal ?_
  clear hHeld MK hst e0 e1 hB q0 q1 f0 f1 p0 p1
  have HA5 := HA3.out
  have HB5 := HB3.out
  have q0 := RawAt.cell HA5 0
  have q1 := RawAt.cell HA5 1
  have f0 := RawAt.free HB5 0
  have f1 := RawAt.free HB5 1
  have p0 := RawAt.cell HB5 0
  have p1 := RawAt.cell HB5 1
  simp at q0 q1 p0 p1
  clear HA5 HB5
  by_cases h2 : k < 0
  · have H := Lib.hid (HC.out 0 (by omega))
    go_wp2
    refine bodyPost_ret (v := .agg #[.int .i64 (i : Int), .int .i64 0]) (by simp [results, Tryz.results23, go_sem, p0, p1]) rfl ⟨_, 0, H.out, rfl, ?_⟩
    (repeat' (first | (with_reducible exact a3) | (with_reducible refine Below.setCell ?_ ?_ _) | (with_reducible refine Below.drew ?_))) <;> (simp; done)
  by_cases h3 : t - f < k
  · have H := Lib.hid (HC.out (t - f) (by omega))
    go_wp2
    refine bodyPost_ret (v := .agg #[.int .i64 (i : Int), .int .i64 (t - f)]) (by simp [results, Tryz.results23, go_sem, p0, p1]) rfl ⟨_, _, H.out, rfl, ?_⟩
    (repeat' (first | (with_reducible exact a3) | (with_reducible refine Below.setCell ?_ ?_ _) | (with_reducible refine Below.drew ?_))) <;> (simp; done)
  · have H := Lib.hid (HC.out k (by omega))
    go_wp2
    refine bodyPost_ret (v := .agg #[.int .i64 (i : Int), .int .i64 k]) (by simp [results, Tryz.results23, go_sem, p0, p1]) rfl ⟨_, _, H.out, rfl, ?_⟩
    (repeat' (first | (with_reducible exact a3) | (with_reducible refine Below.setCell ?_ ?_ _) | (with_reducible refine Below.drew ?_))) <;> (simp; done)
end Go.Proofs.YtglalmhpgdgeeaaGreat
