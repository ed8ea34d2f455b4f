/- The walk of the law on cursors, step by step: two cursors at the same item, a step of both, the law; over any tree and of this program's trees. -/
import Derived.Test.YtbbplppcabeojaaRefC6
import Derived.Test.YtbbplppcabeojaaRefSame
import Derived.Test.YtbbplppcabeojaaEq3
import Derived.Test.YtbbplppcabeojaaSeekOpens
import Derived.Test.YtbbplppcabeojaaTreeKQ
namespace Go.Proofs.Ytbbplppcabeojaa
open Go.RowKit
/-- The program's cursor in b, the document's in b2: both at the item k. -/
structure Two (T : World → Addr → List I7 → Nat → Prop) (w : World) (b b2 : Nat) (a : Addr) (l : List I7) (h k : Nat) (A : Option Addr) (n c : Nat) : Prop where
  one : CAt T w b b2 a l h k
  two : RawAt 44 w b2 (rcs A n c k)
  its : ∀ W, Off b b2 w W → ItsAt W A l
  len : l.length = n
  cap : n ≤ c
  ne : b ≠ b2
  small : n ≤ 300
section
variable {T : World → Addr → List I7 → Nat → Prop} {w : World} {b b2 : Nat} {a : Addr} {l : List I7} {h k n c : Nat} {A : Option Addr}
theorem Two.keep (P : Two T w b b2 a l h k A n c) {w' : World} (hb : Below w.heap.size w w') : Two T w' b b2 a l h k A n c :=
  ⟨P.one.keep hb, RawAt.below P.two hb (RawAt.lt P.two), fun W hW => P.its W ((Off.of hb).trans hW), P.len, P.cap, P.ne, P.small⟩
set_option maxHeartbeats 8000000 in
set_option maxRecDepth 100000 in
theorem agrees_in (K : TreeQ T) (P : Two T w b b2 a l h k A n c) (hk : k < n) : Calls Try.prog 22 #[.pointer (some ⟨b, 0, none⟩), .pointer (some ⟨b2, 0, none⟩)] w fun e w' => e = .returned (.bool true) ∧ Below w.heap.size w w' := by
  have HEQ := eq3
  have hkl : k ≤ n := by have := P.one.le; have := P.len; omega
  have hsm := P.small
  have hcp := P.cap
  have HN := Lib.hid P.len
  have CS := Lib.hid fun (W : World) (hW : Below w.heap.size w W) => cstart_any (P.keep hW).one
  have CSR := Lib.hid fun (W : World) (hW : Below w.heap.size w W) => rstart_any b2 A n c k l W (P.keep hW).two ((P.keep hW).its W (Off.refl _ _ _)) P.len (by omega) P.cap P.one.ok hkl
  have CF := Lib.hid fun (s : S6) (W : World) => srefs6_any s W
  have CE := Lib.hid fun (W : World) (hW : Below w.heap.size w W) => cend_yes K (P.keep hW).one (by rw [P.len]; exact hk)
  have CER := Lib.hid fun (W : World) (hW : Below w.heap.size w W) => rend_yes b2 A n c k l W (P.keep hW).two ((P.keep hW).its W (Off.refl _ _ _)) P.len (by omega) P.cap P.one.ok hk
  have CI := Lib.hid (citem_yes K P.one (by rw [P.len]; exact hk))
  have CR := Lib.hid fun (W : World) => iref6_any (ith l k) W
  obtain ⟨bA, off, hA, hbA, hcell⟩ := P.its w (Off.refl _ _ _) (by rw [P.len]; omega)
  subst hA
  obtain ⟨e0, e1, e2, e3, e4, e5, e6⟩ := hcell k (by rw [P.len]; exact hk)
  clear hcell
  have h2 := P.two
  clear P
  generalize ith l k = x at *
  generalize sall (l.take k) = s at *
  generalize sall (l.take (k + 1)) = u at *
  unfold ics at CI CR
  unfold scs at CS CSR CE CER CF
  have i1 : (k : Int) < (n : Int) := by omega
  have i2 : (0 : Int) ≤ (k : Int) := by omega
  go_enter Try.func22, Try.ntmps22
  go_wp2_with fail
  refine CI.out.mono ?_
  rintro e w1 ⟨rfl, hb1⟩
  have q2 := hb1.alloc hb1.size (.cells (ics x) 54)
  have I2 := Lib.hid (show RawAt 54 (w1.alloc (.cells (ics x) 54)) w1.heap.size (ics x) from heap_alloc_new w1 _)
  unfold ics at q2 I2
  go_wp2_with fail
  generalize (w1.alloc (.cells #[.int .i64 x.tag, .int .i64 x.id, .int .i64 x.d0, .int .i64 x.d1, .int .i64 x.d2, .int .i64 x.mx, .string x.tx] 54)) = W2 at *
  generalize w1.heap.size = bi at *
  have R2 := Lib.hid (RawAt.below h2 q2 (RawAt.lt h2))
  obtain ⟨H1, _⟩ := old_cells q2
  have f0 := (H1 _ (off + k * 7) hbA).trans e0
  have f1 := (H1 _ (off + k * 7 + 1) hbA).trans e1
  have f2 := (H1 _ (off + k * 7 + 2) hbA).trans e2
  have f3 := (H1 _ (off + k * 7 + 3) hbA).trans e3
  have f4 := (H1 _ (off + k * 7 + 4) hbA).trans e4
  have f5 := (H1 _ (off + k * 7 + 5) hbA).trans e5
  have f6 := (H1 _ (off + k * 7 + 6) hbA).trans e6
  have hbA2 : bA < W2.heap.size := Nat.lt_of_lt_of_le hbA q2.size
  have MK : Hid (∀ W : World, Below W2.heap.size W2 W → (fun W => W.cell? ⟨b2, 0, none⟩ = some (.slice (some ⟨bA, off, none⟩) n c) ∧ W.cell? ⟨b2, 1, none⟩ = some (.int .i64 (k : Int)) ∧ W.cell? ⟨bi, 0, none⟩ = some (.int .i64 x.tag) ∧ W.cell? ⟨bi, 1, none⟩ = some (.int .i64 x.id) ∧ W.cell? ⟨bi, 2, none⟩ = some (.int .i64 x.d0) ∧ W.cell? ⟨bi, 3, none⟩ = some (.int .i64 x.d1) ∧ W.cell? ⟨bi, 4, none⟩ = some (.int .i64 x.d2) ∧ W.cell? ⟨bi, 5, none⟩ = some (.int .i64 x.mx) ∧ W.cell? ⟨bi, 6, none⟩ = some (.string x.tx) ∧ W.cell? ⟨bA, off + k * 7, none⟩ = some (.int .i64 x.tag) ∧ W.cell? ⟨bA, off + k * 7 + 1, none⟩ = some (.int .i64 x.id) ∧ W.cell? ⟨bA, off + k * 7 + 2, none⟩ = some (.int .i64 x.d0) ∧ W.cell? ⟨bA, off + k * 7 + 3, none⟩ = some (.int .i64 x.d1) ∧ W.cell? ⟨bA, off + k * 7 + 4, none⟩ = some (.int .i64 x.d2) ∧ W.cell? ⟨bA, off + k * 7 + 5, none⟩ = some (.int .i64 x.mx) ∧ W.cell? ⟨bA, off + k * 7 + 6, none⟩ = some (.string x.tx) ∧ Below W2.heap.size W2 W) W) := fun W hW => by
    have h3 := RawAt.below R2.out hW (RawAt.lt R2.out)
    obtain ⟨r0, r1, r2, r3, r4, r5, r6⟩ := raw_ics (RawAt.below I2.out hW (RawAt.lt I2.out))
    obtain ⟨H3, _⟩ := old_cells hW
    exact ⟨RawAt.cell h3 0, RawAt.cell h3 1, r0, r1, r2, r3, r4, r5, r6, (H3 _ _ hbA2).trans f0, (H3 _ _ hbA2).trans f1, (H3 _ _ hbA2).trans f2, (H3 _ _ hbA2).trans f3, (H3 _ _ hbA2).trans f4, (H3 _ _ hbA2).trans f5, (H3 _ _ hbA2).trans f6, hW⟩
  have hW2 : Below W2.heap.size W2 W2.drew := (Below.refl _ _).drew
  clear e0 e1 e2 e3 e4 e5 e6 f0 f1 f2 f3 f4 f5 f6 R2 I2 H1 CI h2
  refine wp_region_noPanic ?_
  refine wp_region_held_drew (S := fun W => W.cell? ⟨b2, 0, none⟩ = some (.slice (some ⟨bA, off, none⟩) n c) ∧ W.cell? ⟨b2, 1, none⟩ = some (.int .i64 (k : Int)) ∧ W.cell? ⟨bi, 0, none⟩ = some (.int .i64 x.tag) ∧ W.cell? ⟨bi, 1, none⟩ = some (.int .i64 x.id) ∧ W.cell? ⟨bi, 2, none⟩ = some (.int .i64 x.d0) ∧ W.cell? ⟨bi, 3, none⟩ = some (.int .i64 x.d1) ∧ W.cell? ⟨bi, 4, none⟩ = some (.int .i64 x.d2) ∧ W.cell? ⟨bi, 5, none⟩ = some (.int .i64 x.mx) ∧ W.cell? ⟨bi, 6, none⟩ = some (.string x.tx) ∧ W.cell? ⟨bA, off + k * 7, none⟩ = some (.int .i64 x.tag) ∧ W.cell? ⟨bA, off + k * 7 + 1, none⟩ = some (.int .i64 x.id) ∧ W.cell? ⟨bA, off + k * 7 + 2, none⟩ = some (.int .i64 x.d0) ∧ W.cell? ⟨bA, off + k * 7 + 3, none⟩ = some (.int .i64 x.d1) ∧ W.cell? ⟨bA, off + k * 7 + 4, none⟩ = some (.int .i64 x.d2) ∧ W.cell? ⟨bA, off + k * 7 + 5, none⟩ = some (.int .i64 x.mx) ∧ W.cell? ⟨bA, off + k * 7 + 6, none⟩ = some (.string x.tx) ∧ Below W2.heap.size W2 W) (by kernel_rfl) (MK.out _ ((Below.refl _ _).drew)) (fun hHeld => ?_)
  refine wpAnyH_take (i := 0) (v := ?_) rfl (by kernel_rfl) (by kernel_rfl) (by kernel_rfl) (fun _ _ _ h => h) (Or.inl ⟨by rfl, ?_⟩) hHeld ?_
  rotate_left
  · intro w hSw
    (try dsimp only at hSw)
    go_simp
    try with_reducible rfl
  go_simp
  refine wpAnyH_take (i := 1) (v := ?_) rfl (by kernel_rfl) (by kernel_rfl) (by kernel_rfl) (fun _ _ _ h => h) (Or.inl ⟨by rfl, ?_⟩) hHeld ?_
  rotate_left
  · intro w hSw
    (try dsimp only at hSw)
    go_simp
    try with_reducible rfl
  go_simp
  refine wpAnyH_take (i := 2) (v := ?_) rfl (by kernel_rfl) (by kernel_rfl) (by kernel_rfl) (fun _ _ _ h => h) (Or.inl ⟨by rfl, ?_⟩) hHeld ?_
  rotate_left
  · intro w hSw
    (try dsimp only at hSw)
    go_simp
    try with_reducible rfl
  go_simp
  refine wpAnyH_take (i := 3) (v := ?_) rfl (by kernel_rfl) (by kernel_rfl) (by kernel_rfl) (fun _ _ _ h => h) (Or.inl ⟨by rfl, ?_⟩) hHeld ?_
  rotate_left
  · intro w hSw
    (try dsimp only at hSw)
    go_simp
    try with_reducible rfl
  go_simp
  refine wpAnyH_take (i := 4) (v := ?_) rfl (by kernel_rfl) (by kernel_rfl) (by kernel_rfl) (fun _ _ _ h => h) (Or.inl ⟨by rfl, ?_⟩) hHeld ?_
  rotate_left
  · intro w hSw
    (try dsimp only at hSw)
    go_simp
    try with_reducible rfl
  go_simp
  refine wpAnyH_take (i := 5) (v := ?_) rfl (by kernel_rfl) (by kernel_rfl) (by kernel_rfl) (fun _ _ _ h => h) (Or.inl ⟨by rfl, ?_⟩) hHeld ?_
  rotate_left
  · intro w hSw
    (try dsimp only at hSw)
    go_simp
    try with_reducible rfl
  go_simp
  refine wpAnyH_take (i := 6) (v := ?_) rfl (by kernel_rfl) (by kernel_rfl) (by kernel_rfl) (fun _ _ _ h => h) (Or.inl ⟨by rfl, ?_⟩) hHeld ?_
  rotate_left
  · intro w hSw
    (try dsimp only at hSw)
    go_simp
    try with_reducible rfl
  go_simp
  refine wpAnyH_take (i := 7) (v := ?_) rfl (by kernel_rfl) (by kernel_rfl) (by kernel_rfl) (fun _ _ _ h => h) (Or.inl ⟨by rfl, ?_⟩) hHeld ?_
  rotate_left
  · intro w hSw
    (try dsimp only at hSw)
    go_simp
    try with_reducible rfl
  go_simp
  refine wpAnyH_take (i := 8) (v := ?_) rfl (by kernel_rfl) (by kernel_rfl) (by kernel_rfl) (fun _ _ _ h => h) (Or.inl ⟨by rfl, ?_⟩) hHeld ?_
  rotate_left
  · intro w hSw
    (try dsimp only at hSw)
    go_simp
    try with_reducible rfl
  go_simp
  refine wpAnyH_take (i := 9) (v := ?_) rfl (by kernel_rfl) (by kernel_rfl) (by kernel_rfl) (fun _ _ _ h => h) (Or.inl ⟨by rfl, ?_⟩) hHeld ?_
  rotate_left
  · intro w hSw
    (try dsimp only at hSw)
    go_simp
    try with_reducible rfl
  go_simp
  refine wpAnyH_take (i := 10) (v := ?_) rfl (by kernel_rfl) (by kernel_rfl) (by kernel_rfl) (fun _ _ _ h => h) (Or.inl ⟨by rfl, ?_⟩) hHeld ?_
  rotate_left
  · intro w hSw
    (try dsimp only at hSw)
    go_simp
    try with_reducible rfl
  go_simp
  refine wpAnyH_take (i := 11) (v := ?_) rfl (by kernel_rfl) (by kernel_rfl) (by kernel_rfl) (fun _ _ _ h => h) (Or.inl ⟨by rfl, ?_⟩) hHeld ?_
  rotate_left
  · intro w hSw
    (try dsimp only at hSw)
    go_simp
    try with_reducible rfl
  go_simp
  refine wpAnyH_take (i := 12) (v := ?_) rfl (by kernel_rfl) (by kernel_rfl) (by kernel_rfl) (fun _ _ _ h => h) (Or.inl ⟨by rfl, ?_⟩) hHeld ?_
  rotate_left
  · intro w hSw
    (try dsimp only at hSw)
    go_simp
    try with_reducible rfl
  go_simp
  refine wpAnyH_take (i := 13) (v := ?_) rfl (by kernel_rfl) (by kernel_rfl) (by kernel_rfl) (fun _ _ _ h => h) (Or.inl ⟨by rfl, ?_⟩) hHeld ?_
  rotate_left
  · intro w hSw
    (try dsimp only at hSw)
    go_simp
    try with_reducible rfl
  go_simp
  refine wpAnyH_take (i := 14) (v := ?_) rfl (by kernel_rfl) (by kernel_rfl) (by kernel_rfl) (fun _ _ _ h => h) (Or.inl ⟨by rfl, ?_⟩) hHeld ?_
  rotate_left
  · intro w hSw
    (try dsimp only at hSw)
    go_simp
    try with_reducible rfl
  go_simp
  refine wpAnyH_take (i := 15) (v := ?_) rfl (by kernel_rfl) (by kernel_rfl) (by kernel_rfl) (fun _ _ _ h => h) (Or.inl ⟨by rfl, ?_⟩) hHeld ?_
  rotate_left
  · intro w hSw
    (try dsimp only at hSw)
    go_simp
    try with_reducible rfl
  go_simp
  refine wpAnyH_take (i := 17) (v := ?_) rfl (by kernel_rfl) (by kernel_rfl) (by kernel_rfl) (fun _ _ _ h => h) (Or.inl ⟨by rfl, ?_⟩) hHeld ?_
  rotate_left
  · intro w hSw
    (try dsimp only at hSw)
    go_simp
    try with_reducible rfl
  go_simp
  refine wpAnyH_take (i := 18) (v := ?_) rfl (by kernel_rfl) (by kernel_rfl) (by kernel_rfl) (fun _ _ _ h => h) (Or.inl ⟨by rfl, ?_⟩) hHeld ?_
  rotate_left
  · intro w hSw
    (try dsimp only at hSw)
    go_simp
    try with_reducible rfl
  go_simp
  refine wpAnyH_take (i := 19) (v := ?_) rfl (by kernel_rfl) (by kernel_rfl) (by kernel_rfl) (fun _ _ _ h => h) (Or.inl ⟨by rfl, ?_⟩) hHeld ?_
  rotate_left
  · intro w hSw
    (try dsimp only at hSw)
    go_simp
    try with_reducible rfl
  go_simp
  refine wpAnyH_take (i := 20) (v := ?_) rfl (by kernel_rfl) (by kernel_rfl) (by kernel_rfl) (fun _ _ _ h => h) (Or.inl ⟨by rfl, ?_⟩) hHeld ?_
  rotate_left
  · intro w hSw
    (try dsimp only at hSw)
    go_simp
    try with_reducible rfl
  go_simp
  refine wpAnyH_take (i := 21) (v := ?_) rfl (by kernel_rfl) (by kernel_rfl) (by kernel_rfl) (fun _ _ _ h => h) (Or.inl ⟨by rfl, ?_⟩) hHeld ?_
  rotate_left
  · intro w hSw
    (try dsimp only at hSw)
    go_simp
    try with_reducible rfl
  go_simp
  refine wpAnyH_take (i := 22) (v := ?_) rfl (by kernel_rfl) (by kernel_rfl) (by kernel_rfl) (fun _ _ _ h => h) (Or.inl ⟨by rfl, ?_⟩) hHeld ?_
  rotate_left
  · intro w hSw
    (try dsimp only at hSw)
    go_simp
    try with_reducible rfl
  go_simp
  refine wpAnyH_take (i := 23) (v := ?_) rfl (by kernel_rfl) (by kernel_rfl) (by kernel_rfl) (fun _ _ _ h => h) (Or.inl ⟨by rfl, ?_⟩) hHeld ?_
  rotate_left
  · intro w hSw
    (try dsimp only at hSw)
    go_simp
    try with_reducible rfl
  go_simp
  refine wpAnyH_take (i := 24) (v := ?_) rfl (by kernel_rfl) (by kernel_rfl) (by kernel_rfl) (fun _ _ _ h => h) (Or.inl ⟨by rfl, ?_⟩) hHeld ?_
  rotate_left
  · intro w hSw
    (try dsimp only at hSw)
    go_simp
    try with_reducible rfl
  go_simp
  refine wpAnyH_take (i := 25) (v := ?_) rfl (by kernel_rfl) (by kernel_rfl) (by kernel_rfl) (fun _ _ _ h => h) (Or.inl ⟨by rfl, ?_⟩) hHeld ?_
  rotate_left
  · intro w hSw
    (try dsimp only at hSw)
    go_simp
    try with_reducible rfl
  go_simp
  refine wpAnyH_take (i := 26) (v := ?_) rfl (by kernel_rfl) (by kernel_rfl) (by kernel_rfl) (fun _ _ _ h => h) (Or.inl ⟨by rfl, ?_⟩) hHeld ?_
  rotate_left
  · intro w hSw
    (try dsimp only at hSw)
    go_simp
    try with_reducible rfl
  go_simp
  refine wpAnyH_ready (rs := [16]) (by kernel_rfl) (by simp) ?_
  refine AllReadyH.cons rfl (fun K hK => ?_) ?_
  rotate_left
  · exact AllReadyH.nil
  go_simp
  go_wp2_with (((go_at_call 61; (with_reducible refine (CR.out _).mono ?_); rintro e w3 ⟨rfl, hb3⟩)))
  refine hK.out _ _ (MK.out _ (hW2.trans (hb3.mono hW2.size))) (fun hHeld => ?_)
  clear hK K
  go_simp
  refine wpAnyH_take (i := 27) (v := ?_) rfl (by kernel_rfl) (by kernel_rfl) (by kernel_rfl) (fun _ _ _ h => h) (Or.inl ⟨by rfl, ?_⟩) hHeld ?_
  rotate_left
  · intro w hSw
    (try dsimp only at hSw)
    go_simp
    try with_reducible rfl
  go_simp
  refine wpAnyH_take (i := 28) (v := ?_) rfl (by kernel_rfl) (by kernel_rfl) (by kernel_rfl) (fun _ _ _ h => h) (Or.inl ⟨by rfl, ?_⟩) hHeld ?_
  rotate_left
  · intro w hSw
    (try dsimp only at hSw)
    go_simp
    try with_reducible rfl
  go_simp
  refine wpAnyH_take (i := 29) (v := ?_) rfl (by kernel_rfl) (by kernel_rfl) (by kernel_rfl) (fun _ _ _ h => h) (Or.inl ⟨by rfl, ?_⟩) hHeld ?_
  rotate_left
  · intro w hSw
    (try dsimp only at hSw)
    go_simp
    try with_reducible rfl
  go_simp
  refine wpAnyH_take (i := 30) (v := ?_) rfl (by kernel_rfl) (by kernel_rfl) (by kernel_rfl) (fun _ _ _ h => h) (Or.inl ⟨by rfl, ?_⟩) hHeld ?_
  rotate_left
  · intro w hSw
    (try dsimp only at hSw)
    go_simp
    try with_reducible rfl
  go_simp
  refine wpAnyH_take (i := 31) (v := ?_) rfl (by kernel_rfl) (by kernel_rfl) (by kernel_rfl) (fun _ _ _ h => h) (Or.inl ⟨by rfl, ?_⟩) hHeld ?_
  rotate_left
  · intro w hSw
    (try dsimp only at hSw)
    go_simp
    try with_reducible rfl
  go_simp
  refine wpAnyH_take (i := 32) (v := ?_) rfl (by kernel_rfl) (by kernel_rfl) (by kernel_rfl) (fun _ _ _ h => h) (Or.inl ⟨by rfl, ?_⟩) hHeld ?_
  rotate_left
  · intro w hSw
    (try dsimp only at hSw)
    go_simp
    try with_reducible rfl
  go_simp
  refine wpAnyH_take (i := 33) (v := ?_) rfl (by kernel_rfl) (by kernel_rfl) (by kernel_rfl) (fun _ _ _ h => h) (Or.inl ⟨by rfl, ?_⟩) hHeld ?_
  rotate_left
  · intro w hSw
    (try dsimp only at hSw)
    go_simp
    try with_reducible rfl
  go_simp
  refine wpAnyH_take (i := 34) (v := undef) rfl (by kernel_rfl) (by kernel_rfl) (by kernel_rfl) (fun _ _ _ h => h) (Or.inr ⟨by rfl, rfl⟩) hHeld ?_
  go_simp
  refine wpAnyH_take (i := 35) (v := undef) rfl (by kernel_rfl) (by kernel_rfl) (by kernel_rfl) (fun _ _ _ h => h) (Or.inr ⟨by rfl, rfl⟩) hHeld ?_
  go_simp
  refine wpAnyH_take (i := 36) (v := undef) rfl (by kernel_rfl) (by kernel_rfl) (by kernel_rfl) (fun _ _ _ h => h) (Or.inr ⟨by rfl, rfl⟩) hHeld ?_
  go_simp
  refine wpAnyH_take (i := 37) (v := ?_) rfl (by kernel_rfl) (by kernel_rfl) (by kernel_rfl) (fun _ _ _ h => h) (Or.inl ⟨by rfl, ?_⟩) hHeld ?_
  rotate_left
  · intro w hSw
    (try dsimp only at hSw)
    go_simp
    try with_reducible rfl
  go_simp
  refine wpAnyH_take (i := 38) (v := ?_) rfl (by kernel_rfl) (by kernel_rfl) (by kernel_rfl) (fun _ _ _ h => h) (Or.inl ⟨by rfl, ?_⟩) hHeld ?_
  rotate_left
  · intro w hSw
    (try dsimp only at hSw)
    go_simp
    try with_reducible rfl
  go_simp
  refine wpAnyH_done (by kernel_rfl) ?_ _
  refine NoPanic.normal ?_
  have hW3 := hW2.trans (hb3.mono hW2.size)
  have a3 := q2.trans (hW3.mono q2.size)
  clear MK hHeld
  go_wp2_with fail
  refine (CS.out _ a3).mono ?_
  rintro e w4 ⟨rfl, hb4⟩
  have a4 := a3.trans (hb4.mono a3.size)
  go_wp2_with fail
  refine (CF.out _ _).mono ?_
  rintro e w5 ⟨rfl, hb5⟩
  have a5 := a4.trans (hb5.mono a4.size)
  go_wp2_with fail
  refine (CSR.out _ a5).mono ?_
  rintro e w6 ⟨rfl, hb6⟩
  have a6 := a5.trans (hb6.mono a5.size)
  go_wp2_with fail
  refine (CE.out _ a6).mono ?_
  rintro e w7 ⟨rfl, hb7⟩
  have a7 := a6.trans (hb7.mono a6.size)
  go_wp2_with fail
  refine (CF.out _ _).mono ?_
  rintro e w8 ⟨rfl, hb8⟩
  have a8 := a7.trans (hb8.mono a7.size)
  go_wp2_with fail
  refine (CER.out _ a8).mono ?_
  rintro e w9 ⟨rfl, hb9⟩
  have a9 := a8.trans (hb9.mono a8.size)
  go_wp2
  go_ret
  exact ⟨rfl, a9⟩
set_option maxHeartbeats 8000000 in
set_option maxRecDepth 100000 in
theorem agrees_out (K : TreeQ T) (P : Two T w b b2 a l h k A n c) (hk : ¬ k < n) : Calls Try.prog 22 #[.pointer (some ⟨b, 0, none⟩), .pointer (some ⟨b2, 0, none⟩)] w fun e w' => e = .returned (.bool true) ∧ Below w.heap.size w w' := by
  have HEQ := eq3
  have hkl : k ≤ n := by have := P.one.le; have := P.len; omega
  have hsm := P.small
  have hcp := P.cap
  have HN := Lib.hid P.len
  have CS := Lib.hid fun (W : World) (hW : Below w.heap.size w W) => cstart_any (P.keep hW).one
  have CSR := Lib.hid fun (W : World) (hW : Below w.heap.size w W) => rstart_any b2 A n c k l W (P.keep hW).two ((P.keep hW).its W (Off.refl _ _ _)) P.len (by omega) P.cap P.one.ok hkl
  have CF := Lib.hid fun (s : S6) (W : World) => srefs6_any s W
  have hkn : k = n := by omega
  have CE := Lib.hid fun (W : World) (hW : Below w.heap.size w W) => cend_no K (P.keep hW).one (by rw [P.len]; exact hk)
  have CER := Lib.hid fun (W : World) (hW : Below w.heap.size w W) => rend_no b2 A n c k l W (P.keep hW).two ((P.keep hW).its W (Off.refl _ _ _)) P.len (by omega) P.cap P.one.ok hkn
  have CI := Lib.hid (citem_no K P.one (by rw [P.len]; exact hk))
  have h2 := P.two
  clear P
  generalize hx : (⟨0, 0, 0, 0, 0, 0, ⟨#[]⟩⟩ : I7) = x at CI
  have HX := Lib.hid hx; clear hx
  generalize hu : sall (l.take k) = s at *
  clear hu
  unfold ics at CI
  unfold scs at CS CSR CE CER CF
  have i1 : ¬ (k : Int) < (n : Int) := by omega
  have hdd : decide (k < n) = false := decide_eq_false hk
  have hdn : ¬ k < n := hk
  have HKN := Lib.hid hkn; clear hkn hk
  go_enter Try.func22, Try.ntmps22
  go_wp2_with fail
  refine CI.out.mono ?_
  rintro e w1 ⟨rfl, hb1⟩
  have q2 := hb1.alloc hb1.size (.cells (ics x) 54)
  have I2 := Lib.hid (show RawAt 54 (w1.alloc (.cells (ics x) 54)) w1.heap.size (ics x) from heap_alloc_new w1 _)
  unfold ics at q2 I2
  go_wp2_with fail
  generalize (w1.alloc (.cells #[.int .i64 x.tag, .int .i64 x.id, .int .i64 x.d0, .int .i64 x.d1, .int .i64 x.d2, .int .i64 x.mx, .string x.tx] 54)) = W2 at *
  generalize w1.heap.size = bi at *
  have R2 := Lib.hid (RawAt.below h2 q2 (RawAt.lt h2))
  have MK : Hid (∀ W : World, Below W2.heap.size W2 W → (fun W => W.cell? ⟨b2, 0, none⟩ = some (.slice A n c) ∧ W.cell? ⟨b2, 1, none⟩ = some (.int .i64 (k : Int)) ∧ W.cell? ⟨bi, 0, none⟩ = some (.int .i64 x.tag) ∧ W.cell? ⟨bi, 1, none⟩ = some (.int .i64 x.id) ∧ W.cell? ⟨bi, 2, none⟩ = some (.int .i64 x.d0) ∧ W.cell? ⟨bi, 3, none⟩ = some (.int .i64 x.d1) ∧ W.cell? ⟨bi, 4, none⟩ = some (.int .i64 x.d2) ∧ W.cell? ⟨bi, 5, none⟩ = some (.int .i64 x.mx) ∧ W.cell? ⟨bi, 6, none⟩ = some (.string x.tx) ∧ Below W2.heap.size W2 W) W) := fun W hW => by
    have h3 := RawAt.below R2.out hW (RawAt.lt R2.out)
    obtain ⟨r0, r1, r2, r3, r4, r5, r6⟩ := raw_ics (RawAt.below I2.out hW (RawAt.lt I2.out))
    exact ⟨RawAt.cell h3 0, RawAt.cell h3 1, r0, r1, r2, r3, r4, r5, r6, hW⟩
  have hW3 : Below W2.heap.size W2 W2.drew := (Below.refl _ _).drew
  clear R2 I2 CI h2
  rw [← HX.out] at MK
  refine wp_region_noPanic ?_
  refine wp_region_held_drew (S := fun W => W.cell? ⟨b2, 0, none⟩ = some (.slice A n c) ∧ W.cell? ⟨b2, 1, none⟩ = some (.int .i64 (k : Int)) ∧ W.cell? ⟨bi, 0, none⟩ = some (.int .i64 0) ∧ W.cell? ⟨bi, 1, none⟩ = some (.int .i64 0) ∧ W.cell? ⟨bi, 2, none⟩ = some (.int .i64 0) ∧ W.cell? ⟨bi, 3, none⟩ = some (.int .i64 0) ∧ W.cell? ⟨bi, 4, none⟩ = some (.int .i64 0) ∧ W.cell? ⟨bi, 5, none⟩ = some (.int .i64 0) ∧ W.cell? ⟨bi, 6, none⟩ = some (.string ⟨#[]⟩) ∧ Below W2.heap.size W2 W) (by kernel_rfl) (MK.out _ ((Below.refl _ _).drew)) (fun hHeld => ?_)
  refine wpAnyH_take (i := 0) (v := ?_) rfl (by kernel_rfl) (by kernel_rfl) (by kernel_rfl) (fun _ _ _ h => h) (Or.inl ⟨by rfl, ?_⟩) hHeld ?_
  rotate_left
  · intro w hSw
    (try dsimp only at hSw)
    go_simp
    try with_reducible rfl
  go_simp
  refine wpAnyH_take (i := 1) (v := ?_) rfl (by kernel_rfl) (by kernel_rfl) (by kernel_rfl) (fun _ _ _ h => h) (Or.inl ⟨by rfl, ?_⟩) hHeld ?_
  rotate_left
  · intro w hSw
    (try dsimp only at hSw)
    go_simp
    try with_reducible rfl
  go_simp
  refine wpAnyH_take (i := 2) (v := ?_) rfl (by kernel_rfl) (by kernel_rfl) (by kernel_rfl) (fun _ _ _ h => h) (Or.inl ⟨by rfl, ?_⟩) hHeld ?_
  rotate_left
  · intro w hSw
    (try dsimp only at hSw)
    go_simp
    try with_reducible rfl
  go_simp
  refine wpAnyH_take (i := 3) (v := ?_) rfl (by kernel_rfl) (by kernel_rfl) (by kernel_rfl) (fun _ _ _ h => h) (Or.inl ⟨by rfl, ?_⟩) hHeld ?_
  rotate_left
  · intro w hSw
    (try dsimp only at hSw)
    go_simp
    try with_reducible rfl
  go_simp
  refine wpAnyH_take (i := 4) (v := ?_) rfl (by kernel_rfl) (by kernel_rfl) (by kernel_rfl) (fun _ _ _ h => h) (Or.inl ⟨by rfl, ?_⟩) hHeld ?_
  rotate_left
  · intro w hSw
    (try dsimp only at hSw)
    go_simp
    try with_reducible rfl
  go_simp
  refine wpAnyH_take (i := 5) (v := ?_) rfl (by kernel_rfl) (by kernel_rfl) (by kernel_rfl) (fun _ _ _ h => h) (Or.inl ⟨by rfl, ?_⟩) hHeld ?_
  rotate_left
  · intro w hSw
    (try dsimp only at hSw)
    go_simp
    try with_reducible rfl
  go_simp
  refine wpAnyH_take (i := 6) (v := ?_) rfl (by kernel_rfl) (by kernel_rfl) (by kernel_rfl) (fun _ _ _ h => h) (Or.inl ⟨by rfl, ?_⟩) hHeld ?_
  rotate_left
  · intro w hSw
    (try dsimp only at hSw)
    go_simp
    try with_reducible rfl
  go_simp
  refine wpAnyH_take (i := 7) (v := ?_) rfl (by kernel_rfl) (by kernel_rfl) (by kernel_rfl) (fun _ _ _ h => h) (Or.inl ⟨by rfl, ?_⟩) hHeld ?_
  rotate_left
  · intro w hSw
    (try dsimp only at hSw)
    go_simp
    try with_reducible rfl
  go_simp
  refine wpAnyH_take (i := 8) (v := ?_) rfl (by kernel_rfl) (by kernel_rfl) (by kernel_rfl) (fun _ _ _ h => h) (Or.inl ⟨by rfl, ?_⟩) hHeld ?_
  rotate_left
  · intro w hSw
    (try dsimp only at hSw)
    go_simp
    try with_reducible rfl
  go_simp
  refine wpAnyH_take (i := 9) (v := ?_) rfl (by kernel_rfl) (by kernel_rfl) (by kernel_rfl) (fun _ _ _ h => h) (Or.inl ⟨by rfl, ?_⟩) hHeld ?_
  rotate_left
  · intro w hSw
    (try dsimp only at hSw)
    go_simp
    try with_reducible rfl
  go_simp
  refine wpAnyH_take (i := 10) (v := ?_) rfl (by kernel_rfl) (by kernel_rfl) (by kernel_rfl) (fun _ _ _ h => h) (Or.inl ⟨by rfl, ?_⟩) hHeld ?_
  rotate_left
  · intro w hSw
    (try dsimp only at hSw)
    go_simp
    try with_reducible rfl
  go_simp
  refine wpAnyH_take (i := 11) (v := ?_) rfl (by kernel_rfl) (by kernel_rfl) (by kernel_rfl) (fun _ _ _ h => h) (Or.inl ⟨by rfl, ?_⟩) hHeld ?_
  rotate_left
  · intro w hSw
    (try dsimp only at hSw)
    go_simp
    try with_reducible rfl
  go_simp
  refine wpAnyH_take (i := 12) (v := ?_) rfl (by kernel_rfl) (by kernel_rfl) (by kernel_rfl) (fun _ _ _ h => h) (Or.inl ⟨by rfl, ?_⟩) hHeld ?_
  rotate_left
  · intro w hSw
    (try dsimp only at hSw)
    go_simp
    try with_reducible rfl
  go_simp
  refine wpAnyH_take (i := 13) (v := ?_) rfl (by kernel_rfl) (by kernel_rfl) (by kernel_rfl) (fun _ _ _ h => h) (Or.inl ⟨by rfl, ?_⟩) hHeld ?_
  rotate_left
  · intro w hSw
    (try dsimp only at hSw)
    go_simp
    try with_reducible rfl
  go_simp
  refine wpAnyH_take (i := 14) (v := ?_) rfl (by kernel_rfl) (by kernel_rfl) (by kernel_rfl) (fun _ _ _ h => h) (Or.inl ⟨by rfl, ?_⟩) hHeld ?_
  rotate_left
  · intro w hSw
    (try dsimp only at hSw)
    go_simp
    try with_reducible rfl
  go_simp
  refine wpAnyH_take (i := 15) (v := undef) rfl (by kernel_rfl) (by kernel_rfl) (by kernel_rfl) (fun _ _ _ h => h) (Or.inr ⟨by rfl, rfl⟩) hHeld ?_
  go_simp
  refine wpAnyH_take (i := 16) (v := undef) rfl (by kernel_rfl) (by kernel_rfl) (by kernel_rfl) (fun _ _ _ h => h) (Or.inr ⟨by rfl, rfl⟩) hHeld ?_
  go_simp
  refine wpAnyH_take (i := 17) (v := undef) rfl (by kernel_rfl) (by kernel_rfl) (by kernel_rfl) (fun _ _ _ h => h) (Or.inr ⟨by rfl, rfl⟩) hHeld ?_
  go_simp
  refine wpAnyH_take (i := 18) (v := undef) rfl (by kernel_rfl) (by kernel_rfl) (by kernel_rfl) (fun _ _ _ h => h) (Or.inr ⟨by rfl, rfl⟩) hHeld ?_
  go_simp
  refine wpAnyH_take (i := 19) (v := undef) rfl (by kernel_rfl) (by kernel_rfl) (by kernel_rfl) (fun _ _ _ h => h) (Or.inr ⟨by rfl, rfl⟩) hHeld ?_
  go_simp
  refine wpAnyH_take (i := 20) (v := undef) rfl (by kernel_rfl) (by kernel_rfl) (by kernel_rfl) (fun _ _ _ h => h) (Or.inr ⟨by rfl, rfl⟩) hHeld ?_
  go_simp
  refine wpAnyH_take (i := 21) (v := undef) rfl (by kernel_rfl) (by kernel_rfl) (by kernel_rfl) (fun _ _ _ h => h) (Or.inr ⟨by rfl, rfl⟩) hHeld ?_
  go_simp
  refine wpAnyH_take (i := 22) (v := undef) rfl (by kernel_rfl) (by kernel_rfl) (by kernel_rfl) (fun _ _ _ h => h) (Or.inr ⟨by rfl, rfl⟩) hHeld ?_
  go_simp
  refine wpAnyH_take (i := 23) (v := undef) rfl (by kernel_rfl) (by kernel_rfl) (by kernel_rfl) (fun _ _ _ h => h) (Or.inr ⟨by rfl, rfl⟩) hHeld ?_
  go_simp
  refine wpAnyH_take (i := 24) (v := undef) rfl (by kernel_rfl) (by kernel_rfl) (by kernel_rfl) (fun _ _ _ h => h) (Or.inr ⟨by rfl, rfl⟩) hHeld ?_
  go_simp
  refine wpAnyH_take (i := 25) (v := undef) rfl (by kernel_rfl) (by kernel_rfl) (by kernel_rfl) (fun _ _ _ h => h) (Or.inr ⟨by rfl, rfl⟩) hHeld ?_
  go_simp
  refine wpAnyH_take (i := 26) (v := undef) rfl (by kernel_rfl) (by kernel_rfl) (by kernel_rfl) (fun _ _ _ h => h) (Or.inr ⟨by rfl, rfl⟩) hHeld ?_
  go_simp
  refine wpAnyH_take (i := 27) (v := undef) rfl (by kernel_rfl) (by kernel_rfl) (by kernel_rfl) (fun _ _ _ h => h) (Or.inr ⟨by rfl, rfl⟩) hHeld ?_
  go_simp
  refine wpAnyH_take (i := 28) (v := ?_) rfl (by kernel_rfl) (by kernel_rfl) (by kernel_rfl) (fun _ _ _ h => h) (Or.inl ⟨by rfl, ?_⟩) hHeld ?_
  rotate_left
  · intro w hSw
    (try dsimp only at hSw)
    go_simp
    try with_reducible rfl
  go_simp
  refine wpAnyH_take (i := 29) (v := ?_) rfl (by kernel_rfl) (by kernel_rfl) (by kernel_rfl) (fun _ _ _ h => h) (Or.inl ⟨by rfl, ?_⟩) hHeld ?_
  rotate_left
  · intro w hSw
    (try dsimp only at hSw)
    go_simp
    try with_reducible rfl
  go_simp
  refine wpAnyH_take (i := 30) (v := ?_) rfl (by kernel_rfl) (by kernel_rfl) (by kernel_rfl) (fun _ _ _ h => h) (Or.inl ⟨by rfl, ?_⟩) hHeld ?_
  rotate_left
  · intro w hSw
    (try dsimp only at hSw)
    go_simp
    try with_reducible rfl
  go_simp
  refine wpAnyH_take (i := 31) (v := ?_) rfl (by kernel_rfl) (by kernel_rfl) (by kernel_rfl) (fun _ _ _ h => h) (Or.inl ⟨by rfl, ?_⟩) hHeld ?_
  rotate_left
  · intro w hSw
    (try dsimp only at hSw)
    go_simp
    try with_reducible rfl
  go_simp
  refine wpAnyH_take (i := 32) (v := ?_) rfl (by kernel_rfl) (by kernel_rfl) (by kernel_rfl) (fun _ _ _ h => h) (Or.inl ⟨by rfl, ?_⟩) hHeld ?_
  rotate_left
  · intro w hSw
    (try dsimp only at hSw)
    go_simp
    try with_reducible rfl
  go_simp
  refine wpAnyH_take (i := 33) (v := ?_) rfl (by kernel_rfl) (by kernel_rfl) (by kernel_rfl) (fun _ _ _ h => h) (Or.inl ⟨by rfl, ?_⟩) hHeld ?_
  rotate_left
  · intro w hSw
    (try dsimp only at hSw)
    go_simp
    try with_reducible rfl
  go_simp
  refine wpAnyH_take (i := 34) (v := ?_) rfl (by kernel_rfl) (by kernel_rfl) (by kernel_rfl) (fun _ _ _ h => h) (Or.inl ⟨by rfl, ?_⟩) hHeld ?_
  rotate_left
  · intro w hSw
    (try dsimp only at hSw)
    go_simp
    try with_reducible rfl
  go_simp
  refine wpAnyH_take (i := 35) (v := ?_) rfl (by kernel_rfl) (by kernel_rfl) (by kernel_rfl) (fun _ _ _ h => h) (Or.inl ⟨by rfl, ?_⟩) hHeld ?_
  rotate_left
  · intro w hSw
    (try dsimp only at hSw)
    go_simp
    try with_reducible rfl
  go_simp
  refine wpAnyH_take (i := 36) (v := ?_) rfl (by kernel_rfl) (by kernel_rfl) (by kernel_rfl) (fun _ _ _ h => h) (Or.inl ⟨by rfl, ?_⟩) hHeld ?_
  rotate_left
  · intro w hSw
    (try dsimp only at hSw)
    go_simp
    try with_reducible rfl
  go_simp
  refine wpAnyH_take (i := 37) (v := ?_) rfl (by kernel_rfl) (by kernel_rfl) (by kernel_rfl) (fun _ _ _ h => h) (Or.inl ⟨by rfl, ?_⟩) hHeld ?_
  rotate_left
  · intro w hSw
    (try dsimp only at hSw)
    go_simp
    try with_reducible rfl
  go_simp
  refine wpAnyH_take (i := 38) (v := ?_) rfl (by kernel_rfl) (by kernel_rfl) (by kernel_rfl) (fun _ _ _ h => h) (Or.inl ⟨by rfl, ?_⟩) hHeld ?_
  rotate_left
  · intro w hSw
    (try dsimp only at hSw)
    go_simp
    try with_reducible rfl
  go_simp
  refine wpAnyH_done (by kernel_rfl) ?_ _
  refine NoPanic.normal ?_
  have a3 := q2.trans (hW3.mono q2.size)
  clear MK hHeld
  go_wp2_with fail
  refine (CS.out _ a3).mono ?_
  rintro e w4 ⟨rfl, hb4⟩
  have a4 := a3.trans (hb4.mono a3.size)
  go_wp2_with fail
  refine (CF.out _ _).mono ?_
  rintro e w5 ⟨rfl, hb5⟩
  have a5 := a4.trans (hb5.mono a4.size)
  go_wp2_with fail
  refine (CSR.out _ a5).mono ?_
  rintro e w6 ⟨rfl, hb6⟩
  have a6 := a5.trans (hb6.mono a5.size)
  go_wp2_with fail
  refine (CE.out _ a6).mono ?_
  rintro e w7 ⟨rfl, hb7⟩
  have a7 := a6.trans (hb7.mono a6.size)
  go_wp2_with fail
  refine (CF.out _ _).mono ?_
  rintro e w8 ⟨rfl, hb8⟩
  have a8 := a7.trans (hb8.mono a7.size)
  go_wp2_with fail
  refine (CER.out _ a8).mono ?_
  rintro e w9 ⟨rfl, hb9⟩
  have a9 := a8.trans (hb9.mono a8.size)
  go_wp2
  go_ret
  exact ⟨rfl, a9⟩
end
section
variable {T : World → Addr → List I7 → Nat → Prop} {w : World} {b b2 : Nat} {a : Addr} {l : List I7} {h k n c : Nat} {A : Option Addr}
theorem Two.move (P : Two T w b b2 a l h k A n c) {w' : World} {m : Nat} (ho : Off b b2 w w') (C : CAt T w' b b2 a l h m) (R : RawAt 44 w' b2 (rcs A n c m)) : Two T w' b b2 a l h m A n c :=
  ⟨C, R, fun W hW => P.its W (ho.trans hW), P.len, P.cap, P.ne, P.small⟩
theorem TakeIs.unique {l : List I7} {dim : Nat} {v : Int} {k m q : Nat} (h : TakeIs l dim v k m) (g : TakeIs l dim v k q) : m = q := by
  rcases Nat.lt_trichotomy m q with h1 | h1 | h1
  · exact absurd (h.yes (Nat.lt_of_lt_of_le h1 g.le)) (Int.not_lt.mpr (g.no m h.ge h1))
  · exact h1
  · exact absurd (g.yes (Nat.lt_of_lt_of_le h1 h.le)) (Int.not_lt.mpr (h.no q g.ge h1))
theorem its_off {t : TypeId} {w w' : World} {b2 : Nat} {A0 A : Option Addr} {n c k : Nat} {l : List I7} (hr : RawAt t w b2 (rcs A0 n c k)) (hI : ItsAt w A l) (ho : Off b2 b2 w w') : ItsAt w' A l := by
  intro hp
  obtain ⟨bk, off, rfl, hb, hc⟩ := hI hp
  have hne : bk ≠ b2 := by
    rintro rfl
    obtain ⟨_, _, _, _, _, _, h6⟩ := hc 0 hp
    rw [RawAt.cell hr] at h6
    simp [rcs] at h6
  have hcell : ∀ o, w'.cell? ⟨bk, o, none⟩ = w.cell? ⟨bk, o, none⟩ := fun o => World.cell?_of_block (a := ⟨bk, o, none⟩) (ho.rest bk hb hne hne)
  refine ⟨bk, off, rfl, Nat.lt_of_lt_of_le hb ho.size, fun k hk => ?_⟩
  obtain ⟨h0, h1, h2, h3, h4, h5, h6⟩ := hc k hk
  exact ⟨(hcell _).trans h0, (hcell _).trans h1, (hcell _).trans h2, (hcell _).trans h3, (hcell _).trans h4, (hcell _).trans h5, (hcell _).trans h6⟩
/-- What is asked of a step. -/
def Done (T : World → Addr → List I7 → Nat → Prop) (w : World) (b b2 : Nat) (a : Addr) (l : List I7) (h : Nat) (A : Option Addr) (n c : Nat) (e : Ending) (w' : World) : Prop :=
  ∃ m, e = .returned (.bool true) ∧ Two T w' b b2 a l h m A n c ∧ Off b b2 w w'
set_option maxHeartbeats 4000000 in
set_option maxRecDepth 100000 in
theorem does_to (K : TreeQ T) (P : Two T w b b2 a l h k A n c) (sk sd sv sb : Int) (hs : sk = 0 ∨ sk = 1) : Calls Try.prog 23 #[.pointer (some ⟨b, 0, none⟩), .pointer (some ⟨b2, 0, none⟩), .agg #[.int .i64 sk, .int .i64 sd, .int .i64 sv, .int .i64 sb]] w (Done T w b b2 a l h A n c) := by
  have q0 : Below w.heap.size w (w.alloc (.cells #[.int .i64 sk, .int .i64 sd, .int .i64 sv, .int .i64 sb] 46)) := (Below.refl _ _).alloc (Nat.le_refl _) _
  have X0 := Lib.hid (show RawAt 46 (w.alloc (.cells #[.int .i64 sk, .int .i64 sd, .int .i64 sv, .int .i64 sb] 46)) w.heap.size #[.int .i64 sk, .int .i64 sd, .int .i64 sv, .int .i64 sb] from heap_alloc_new w _)
  have HP := Lib.hid (P.keep q0)
  have hbx : w.heap.size ≠ b := by have := P.one.lt; omega
  have HBX := Lib.hid hbx; clear hbx
  clear P
  rcases hs with rfl | rfl
  all_goals
    by_cases hq : AskOk l sd sv sb
    · have CT := Lib.hid (cto_yes K HP.out.one sd sv sb hq)
      go_enter Try.func23, Try.ntmps23
      go_wp2_with fail
      refine CT.out.mono ?_
      rintro e w1 ⟨m, hf, rfl, C1, ho1⟩
      have X1 := ho1.raw X0.out HBX.out HBX.out
      have x1 : w1.cell? ⟨w.heap.size, 1, none⟩ = some (.int .i64 sd) := RawAt.cell X1 1
      have x2 : w1.cell? ⟨w.heap.size, 2, none⟩ = some (.int .i64 sv) := RawAt.cell X1 2
      have x3 : w1.cell? ⟨w.heap.size, 3, none⟩ = some (.int .i64 sb) := RawAt.cell X1 3
      have R1 := ho1.raw HP.out.two (Ne.symm HP.out.ne) (Ne.symm HP.out.ne)
      have CR := Lib.hid (rto_yes b2 A n c k l sd sv sb w1 R1 (HP.out.its w1 ho1.left) HP.out.len (by have := HP.out.small; omega) HP.out.cap HP.out.one.ok hq)
      have HF := Lib.hid hf; clear hf
      have HC1 := Lib.hid C1; clear C1
      have HO1 := Lib.hid ho1; clear ho1 R1 X1
      go_wp2_with fail
      refine CR.out.mono ?_
      rintro e w2 ⟨m2, hf2, rfl, R2, ho2⟩
      obtain rfl : m = m2 := HF.out.unique hf2
      have T2 := Lib.hid (Two.move HP.out (HO1.out.left.trans ho2.right) (HC1.out.other HP.out.ne ho2) R2)
      have O2 := Lib.hid ((Off.of q0).trans (HO1.out.left.trans ho2.right))
      clear hf2 R2 ho2 x1 x2 x3
      go_wp2
      go_ret
      exact ⟨m, rfl, T2.out, O2.out⟩
    · have CT := Lib.hid (cto_no K HP.out.one sd sv sb hq)
      go_enter Try.func23, Try.ntmps23
      go_wp2_with fail
      refine CT.out.mono ?_
      rintro e w1 ⟨rfl, hb1⟩
      have X1 := RawAt.below X0.out hb1 (RawAt.lt X0.out)
      have x1 : w1.cell? ⟨w.heap.size, 1, none⟩ = some (.int .i64 sd) := RawAt.cell X1 1
      have x2 : w1.cell? ⟨w.heap.size, 2, none⟩ = some (.int .i64 sv) := RawAt.cell X1 2
      have x3 : w1.cell? ⟨w.heap.size, 3, none⟩ = some (.int .i64 sb) := RawAt.cell X1 3
      have T1 := Lib.hid (HP.out.keep hb1)
      have CR := Lib.hid (rto_no b2 A n c k l sd sv sb w1 T1.out.two (T1.out.its w1 (Off.refl _ _ _)) HP.out.len (by have := HP.out.small; omega) HP.out.one.ok hq)
      clear X1
      go_wp2_with fail
      refine CR.out.mono ?_
      rintro e w2 ⟨rfl, hb2⟩
      have T2 := Lib.hid (T1.out.keep hb2)
      have O2 := Lib.hid ((Off.of (b := b) (c := b2) q0).trans ((Off.of hb1).trans (Off.of hb2)))
      clear x1 x2 x3
      go_wp2
      go_ret
      exact ⟨k, rfl, T2.out, O2.out⟩
set_option maxHeartbeats 4000000 in
set_option maxRecDepth 100000 in
theorem does_next (K : TreeQ T) (P : Two T w b b2 a l h k A n c) (sk sd sv sb : Int) (hs : sk = 2 ∨ sk = 3) : Calls Try.prog 23 #[.pointer (some ⟨b, 0, none⟩), .pointer (some ⟨b2, 0, none⟩), .agg #[.int .i64 sk, .int .i64 sd, .int .i64 sv, .int .i64 sb]] w (Done T w b b2 a l h A n c) := by
  have hkl : k ≤ n := by have := P.one.le; have := P.len; omega
  have hsm := P.small
  have hb2 : b2 < w.heap.size := RawAt.lt P.two
  have c0 : w.cell? ⟨b2, 0, none⟩ = some (.slice A n c) := RawAt.cell P.two 0
  have c1 : w.cell? ⟨b2, 1, none⟩ = some (.int .i64 k) := RawAt.cell P.two 1
  have y1 := RawAt.free P.two 1
  have hw1 : IntKind.i64.wrap ((k : Int) + 1) = (k : Int) + 1 := IntWalk.i64_in _ (by omega)
  have hw2 : IntKind.i64.wrap ((k : Int) - 1) = (k : Int) - 1 := IntWalk.i64_in _ (by omega)
  have HP := Lib.hid P; clear P
  rcases hs with rfl | rfl
  all_goals
    have MK : Hid (∀ W : World, Below w.heap.size w W → (fun W => W.cell? ⟨b2, 0, none⟩ = some (.slice A n c) ∧ W.cell? ⟨b2, 1, none⟩ = some (.int .i64 (k : Int)) ∧ Below w.heap.size w W) W) := fun W hW => by
      have h3 := RawAt.below HP.out.two hW hb2
      exact ⟨RawAt.cell h3 0, RawAt.cell h3 1, hW⟩
    by_cases hk : k < n
    · have i1 : (k : Int) < (n : Int) := by omega
      have hdn : decide (k < n) = true := decide_eq_true hk
      have o1 := (Off.refl b2 b2 w).set 1 (.int .i64 ((k : Int) + 1))
      have k1 := (HP.out.two.set_ 1 (.int .i64 ((k : Int) + 1))).of_eq (show _ = rcs A n c (k + 1) from by simp [rcs])
      have K1 := Lib.hid k1
      have O1 := Lib.hid o1
      clear k1 o1
      have CN : Hid (∀ W, Below (w.setCell ⟨b2, 1, none⟩ (.int .i64 ((k : Int) + 1))).heap.size (w.setCell ⟨b2, 1, none⟩ (.int .i64 ((k : Int) + 1))) W → Calls Try.prog 27 #[.pointer (some ⟨b, 0, none⟩)] W fun e w' => e = .returned (.bool true) ∧ CAt T w' b b2 a l h (k + 1) ∧ RawAt 44 w' b2 (rcs A n c (k + 1)) ∧ Off b b2 w w') := fun W hW => (cnext_yes K ((HP.out.one.other HP.out.ne O1.out).keep hW) (by rw [HP.out.len]; exact hk)).mono fun _ _ ⟨he, hc, ho⟩ => ⟨he, hc, ho.raw (RawAt.below K1.out hW (RawAt.lt K1.out)) (Ne.symm HP.out.ne) (Ne.symm HP.out.ne), (O1.out.right (b := b)).trans ((Off.of hW).trans ho.left)⟩
      go_enter Try.func23, Try.ntmps23
      go_wp2_with fail
      go_region_held3 (fun W => W.cell? ⟨b2, 0, none⟩ = some (.slice A n c) ∧ W.cell? ⟨b2, 1, none⟩ = some (.int .i64 (k : Int)) ∧ Below w.heap.size w W) (exact MK.out _ (by (repeat' (first | (with_reducible exact Below.refl _ _) | (with_reducible refine Below.drew ?_) | (with_reducible refine Below.alloc ?_ ?_ _))) <;> first | exact Nat.le_refl _ | (simp; done))) (fail)
      go_wp2_with fail
      (with_reducible refine (CN.out _ (by (repeat' (first | (with_reducible exact Below.refl _ _) | (with_reducible refine Below.drew ?_) | (with_reducible refine Below.alloc ?_ ?_ _))) <;> first | exact Nat.le_refl _ | (simp; done))).mono ?_)
      rintro e w2 ⟨rfl, C2, R2, O2_⟩
      all_goals
        have O2 := Lib.hid O2_
        have T2 := Lib.hid (Two.move HP.out O2.out C2 R2)
        clear C2 R2
        go_wp2
        go_ret
        exact ⟨k + 1, rfl, T2.out, O2.out⟩
    · have i1 : ¬ (k : Int) < (n : Int) := by omega
      have hdn : decide (k < n) = false := decide_eq_false hk
      have CN := Lib.hid fun (W : World) (hW : Below w.heap.size w W) => (cnext_no K (HP.out.one.keep hW) (by rw [HP.out.len]; exact hk)).mono fun _ _ ⟨he, hb⟩ => (⟨he, hW.trans (hb.mono hW.size)⟩ : _ ∧ Below w.heap.size w _)
      go_enter Try.func23, Try.ntmps23
      go_wp2_with fail
      go_region_held3 (fun W => W.cell? ⟨b2, 0, none⟩ = some (.slice A n c) ∧ W.cell? ⟨b2, 1, none⟩ = some (.int .i64 (k : Int)) ∧ Below w.heap.size w W) (exact MK.out _ (by (repeat' (first | (with_reducible exact Below.refl _ _) | (with_reducible refine Below.drew ?_) | (with_reducible refine Below.alloc ?_ ?_ _))) <;> first | exact Nat.le_refl _ | (simp; done))) (fail)
      go_wp2_with fail
      (with_reducible refine (CN.out _ (by (repeat' (first | (with_reducible exact Below.refl _ _) | (with_reducible refine Below.drew ?_) | (with_reducible refine Below.alloc ?_ ?_ _))) <;> first | exact Nat.le_refl _ | (simp; done))).mono ?_)
      rintro e w2 ⟨rfl, a2⟩
      all_goals
        have T2 := Lib.hid (HP.out.keep a2)
        go_wp2
        go_ret
        exact ⟨k, rfl, T2.out, Off.of a2⟩
set_option maxHeartbeats 4000000 in
set_option maxRecDepth 100000 in
theorem does_back (K : TreeQ T) (P : Two T w b b2 a l h k A n c) (sk sd sv sb : Int) (hs : sk = 4) : Calls Try.prog 23 #[.pointer (some ⟨b, 0, none⟩), .pointer (some ⟨b2, 0, none⟩), .agg #[.int .i64 sk, .int .i64 sd, .int .i64 sv, .int .i64 sb]] w (Done T w b b2 a l h A n c) := by
  have hkl : k ≤ n := by have := P.one.le; have := P.len; omega
  have hsm := P.small
  have hb2 : b2 < w.heap.size := RawAt.lt P.two
  have c0 : w.cell? ⟨b2, 0, none⟩ = some (.slice A n c) := RawAt.cell P.two 0
  have c1 : w.cell? ⟨b2, 1, none⟩ = some (.int .i64 k) := RawAt.cell P.two 1
  have y1 := RawAt.free P.two 1
  have hw1 : IntKind.i64.wrap ((k : Int) + 1) = (k : Int) + 1 := IntWalk.i64_in _ (by omega)
  have hw2 : IntKind.i64.wrap ((k : Int) - 1) = (k : Int) - 1 := IntWalk.i64_in _ (by omega)
  have HP := Lib.hid P; clear P
  subst hs
  rcases k with _ | k
  · have CN := Lib.hid fun (W : World) (hW : Below w.heap.size w W) => cback_no (HP.out.one.keep hW)
    go_enter Try.func23, Try.ntmps23
    go_wp2_with fail
    have q1 := fun v : Int => ((Below.refl _ w).alloc (Nat.le_refl _) (.cells #[.int .i64 v, .int .i64 sd, .int .i64 sv, .int .i64 sb] 46))
    refine (CN.out _ (q1 _)).mono ?_
    rintro e w2 ⟨rfl, hb3⟩
    have a2 := (q1 _).trans (hb3.mono (q1 _).size)
    have T2 := Lib.hid (HP.out.keep a2)
    go_wp2
    go_ret
    exact ⟨0, rfl, T2.out, Off.of a2⟩
  · have hc1 : ((k + 1 : Nat) : Int) = (k : Int) + 1 := by omega
    rw [hc1] at c1 hw1 hw2
    have hw3 : IntKind.i64.wrap ((k : Int) + 1 - 1) = (k : Int) := by rw [show (k : Int) + 1 - 1 = (k : Int) from by omega]; exact IntWalk.i64_in _ (by omega)
    have hw4 : IntKind.i64.wrap (k : Int) = (k : Int) := IntWalk.i64_in _ (by omega)
    have i1 : (0 : Int) < (k : Int) + 1 := by omega
    clear hc1 hw1 hw2
    have o1 := (Off.refl b2 b2 w).set 1 (.int .i64 (k : Int))
    have k1 := (HP.out.two.set_ 1 (.int .i64 (k : Int))).of_eq (show _ = rcs A n c k from by simp [rcs])
    have K1 := Lib.hid k1
    have O1 := Lib.hid o1
    clear k1 o1
    have CN : Hid (∀ W, Below (w.setCell ⟨b2, 1, none⟩ (.int .i64 (k : Int))).heap.size (w.setCell ⟨b2, 1, none⟩ (.int .i64 (k : Int))) W → Calls Try.prog 30 #[.pointer (some ⟨b, 0, none⟩)] W fun e w' => e = .returned (.bool true) ∧ CAt T w' b b2 a l h k ∧ Off b b W w') := fun W hW => cback_yes K ((HP.out.one.other HP.out.ne O1.out).keep hW)
    go_enter Try.func23, Try.ntmps23
    go_wp2_with fail
    have q1 := fun v : Int => ((Below.refl _ (w.setCell ⟨b2, 1, none⟩ (.int .i64 (k : Int)))).alloc (Nat.le_refl _) (.cells #[.int .i64 v, .int .i64 sd, .int .i64 sv, .int .i64 sb] 46))
    refine (CN.out _ (q1 _)).mono ?_
    rintro e w2 ⟨rfl, C2, ho2⟩
    have R2 := ho2.raw (RawAt.below K1.out (q1 _) (RawAt.lt K1.out)) (Ne.symm HP.out.ne) (Ne.symm HP.out.ne)
    have O2 := Lib.hid ((O1.out.right (b := b)).trans ((Off.of (q1 _)).trans ho2.left))
    have T2 := Lib.hid (Two.move HP.out O2.out C2 R2)
    clear C2 R2
    go_wp2
    go_ret
    exact ⟨k, rfl, T2.out, O2.out⟩
set_option maxHeartbeats 4000000 in
set_option maxRecDepth 100000 in
theorem does_take (K : TreeQ T) (P : Two T w b b2 a l h k A n c) (sk sd sv sb : Int) (hs : sk = 5) : Calls Try.prog 23 #[.pointer (some ⟨b, 0, none⟩), .pointer (some ⟨b2, 0, none⟩), .agg #[.int .i64 sk, .int .i64 sd, .int .i64 sv, .int .i64 sb]] w (Done T w b b2 a l h A n c) := by
  subst hs
  have q0 : Below w.heap.size w (w.alloc (.cells #[.int .i64 5, .int .i64 sd, .int .i64 sv, .int .i64 sb] 46)) := (Below.refl _ _).alloc (Nat.le_refl _) _
  have X0 := Lib.hid (show RawAt 46 (w.alloc (.cells #[.int .i64 5, .int .i64 sd, .int .i64 sv, .int .i64 sb] 46)) w.heap.size #[.int .i64 5, .int .i64 sd, .int .i64 sv, .int .i64 sb] from heap_alloc_new w _)
  have HP := Lib.hid (P.keep q0)
  have hbx : w.heap.size ≠ b := by have := P.one.lt; omega
  have HBX := Lib.hid hbx; clear hbx
  have hbx2 : w.heap.size ≠ b2 := by have := RawAt.lt P.two; omega
  have HBX2 := Lib.hid hbx2; clear hbx2
  have hsm := P.small
  have hkn : k ≤ n := by have := P.one.le; have := P.len; omega
  clear P
  by_cases hd : 0 ≤ sd ∧ sd ≤ 3
  · obtain ⟨d, rfl⟩ : ∃ d : Nat, sd = (d : Int) := ⟨sd.toNat, by omega⟩
    have hd3 : d ≤ 3 := by omega
    go_enter Try.func23, Try.ntmps23
    go_wp2_with fail
    generalize (w.alloc (.cells #[.int .i64 5, .int .i64 (d : Int), .int .i64 sv, .int .i64 sb] 46)) = W0 at *
    have XK : Hid (∀ W : World, RawAt 46 W w.heap.size #[.int .i64 5, .int .i64 (d : Int), .int .i64 sv, .int .i64 sb] → (fun W => W.cell? ⟨w.heap.size, 1, none⟩ = some (.int .i64 (d : Int)) ∧ W.cell? ⟨w.heap.size, 2, none⟩ = some (.int .i64 sv)) W) := fun W hW => ⟨RawAt.cell hW 1, RawAt.cell hW 2⟩
    have hX0 : RawAt 46 W0.drew w.heap.size #[.int .i64 5, .int .i64 (d : Int), .int .i64 sv, .int .i64 sb] := X0.out
    have hD : Below W0.heap.size W0 W0.drew := (Below.refl _ _).drew
    have CT : Hid (∀ W, Below W0.heap.size W0 W → Calls Try.prog 31 #[.pointer (some ⟨b, 0, none⟩), .int .i64 d, .int .i64 sv] W fun e w' => ∃ (m : Nat) (A' : Option Addr) (c' : Nat), TakeIs l d sv k m ∧ e = .returned (.slice A' (m - k) c') ∧ ItsAt w' A' ((l.drop k).take (m - k)) ∧ Caps A' (m - k) c' ∧ CAt T w' b b2 a l h m ∧ Off b b W w') := fun W hW => ctake_any K (HP.out.one.keep hW) d sv hd3
    have LEN : Hid (∀ m, TakeIs l d sv k m → ((l.drop k).take (m - k)).length = m - k ∧ m - k ≤ 100000) := fun m ht => by
      have h1 := ht.le
      have h2 := ht.ge
      have h3 := HP.out.len
      exact ⟨by rw [List.length_take, List.length_drop]; omega, by omega⟩
    have CF : Hid (∀ (m : Nat) (A1 : Option Addr) (c1 : Nat) (W : World), TakeIs l d sv k m → ItsAt W A1 ((l.drop k).take (m - k)) → Calls Try.prog 21 #[.slice A1 (m - k) c1] W fun e w' => ∃ A' c', e = .returned (.slice A' (m - k) c') ∧ Below W.heap.size W w' ∧ ItsAt w' A' ((l.drop k).take (m - k)) ∧ Caps A' (m - k) c') := fun m A1 c1 W ht hI => refs6_any A1 (m - k) c1 _ W hI (LEN.out m ht).1 (LEN.out m ht).2
    have CR : Hid (∀ W, Off b b2 W0 W → RawAt 44 W b2 (rcs A n c k) → Calls Try.prog 66 #[.pointer (some ⟨b2, 0, none⟩), .int .i64 d, .int .i64 sv] W fun e w' => ∃ (m : Nat) (A' : Option Addr) (c' : Nat), TakeIs l d sv k m ∧ e = .returned (.slice A' (m - k) c') ∧ ItsAt w' A' ((l.drop k).take (m - k)) ∧ Caps A' (m - k) c' ∧ RawAt 44 w' b2 (rcs A n c m) ∧ Off b2 b2 W w') := fun W hW hR => rtake_any b2 A n c k l d sv W hR (fun W' hW' => HP.out.its W' (hW.trans hW'.right)) HP.out.len (by omega) HP.out.cap HP.out.one.ok hkn hd3
    have CS : Hid (∀ (m : Nat) (A1 A2 : Option Addr) (c1 c2 : Nat) (W : World), TakeIs l d sv k m → ItsAt W A1 ((l.drop k).take (m - k)) → ItsAt W A2 ((l.drop k).take (m - k)) → Calls Try.prog 56 #[.slice A1 (m - k) c1, .slice A2 (m - k) c2] W fun e w' => e = .returned (.bool true) ∧ Below W.heap.size W w') := fun m A1 A2 c1 c2 W ht h1 h2 => same_yes A1 A2 (m - k) c1 c2 _ W h1 h2 (LEN.out m ht).1 (LEN.out m ht).2
    have HNX := HBX2
    go_region_held3 (fun W => W.cell? ⟨w.heap.size, 1, none⟩ = some (.int .i64 (d : Int)) ∧ W.cell? ⟨w.heap.size, 2, none⟩ = some (.int .i64 sv)) (first | (with_reducible exact XK.out _ hX0) | (with_reducible exact XK.out _ hX1) | (with_reducible exact XK.out _ hX2) | (with_reducible exact XK.out _ hX3) | (with_reducible exact XK.out _ hX4) | go_keep)
      (first
        | (go_at_call 31; ((with_reducible refine (CT.out _ hD).mono ?_); rintro e w1 ⟨m, A1, c1, ht, rfl, hI1, hC1, C1, ho1⟩); have hX1 := ho1.raw hX0 HBX.out HBX.out)
        | (go_at_call 21; ((with_reducible refine (CF.out _ _ _ _ ht hI1).mono ?_); rintro e w2 ⟨A2, c2, rfl, hb2, hI2, _⟩); have hX2 := RawAt.below hX1 hb2 (RawAt.lt hX1); have hO2 := (Off.of (b := b) (c := b2) hD).trans (ho1.left.trans (Off.of hb2)); have hR2 := RawAt.below (ho1.raw (RawAt.below HP.out.two hD (RawAt.lt HP.out.two)) (Ne.symm HP.out.ne) (Ne.symm HP.out.ne)) hb2 (by have := RawAt.lt HP.out.two; have := ho1.size; exact Nat.lt_of_lt_of_le (RawAt.lt HP.out.two) (Nat.le_trans hD.size ho1.size)))
        | (go_at_call 66; ((with_reducible refine (CR.out _ hO2 hR2).mono ?_); rintro e w3 ⟨m3, A3, c3, ht3, rfl, hI3, _, R3, ho3⟩); obtain rfl := ht.unique ht3; have hX3 := ho3.raw hX2 HNX.out HNX.out; have hI23 := its_off hR2 hI2 ho3)
        | (go_at_call 56; ((with_reducible refine (CS.out _ _ _ _ _ _ ht hI23 hI3).mono ?_); rintro e w4 ⟨rfl, hb4⟩); have hX4 := RawAt.below hX3 hb4 (RawAt.lt hX3)))
    have O3 := hO2.trans ho3.right
    have T3_ := Two.move HP.out O3 ((C1.keep hb2).other HP.out.ne ho3) R3
    have O4 := Lib.hid ((Off.of q0).trans (O3.trans (Off.of hb4)))
    have T4 := Lib.hid (T3_.keep hb4)
    clear O3 T3_ hX0 hX1 hX2 hX3 hX4 hI1 hI2 hI3 hI23 R3 hR2 C1 ho1 ho3 hO2 hD
    go_wp2
    go_ret
    exact ⟨m, rfl, T4.out, O4.out⟩
  · have CT := Lib.hid fun (W : World) => ctake_none sd sv (some ⟨b, 0, none⟩) hd W
    have CR := Lib.hid fun (W : World) => rtake_none b2 sd sv hd W
    have CF := Lib.hid fun (W : World) => refs6_any none 0 0 [] W (fun h => absurd h (by simp)) rfl (by omega)
    have NIL : ∀ (W : World) (A : Option Addr), ItsAt W A [] := fun _ _ h => absurd h (by simp)
    have CSN := Lib.hid fun (A2 : Option Addr) (c2 : Nat) (W : World) => same_yes A2 none 0 c2 0 [] W (NIL W A2) (NIL W none) rfl (by omega)
    clear NIL
    go_enter Try.func23, Try.ntmps23
    go_wp2_with fail
    generalize (w.alloc (.cells #[.int .i64 5, .int .i64 sd, .int .i64 sv, .int .i64 sb] 46)) = W0 at *
    have XK : Hid (∀ W : World, RawAt 46 W w.heap.size #[.int .i64 5, .int .i64 sd, .int .i64 sv, .int .i64 sb] → (fun W => W.cell? ⟨w.heap.size, 1, none⟩ = some (.int .i64 sd) ∧ W.cell? ⟨w.heap.size, 2, none⟩ = some (.int .i64 sv)) W) := fun W hW => ⟨RawAt.cell hW 1, RawAt.cell hW 2⟩
    have hX0 : RawAt 46 W0.drew w.heap.size #[.int .i64 5, .int .i64 sd, .int .i64 sv, .int .i64 sb] := X0.out
    have hD : Below W0.heap.size W0 W0.drew := (Below.refl _ _).drew
    go_region_held3 (fun W => W.cell? ⟨w.heap.size, 1, none⟩ = some (.int .i64 sd) ∧ W.cell? ⟨w.heap.size, 2, none⟩ = some (.int .i64 sv)) (first | (with_reducible exact XK.out _ hX0) | (with_reducible exact XK.out _ hX1) | (with_reducible exact XK.out _ hX2) | (with_reducible exact XK.out _ hX3) | (with_reducible exact XK.out _ hX4) | go_keep)
      (first
        | (go_at_call 31; ((with_reducible refine (CT.out _).mono ?_); rintro e w1 ⟨rfl, hb1⟩); have hX1 := RawAt.below hX0 hb1 (RawAt.lt hX0))
        | (go_at_call 21; ((with_reducible refine (CF.out _).mono ?_); rintro e w2 ⟨A2, c2, rfl, hb2, _, _⟩); have hX2 := RawAt.below hX1 hb2 (RawAt.lt hX1))
        | (go_at_call 66; ((with_reducible refine (CR.out _).mono ?_); rintro e w3 ⟨rfl, hb3⟩); have hX3 := RawAt.below hX2 hb3 (RawAt.lt hX2))
        | (go_at_call 56; ((with_reducible refine (CSN.out _ _ _).mono ?_); rintro e w4 ⟨rfl, hb4⟩); have hX4 := RawAt.below hX3 hb4 (RawAt.lt hX3)))
    have d1 := hD.trans (hb1.mono hD.size)
    have d2 := d1.trans (hb2.mono d1.size)
    have d3 := d2.trans (hb3.mono d2.size)
    have d4 := d3.trans (hb4.mono d3.size)
    have T4 := Lib.hid (HP.out.keep d4)
    have O4 := Lib.hid ((Off.of (b := b) (c := b2) q0).trans (Off.of d4))
    clear hX0 hX1 hX2 hX3 hX4 d1 d2 d3 d4
    go_wp2
    go_ret
    exact ⟨k, rfl, T4.out, O4.out⟩
set_option maxHeartbeats 4000000 in
set_option maxRecDepth 100000 in
theorem does_else (P : Two T w b b2 a l h k A n c) (sk sd sv sb : Int) (h0 : sk ≠ 0) (h1 : sk ≠ 1) (h2 : sk ≠ 2) (h3 : sk ≠ 3) (h4 : sk ≠ 4) (h5 : sk ≠ 5) : Calls Try.prog 23 #[.pointer (some ⟨b, 0, none⟩), .pointer (some ⟨b2, 0, none⟩), .agg #[.int .i64 sk, .int .i64 sd, .int .i64 sv, .int .i64 sb]] w (Done T w b b2 a l h A n c) := by
  have b0 : (sk == 0) = false := by simpa using h0
  have b1 : (sk == 1) = false := by simpa using h1
  have b2_ : (sk == 2) = false := by simpa using h2
  have b3 : (sk == 3) = false := by simpa using h3
  have b4 : (sk == 4) = false := by simpa using h4
  have b5 : (sk == 5) = false := by simpa using h5
  have q0 : Below w.heap.size w (w.alloc (.cells #[.int .i64 sk, .int .i64 sd, .int .i64 sv, .int .i64 sb] 46)) := (Below.refl _ _).alloc (Nat.le_refl _) _
  have HP := Lib.hid (P.keep q0)
  clear P
  go_enter Try.func23, Try.ntmps23
  go_wp2
  go_ret
  exact ⟨k, rfl, HP.out, Off.of q0⟩
theorem does_any (K : TreeQ T) (P : Two T w b b2 a l h k A n c) (st : SS) : Calls Try.prog 23 #[.pointer (some ⟨b, 0, none⟩), .pointer (some ⟨b2, 0, none⟩), .agg (stcs st)] w (Done T w b b2 a l h A n c) := by
  obtain ⟨sk, sd, sv, sb⟩ := st
  unfold stcs
  by_cases h0 : sk = 0
  · exact does_to K P sk sd sv sb (.inl h0)
  by_cases h1 : sk = 1
  · exact does_to K P sk sd sv sb (.inr h1)
  by_cases h2 : sk = 2
  · exact does_next K P sk sd sv sb (.inl h2)
  by_cases h3 : sk = 3
  · exact does_next K P sk sd sv sb (.inr h3)
  by_cases h4 : sk = 4
  · exact does_back K P sk sd sv sb h4
  by_cases h5 : sk = 5
  · exact does_take K P sk sd sv sb h5
  · exact does_else P sk sd sv sb h0 h1 h2 h3 h4 h5
theorem agrees_any (K : TreeQ T) (P : Two T w b b2 a l h k A n c) : Calls Try.prog 22 #[.pointer (some ⟨b, 0, none⟩), .pointer (some ⟨b2, 0, none⟩)] w fun e w' => e = .returned (.bool true) ∧ Below w.heap.size w w' := by
  by_cases hk : k < n
  · exact agrees_in K P hk
  · exact agrees_out K P hk
theorem its_off_c {t : TypeId} {w W : World} {b b2 : Nat} {a : Addr} {s : S6} {A : Option Addr} {l : List I7} (hr : RawAt t w b (ccs a s)) (hI : ItsAt w A l) (h2 : w.heap.size ≤ b2) (ho : Off b b2 w W) : ItsAt W A l := by
  intro hp
  obtain ⟨bk, off, rfl, hb, hc⟩ := hI hp
  have hne : bk ≠ b := by
    rintro rfl
    obtain ⟨_, _, _, _, _, _, h6⟩ := hc 0 hp
    rw [RawAt.cell hr] at h6
    rcases off with _ | off
    · simp [ccs] at h6
    · simp [ccs] at h6
  have hcell : ∀ o, W.cell? ⟨bk, o, none⟩ = w.cell? ⟨bk, o, none⟩ := fun o => World.cell?_of_block (a := ⟨bk, o, none⟩) (ho.rest bk hb hne (by show bk ≠ b2; omega))
  refine ⟨bk, off, rfl, Nat.lt_of_lt_of_le hb ho.size, fun k hk => ?_⟩
  obtain ⟨h0, h1, h2, h3, h4, h5, h6⟩ := hc k hk
  exact ⟨(hcell _).trans h0, (hcell _).trans h1, (hcell _).trans h2, (hcell _).trans h3, (hcell _).trans h4, (hcell _).trans h5, (hcell _).trans h6⟩
end
section
variable {T : World → Addr → List I7 → Nat → Prop}
set_option maxHeartbeats 4000000 in
set_option maxRecDepth 100000 in
theorem seekSteps_any (K : TreeQ T) (A0 : Option Addr) (n0 c0 : Nat) (l0 : List I7) (B : Option Addr) (m d : Nat) (ss : List SS) (w : World) (hA0 : ItsAt w A0 l0) (hl0 : l0.length = n0) (hn0 : n0 ≤ maxLen) (hC0 : Caps A0 n0 c0)
    (hB : SSAt w B ss) (hs : ss.length = m) (hm : m ≤ maxLen) :
    Calls Try.prog 4 #[.slice A0 n0 c0, .slice B m d] w fun e w' => e = .returned (.bool true) ∧ Below w.heap.size w w' := by
  have HA := Lib.hid hA0; clear hA0
  have HL := Lib.hid hl0; clear hl0
  have HC := Lib.hid hC0; clear hC0
  have HB := Lib.hid hB; clear hB
  have HS := Lib.hid hs; clear hs
  have hm' := hm
  unfold maxLen at hm'
  have T3 := Lib.hid fun (W : World) => third_yes K W
  by_cases k0 : n0 ≤ 300 ∧ Okl l0
  rotate_left
  · have R := Lib.hid (right6_no A0 n0 c0 l0 w HA.out HL.out hn0 k0)
    clear k0
    go_enter Try.func4, Try.ntmps4
    go_wp2_with fail
    refine R.out.mono ?_
    rintro e w1 ⟨rfl, hb1⟩
    go_wp2_with fail
    refine (T3.out _).mono ?_
    rintro e w2 ⟨rfl, hb2⟩
    go_wp2_with fail
    go_ret
    exact ⟨rfl, hb1.trans (hb2.mono hb1.size)⟩
  obtain ⟨k1, k2⟩ := k0
  have R1 := Lib.hid (right6_yes A0 n0 c0 l0 w HA.out HL.out hn0 ⟨k1, k2⟩)
  have N := Lib.hid fun (W : World) (hW : Below w.heap.size w W) => K.new A0 n0 c0 l0 W (HA.out.below hW) HL.out HC.out (by omega) k2
  have HK := Lib.hid k2; clear k2
  by_cases h40 : 40 < m
  · go_enter Try.func4, Try.ntmps4
    go_wp2_with fail
    refine R1.out.mono ?_
    rintro e w1 ⟨rfl, hb1⟩
    go_wp2_with fail
    refine (T3.out _).mono ?_
    rintro e w2 ⟨rfl, hb2⟩
    go_wp2_with fail
    go_ret
    exact ⟨rfl, hb1.trans (hb2.mono hb1.size)⟩
  go_enter Try.func4, Try.ntmps4
  go_wp2_with fail
  refine R1.out.mono ?_
  rintro e w1 ⟨rfl, hb1⟩
  go_wp2_with fail
  refine (N.out _ hb1).mono ?_
  rintro e w2 ⟨a, h, rfl, hT, hb2⟩
  have a2 := hb1.trans (hb2.mono hb1.size)
  have HT := Lib.hid hT; clear hT
  go_wp2_with fail
  refine (seeknew_any a w2).mono ?_
  rintro e w3 ⟨rfl, hr3, hb3⟩
  have a3 := a2.trans (hb3.mono a2.size)
  have CF := Lib.hid (refs6_any A0 n0 c0 l0 w3 (HA.out.below a3) HL.out (by omega))
  go_wp2_with fail
  refine CF.out.mono ?_
  rintro e w4 ⟨A3, c3, rfl, hb4, hI4, hC4⟩
  have a4 := a3.trans (hb4.mono a3.size)
  have b4 := hb3.trans (hb4.mono hb3.size)
  have q5 : Below w4.heap.size w4 (w4.alloc (.cells (rcs A3 n0 c3 0) 44)) := (Below.refl _ _).alloc (Nat.le_refl _) _
  have a5 := a4.trans (q5.mono a4.size)
  have hr4 := RawAt.below hr3 hb4 (RawAt.lt hr3)
  have TW : Hid (Two T (w4.alloc (.cells (rcs A3 n0 c3 0) 44)) w2.heap.size w4.heap.size a l0 h 0 A3 n0 c3) :=
    ⟨(((CAt.make K HT.out hb3 hr3 w4.heap.size b4.size).keep hb4).keep q5), heap_alloc_new w4 _, fun W hW => its_off_c hr4 hI4 (Nat.le_refl _) ((Off.of q5).trans hW), HL.out, hC4.1, by have := RawAt.lt hr4; show w2.heap.size ≠ w4.heap.size; omega, k1⟩
  have hsz := a2.size
  have hsz2 := a4.size
  clear hr3 hr4 hI4 hC4 HT hb3 hb4 q5 b4 a3 a4 N R1
  unfold rcs at a5 TW
  go_wp2
  generalize (w4.alloc (.cells #[.slice A3 n0 c3, .int .i64 ((0 : Nat) : Int)] 44)) = W5 at *
  generalize w2.heap.size = b at *
  generalize w4.heap.size = b2 at *
  go_loopg [39] m (fun g iv wr => ∃ j k : Nat, iv = .int .i64 j ∧ j ≤ m ∧ m - j ≤ g ∧ Below w.heap.size w wr ∧ Hid (Two T wr b b2 a l0 h k A3 n0 c3))
  case atStart => exact ⟨0, 0, rfl, by omega, by omega, a5, TW⟩
  case round =>
    clear TW a5
    obtain ⟨j, k, rfl, j1, j2, hb, hP⟩ := hrel
    by_cases hlt : j < m
    · have hj : j < ss.length := by rw [HS.out]; exact hlt
      obtain ⟨bb, off, rfl, hbs, hc⟩ := HB.out (by omega)
      obtain ⟨e0, e1, e2, e3⟩ := hc j hj
      clear hc
      obtain ⟨H1, H2⟩ := old_cells hb
      generalize stth ss j = st at *
      obtain ⟨sk, sd, sv, sb⟩ := st
      simp only at e0 e1 e2 e3
      have q6 : Below wr.heap.size wr (wr.alloc (.cells #[.int .i64 sk, .int .i64 sd, .int .i64 sv, .int .i64 sb] 46)) := (Below.refl _ _).alloc (Nat.le_refl _) _
      have X6 := Lib.hid (show RawAt 46 (wr.alloc (.cells #[.int .i64 sk, .int .i64 sd, .int .i64 sv, .int .i64 sb] 46)) wr.heap.size #[.int .i64 sk, .int .i64 sd, .int .i64 sv, .int .i64 sb] from heap_alloc_new wr _)
      have a6 := hb.trans (q6.mono hb.size)
      have P6 := Lib.hid (hP.out.keep q6)
      have CG := Lib.hid (agrees_any K P6.out)
      go_wp2_with fail
      refine CG.out.mono ?_
      rintro e w7 ⟨rfl, hb7⟩
      have a7 := a6.trans (hb7.mono a6.size)
      have X7 := RawAt.below X6.out hb7 (RawAt.lt X6.out)
      have x0 : w7.cell? ⟨wr.heap.size, 0, none⟩ = some (.int .i64 sk) := RawAt.cell X7 0
      have x1 : w7.cell? ⟨wr.heap.size, 1, none⟩ = some (.int .i64 sd) := RawAt.cell X7 1
      have x2 : w7.cell? ⟨wr.heap.size, 2, none⟩ = some (.int .i64 sv) := RawAt.cell X7 2
      have x3 : w7.cell? ⟨wr.heap.size, 3, none⟩ = some (.int .i64 sb) := RawAt.cell X7 3
      have CD := Lib.hid (does_any K (P6.out.keep hb7) ⟨sk, sd, sv, sb⟩)
      unfold stcs at CD
      clear X7 X6 CG e0 e1 e2 e3 H1 H2 q6
      go_wp2_with fail
      refine CD.out.mono ?_
      rintro e w8 ⟨k', rfl, P8, ho8⟩
      have a8 := a7.trans (ho8.below hsz hsz2 a7.size)
      have HP8 := Lib.hid P8; clear P8 x0 x1 x2 x3
      go_wp2
      go_roundg (gk - 1)
      case measure => omega
      case rel => exact ⟨j + 1, k', by go_num, by omega, by omega, a8, HP8⟩
    · have CG := Lib.hid (agrees_any K hP.out)
      go_wp2_with fail
      refine CG.out.mono ?_
      rintro e w7 ⟨rfl, hb7⟩
      have a7 := hb.trans (hb7.mono hb.size)
      go_wp2_with fail
      refine (T3.out _).mono ?_
      rintro e w8 ⟨rfl, hb8⟩
      go_wp2
      go_ret
      exact ⟨rfl, a7.trans (hb8.mono a7.size)⟩
end
theorem seekSteps_walk (A0 : Option Addr) (n0 c0 : Nat) (l0 : List I7) (A1 : Option Addr) (n1 c1 : Nat) (l1 : List SS) (w : World) (hA0 : ItsAt w A0 l0) (hl0 : l0.length = n0) (hn0 : n0 ≤ maxLen) (hC0 : Caps A0 n0 c0)
    (hA1 : SSAt w A1 l1) (hl1 : l1.length = n1) (hn1 : n1 ≤ maxLen) (_ : Caps A1 n1 c1) :
    Calls Try.prog 4 #[.slice A0 n0 c0, .slice A1 n1 c1] w fun e w' => e = .returned (.bool true) ∧ Below w.heap.size w w' := seekSteps_any treeQ A0 n0 c0 l0 A1 n1 c1 l1 w hA0 hl0 hn0 hC0 hA1 hl1 hn1
end Go.Proofs.Ytbbplppcabeojaa
