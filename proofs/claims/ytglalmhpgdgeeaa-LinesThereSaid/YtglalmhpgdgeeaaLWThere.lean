/- The law LinesThere. -/
import Derived.Test.YtglalmhpgdgeeaaLnA
namespace Go.Proofs.Ytglalmhpgdgeeaa
open Go.RowKit
theorem place_bd8 {l : List Int} {r k n : Int} (h : PlaceIs l r k n 0) : 0 ≤ k ∧ k ≤ l.length := by
  obtain ⟨f, t, d, hs, ⟨_, _, h3⟩ | ⟨_, _, _, h3⟩ | ⟨rfl, h1, h2, _, _⟩⟩ := h
  · exact absurd h3 (by decide)
  · exact absurd h3 (by decide)
  · have := span_bd hs
    omega
/-- What the last point is, ahead of a place. -/
def LastIs (l : List Int) (j : Nat) (r c : Int) : Prop := (j = 0 ∧ r = 0 ∧ c = -1) ∨ (0 < j ∧ PointIs l (j - 1 : Nat) r c 0)
theorem LastIs.next {l : List Int} {j : Nat} {r c r' c' : Int} (h : LastIs l j r c) (hj : j ≤ l.length) (g : PointIs l j r' c' 0) : ¬ (r' < r) ∧ (r' = r → c < c') := by
  rcases h with ⟨rfl, rfl, rfl⟩ | ⟨h1, h2⟩
  · obtain ⟨rfl, rfl, _⟩ := g.unique (point_zero l)
    exact ⟨by omega, fun _ => by omega⟩
  · have := point_step (j := j - 1) (by omega) h2 (by rw [Nat.sub_add_cancel h1]; exact g)
    exact this
set_option maxHeartbeats 8000000 in
set_option maxRecDepth 100000 in
theorem linesThere_walk (s : ByteArray) (w : World) (_hs : s.size ≤ maxLen) : Calls Try.prog 3 #[.string s] w fun e w' => e = .returned (.bool true) ∧ Below w.heap.size w w' := by
  have CW := Lib.hid fun W => two_any W
  by_cases hl : 400 < s.size
  · go_enter Try.func3, Try.ntmps3
    go_wp2_with fail
    refine (CW.out _).mono ?_
    rintro e w1 ⟨rfl, hb1⟩
    go_wp2_with fail
    go_ret
    exact ⟨rfl, hb1⟩
  have hsl : s.size ≤ 400 := by omega
  have hdl := dec_len s
  have CN := Lib.hid (rnew_any s w (by omega) (by omega))
  clear hl
  go_enter Try.func3, Try.ntmps3
  go_wp2_with fail
  refine CN.out.mono ?_
  rintro e w1 ⟨b, ps, h, rfl, hR, hf, hb1⟩
  have hlen : ps.flatten.length ≤ 400 := by rw [hf]; omega
  clear hf CN
  have CR := Lib.hid fun (W : World) (hW : Below w1.heap.size w1 W) => rrunes_any (hR.below hW)
  have CRo := Lib.hid fun (W : World) (hW : Below w1.heap.size w1 W) => lrows_any (hR.below hW)
  have CP := Lib.hid fun (W : World) (hW : Below w1.heap.size w1 W) (j : Nat) (r c : Int) (hp : PointIs ps.flatten j r c 0) => (lpoint_any (hR.below hW) j).mono fun e w' ⟨r2, c2, d, hi, he, hb⟩ => (by
    obtain ⟨rfl, rfl, rfl⟩ := hi.unique hp
    exact ⟨he, hb⟩ : e = Ending.returned (.tuple #[.agg #[.int .i64 r, .int .i64 c], .int .i64 0]) ∧ Below W.heap.size W w')
  have CQ := Lib.hid fun (W : World) (hW : Below w1.heap.size w1 W) (r c : Int) (n : Int) (hp : PlaceIs ps.flatten r c n 0) => (lplace_any (hR.below hW) r c (by have := place_bd8 hp; omega) (by have := place_bd8 hp; omega)).mono fun e w' ⟨n2, d, hi, he, hb⟩ => (by
    obtain ⟨rfl, rfl⟩ := hi.unique hp
    exact ⟨he, hb⟩ : e = Ending.returned (.tuple #[.int .i64 n, .int .i64 0]) ∧ Below W.heap.size W w')
  obtain ⟨n, hn⟩ : ∃ n, n = ps.flatten.length := ⟨_, rfl⟩
  have HN := Lib.hid hn
  rw [← hn] at CR hlen
  have hbk : (brks ps.flatten : Int) ≤ 20000 ∧ (0 : Int) ≤ brks ps.flatten := by have := brks_le ps.flatten; omega
  obtain ⟨hbk1, hbk0⟩ := hbk
  clear hn hR
  have x2 : Below w1.heap.size w1 (w1.alloc (.cells #[.int .i64 0, .int .i64 (-1)] 28)) := (Below.refl _ _).alloc (Nat.le_refl _) _
  have R2 : RawAt 28 (w1.alloc (.cells #[.int .i64 0, .int .i64 (-1)] 28)) w1.heap.size #[.int .i64 0, .int .i64 (-1)] := heap_alloc_new w1 _
  have HR2 := Lib.hid R2
  clear R2
  obtain ⟨lb, hlb⟩ : ∃ lb, lb = w1.heap.size := ⟨_, rfl⟩
  rw [← hlb] at HR2
  have HLB := Lib.hid hlb
  clear hlb
  go_wp2_with fail
  rw [← HLB.out]
  generalize w1.alloc (.cells #[.int .i64 0, .int .i64 (-1)] 28) = W2 at *
  go_loopg [6] (n + 1) (fun g i wr => ∃ (j : Nat) (lr lc : Int), i = .int .i64 j ∧ j ≤ n + 1 ∧ n + 1 - j ≤ g ∧ Below w1.heap.size w1 wr ∧ Hid (RawAt 28 wr lb #[.int .i64 lr, .int .i64 lc]) ∧ Hid (LastIs ps.flatten j lr lc))
  case atStart => exact ⟨0, 0, -1, rfl, by omega, by omega, x2, HR2, Lib.hid (.inl ⟨rfl, rfl, rfl⟩)⟩
  case round =>
    obtain ⟨j, lr, lc, rfl, h1, h2, hb, hLB, hLI⟩ := hrel
    go_wp2_with fail
    refine (CR.out _ hb).mono ?_
    rintro e w2 ⟨rfl, hb2⟩
    have a2 := hb.trans (hb2.mono hb.size)
    have HL2 := Lib.hid (RawAt.below hLB.out hb2 (RawAt.lt hLB.out))
    by_cases hlt : j ≤ n
    · have hjl : j ≤ ps.flatten.length := by rw [← HN.out]; exact hlt
      obtain ⟨r, c, hpt⟩ := point_ex hjl
      have hpl := point_place hjl hpt
      obtain ⟨n1, n2⟩ := hLI.out.next hjl hpt
      have HLN := Lib.hid (show LastIs ps.flatten (j + 1) r c from .inr ⟨by omega, by rw [Nat.add_sub_cancel]; exact hpt⟩)
      have CPj := Lib.hid (CP.out _ a2 j r c hpt)
      have CQj := Lib.hid fun (W : World) (hW : Below w1.heap.size w1 W) => CQ.out W hW r c j hpl
      have i1 : (j : Int) ≤ (n : Int) := by omega
      clear hpt hpl hLI
      go_wp2_with fail
      refine CPj.out.mono ?_
      rintro e w3 ⟨rfl, hb3⟩
      have a3 := a2.trans (hb3.mono a2.size)
      have x4 : Below w3.heap.size w3 (w3.alloc (.cells #[.int .i64 r, .int .i64 c] 28)) := (Below.refl _ _).alloc (Nat.le_refl _) _
      have R4 : RawAt 28 (w3.alloc (.cells #[.int .i64 r, .int .i64 c] 28)) w3.heap.size #[.int .i64 r, .int .i64 c] := heap_alloc_new w3 _
      have HR4 := Lib.hid R4
      have a4 := a3.trans (x4.mono a3.size)
      obtain ⟨pb, hpb⟩ : ∃ pb, pb = w3.heap.size := ⟨_, rfl⟩
      rw [← hpb] at HR4
      have HPB := Lib.hid hpb
      have q4 := hb3.trans (x4.mono hb3.size)
      have HL4 := Lib.hid (RawAt.below HL2.out q4 (RawAt.lt HL2.out))
      have hne : lb ≠ pb := by have := RawAt.lt HL2.out; have := hb3.size; omega
      clear hpb R4
      go_wp2_with fail
      rw [← HPB.out]
      generalize w3.alloc (.cells #[.int .i64 r, .int .i64 c] 28) = W4 at *
      refine (CQj.out _ a4).mono ?_
      rintro e w5 ⟨rfl, hb5⟩
      have a5 := a4.trans (hb5.mono a4.size)
      have HP5 := Lib.hid (RawAt.below HR4.out hb5 (RawAt.lt HR4.out))
      have HL5 := Lib.hid (RawAt.below HL4.out hb5 (RawAt.lt HL4.out))
      have y0 := RawAt.cell HP5.out 0
      have y1 := RawAt.cell HP5.out 1
      have z0 := RawAt.cell HL5.out 0
      have z1 := RawAt.cell HL5.out 1
      have f0 := RawAt.free HL5.out 0
      have f1 := RawAt.free HL5.out 1
      simp at y0 y1 z0 z1
      have hcs : (r = lr ∧ ¬ (c ≤ lc)) ∨ ((r == lr) = false) := by
        by_cases he : r = lr
        · exact .inl ⟨he, by have := n2 he; omega⟩
        · exact .inr (by simpa using he)
      have k1 : decide (r < lr) = false := decide_eq_false (by omega)
      clear n2
      rcases hcs with ⟨rfl, hc⟩ | hc
      all_goals
        go_wp2
        go_roundg (gk - 1)
        case measure => omega
        case rel => exact ⟨j + 1, _, _, by go_num, by omega, by omega, (a5.setCell (p := ⟨lb, 0, none⟩) (by rw [HLB.out]; exact Nat.le_refl _) _).setCell (p := ⟨lb, 1, none⟩) (by rw [HLB.out]; exact Nat.le_refl _) _, Lib.hid ((RawAt.set_ (RawAt.set_ HL5.out 0 _) 1 _).of_eq (by simp)), HLN⟩
    · have he : j = n + 1 := by omega
      have hz : lr = brks ps.flatten := by
        rcases hLI.out with ⟨h9, _, _⟩ | ⟨h9, h8⟩
        · omega
        · have : j - 1 = ps.flatten.length := by rw [← HN.out]; omega
          rw [this] at h8
          exact point_last h8
      subst hz
      have CR2 := Lib.hid fun (W : World) (hW : Below w2.heap.size w2 W) => CRo.out W (a2.trans (hW.mono a2.size))
      generalize (brks ps.flatten : Int) = B at *
      have hw : IntKind.i64.wrap (B + 1 - 1) = B := by rw [show B + 1 - 1 = B from by omega]; exact IntWalk.i64_in _ (by omega)
      have hw2 : IntKind.i64.wrap B = B := IntWalk.i64_in _ (by omega)
      have hw3 : B + 1 - 1 = B := by omega
      have AX := Lib.hid fun (W : World) (hW : Below w2.heap.size w2 W) => a2.trans (hW.mono a2.size)
      have MK : Hid (∀ W : World, Below w2.heap.size w2 W → (fun W => W.cell? ⟨lb, 0, none⟩ = some (.int .i64 B) ∧ Below w2.heap.size w2 W) W) := fun W hW => ⟨RawAt.cell (RawAt.below HL2.out hW (RawAt.lt HL2.out)) 0, hW⟩
      have hW2 : Below w2.heap.size w2 w2.drew := (Below.refl _ _).drew
      have i1 : ¬ ((j : Int) ≤ (n : Int)) := by omega
      go_wp2_with fail
      refine wp_region_noPanic ?_
      refine wp_region_held_drew (S := (fun W => W.cell? ⟨lb, 0, none⟩ = some (.int .i64 B) ∧ Below w2.heap.size w2 W)) (by kernel_rfl) (MK.out _ hW2) (fun hHeld => ?_)
      refine wpAnyH_take (i := 0) (v := ?_) rfl (by kernel_rfl) (by kernel_rfl) (by kernel_rfl) (fun _ _ _ h => h) (Or.inl ⟨by rfl, ?_⟩) hHeld ?_
      rotate_left
      · intro w hSw
        (try dsimp only at hSw)
        go_simp
        try with_reducible rfl
      go_simp
      refine wpAnyH_take (i := 1) (v := ?_) rfl (by kernel_rfl) (by kernel_rfl) (by kernel_rfl) (fun _ _ _ h => h) (Or.inl ⟨by rfl, ?_⟩) hHeld ?_
      rotate_left
      · intro w hSw
        (try dsimp only at hSw)
        go_simp
        try with_reducible rfl
      go_simp
      refine wpAnyH_take (i := 2) (v := ?_) rfl (by kernel_rfl) (by kernel_rfl) (by kernel_rfl) (fun _ _ _ h => h) (Or.inl ⟨by rfl, ?_⟩) hHeld ?_
      rotate_left
      · intro w hSw
        (try dsimp only at hSw)
        go_simp
        try with_reducible rfl
      go_simp
      refine wpAnyH_ready (rs := [3]) (by kernel_rfl) (by simp) ?_
      refine AllReadyH.cons rfl (fun K hK => ?_) ?_
      rotate_left
      · exact AllReadyH.nil
      go_simp
      go_wp2_with (first | (go_at_call 11; ((with_reducible refine (CR2.out _ hW2).mono ?_); rintro e w3 ⟨rfl, hb3⟩); have hW2 := hW2.trans (hb3.mono hW2.size)) | (go_at_call 6; ((with_reducible refine (CW.out _).mono ?_); rintro e w4 ⟨rfl, hb4⟩); have hW2 := hW2.trans (hb4.mono hW2.size)))
      refine hK.out _ _ (MK.out _ hW2) (fun hHeld => ?_)
      clear hK K
      go_simp
      refine wpAnyH_take (i := 4) (v := ?_) rfl (by kernel_rfl) (by kernel_rfl) (by kernel_rfl) (fun _ _ _ h => h) (Or.inl ⟨by rfl, ?_⟩) hHeld ?_
      rotate_left
      · intro w hSw
        (try dsimp only at hSw)
        go_simp
        try with_reducible rfl
      go_simp
      refine wpAnyH_take (i := 5) (v := ?_) rfl (by kernel_rfl) (by kernel_rfl) (by kernel_rfl) (fun _ _ _ h => h) (Or.inl ⟨by rfl, ?_⟩) hHeld ?_
      rotate_left
      · intro w hSw
        (try dsimp only at hSw)
        go_simp
        try with_reducible rfl
      go_simp
      refine wpAnyH_take (i := 6) (v := ?_) rfl (by kernel_rfl) (by kernel_rfl) (by kernel_rfl) (fun _ _ _ h => h) (Or.inl ⟨by rfl, ?_⟩) hHeld ?_
      rotate_left
      · intro w hSw
        (try dsimp only at hSw)
        go_simp
        try with_reducible rfl
      go_simp
      refine wpAnyH_ready (rs := [7]) (by kernel_rfl) (by simp) ?_
      refine AllReadyH.cons rfl (fun K hK => ?_) ?_
      rotate_left
      · exact AllReadyH.nil
      go_simp
      go_wp2_with (first | (go_at_call 11; ((with_reducible refine (CR2.out _ hW2).mono ?_); rintro e w3 ⟨rfl, hb3⟩); have hW2 := hW2.trans (hb3.mono hW2.size)) | (go_at_call 6; ((with_reducible refine (CW.out _).mono ?_); rintro e w4 ⟨rfl, hb4⟩); have hW2 := hW2.trans (hb4.mono hW2.size)))
      refine hK.out _ _ (MK.out _ hW2) (fun hHeld => ?_)
      clear hK K
      go_simp
      refine wpAnyH_take (i := 8) (v := ?_) rfl (by kernel_rfl) (by kernel_rfl) (by kernel_rfl) (fun _ _ _ h => h) (Or.inl ⟨by rfl, ?_⟩) hHeld ?_
      rotate_left
      · intro w hSw
        (try dsimp only at hSw)
        go_simp
        try with_reducible rfl
      go_simp
      refine wpAnyH_take (i := 9) (v := ?_) rfl (by kernel_rfl) (by kernel_rfl) (by kernel_rfl) (fun _ _ _ h => h) (Or.inl ⟨by rfl, ?_⟩) hHeld ?_
      rotate_left
      · intro w hSw
        (try dsimp only at hSw)
        go_simp
        try with_reducible rfl
      go_simp
      refine wpAnyH_done (by kernel_rfl) ?_ _
      refine NoPanic.normal ?_
      go_wp2
      go_ret
      exact ⟨rfl, hb1.trans ((AX.out _ hW2).mono hb1.size)⟩
end Go.Proofs.Ytglalmhpgdgeeaa
