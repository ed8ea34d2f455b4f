/- Rows joined: the contracts of slices.Grow (of no row) and slices.Concat, at items and at nodes. -/
import Derived.Test.YtnfjleobcfhpnaaClone
import Derived.Lib.AppendZeros
namespace Go.Proofs.Ytnfjleobcfhpnaa
open Go.RowKit
set_option maxHeartbeats 4000000 in
set_option maxRecDepth 100000 in
theorem growV_any (n : Nat) (w : World) (hn : n ≤ 1000000) :
    Calls Try.prog 125 #[.slice none 0 0, .int .i64 n] w fun e w' => ∃ v, e = .returned v ∧ w'.ownsRow w.heap.size 135 1 v 0 [] ∧ Below w.heap.size w w' := by
  obtain ⟨i0, hi0, hz0, hz1, hz2⟩ := info_parts node_info
  rcases Nat.eq_zero_or_pos n with rfl | hp
  · go_enter Try.func125, Try.ntmps125
    go_wp2_with fail
    go_ret
    exact ⟨_, rfl, World.ownsRow_nil _ _ _ _, Below.refl _ _⟩
  have hrun := Lib.run_append_nil_zeros w 168 3 168 135 i0 _ .i64 .i64 Try.underlying168 Try.underlying3 hi0 hz0 n hp (by omega) (by omega) (by rw [hz2]; omega)
  have hcap := grownCap_le_maxLen w n 0 135 (by unfold maxLen; omega)
  have hcap2 := grownCap_ge w n 0 135
  generalize hC : grownCap w n 0 135 = C at *
  go_enter Try.func125, Try.ntmps125
  go_wp2_with (at_builtin; refine Lib.wpList_append_run _ rfl (.tmp 20) (.tmp 21) _ _ rfl _ _ rfl rfl _ _ hrun ?_)
  go_ret
  refine ⟨_, rfl, ⟨by simp, .inr ⟨w.heap.size, C, _, rfl, Nat.le_refl _, heap_alloc_new w.drew _, by omega, hcap, ?_, by simp⟩⟩, ((Below.refl _ _).drew).alloc (Nat.le_refl _) _⟩
  rw [Array.size_append, size_zeroCells, size_zeroCells, ← Nat.add_mul]
  congr 1
  omega
set_option maxHeartbeats 4000000 in
set_option maxRecDepth 100000 in
theorem growI_any (n : Nat) (w : World) (hn : n ≤ 1000000) :
    Calls Try.prog 126 #[.slice none 0 0, .int .i64 n] w fun e w' => ∃ v, e = .returned v ∧ w'.ownsRow w.heap.size 132 7 v 0 [] ∧ Below w.heap.size w w' := by
  obtain ⟨i0, hi0, hz0, hz1, hz2⟩ := info_parts item_info
  rcases Nat.eq_zero_or_pos n with rfl | hp
  · go_enter Try.func126, Try.ntmps126
    go_wp2_with fail
    go_ret
    exact ⟨_, rfl, World.ownsRow_nil _ _ _ _, Below.refl _ _⟩
  have hrun := Lib.run_append_nil_zeros w 106 3 106 132 i0 _ .i64 .i64 Try.underlying106 Try.underlying3 hi0 hz0 n hp (by omega) (by omega) (by rw [hz2]; omega)
  have hcap := grownCap_le_maxLen w n 0 132 (by unfold maxLen; omega)
  have hcap2 := grownCap_ge w n 0 132
  generalize hC : grownCap w n 0 132 = C at *
  go_enter Try.func126, Try.ntmps126
  go_wp2_with (at_builtin; refine Lib.wpList_append_run _ rfl (.tmp 20) (.tmp 21) _ _ rfl _ _ rfl rfl _ _ hrun ?_)
  go_ret
  refine ⟨_, rfl, ⟨by simp, .inr ⟨w.heap.size, C, _, rfl, Nat.le_refl _, heap_alloc_new w.drew _, by omega, hcap, ?_, by simp⟩⟩, ((Below.refl _ _).drew).alloc (Nat.le_refl _) _⟩
  rw [Array.size_append, size_zeroCells, size_zeroCells, ← Nat.add_mul]
  congr 1
  omega
set_option maxHeartbeats 4000000 in
set_option maxRecDepth 100000 in
theorem concatV_any (Q A B : Option Addr) (n c m d : Nat) (x y : List Value) (w : World) (hQ : VsAt w Q [.slice A n c, .slice B m d]) (hA : VsAt w A x) (hx : x.length = n) (hc : Caps A n c) (hB : VsAt w B y) (hy : y.length = m) (hd : Caps B m d) (hn : n ≤ 100000) (hm : m ≤ 100000) (hone : ∀ u ∈ x ++ y, u.oneCell' = true) :
    Calls Try.prog 116 #[.slice Q 2 2] w fun e w' => ∃ A' c', e = .returned (.slice A' (n + m) c') ∧ Below w.heap.size w w' ∧ VsAt w' A' (x ++ y) ∧ Caps A' (n + m) c' := by
  obtain ⟨b, off, rfl, hbs, hq⟩ := hQ (by simp)
  have e0 : w.cell? ⟨b, off, none⟩ = some (.slice A n c) := hq 0 (by simp)
  have e1 : w.cell? ⟨b, off + 1, none⟩ = some (.slice B m d) := hq 1 (by simp)
  have HA := Lib.hid hA
  have HB := Lib.hid hB
  have HX := Lib.hid hx
  have HY := Lib.hid hy
  have HC := Lib.hid hc
  have HD := Lib.hid hd
  clear hq hQ hA hB hx hy hc hd
  have wn : IntKind.i64.wrap (n : Int) = (n : Int) := IntWalk.i64_in _ (by omega)
  have wnm : IntKind.i64.wrap ((n : Int) + (m : Int)) = (n : Int) + (m : Int) := IntWalk.i64_in _ (by omega)
  have nneg : ¬ ((n : Int) < 0) := by omega
  have nmneg : ¬ ((n : Int) + (m : Int) < 0) := by omega
  go_enter Try.func116, Try.ntmps116
  go_wp2_with fail
  go_loopg [3, 11] 2 (fun k s i wr => ∃ j : Nat, i = .int .i64 j ∧ j ≤ 2 ∧ 2 - j ≤ k ∧ wr = w ∧ ((j = 0 ∧ s = .int .i64 0) ∨ (j = 1 ∧ s = .int .i64 n) ∨ (j = 2 ∧ s = .int .i64 (n + m))))
  case atStart => exact ⟨0, rfl, by omega, by omega, rfl, .inl ⟨rfl, rfl⟩⟩
  case round =>
    obtain ⟨j, rfl, h1, h2, rfl, ⟨rfl, rfl⟩ | ⟨rfl, rfl⟩ | ⟨rfl, rfl⟩⟩ := hrel
    · go_wp2
      go_roundg (gk - 1)
      case measure => omega
      case rel => exact ⟨1, rfl, by omega, by omega, rfl, .inr (.inl ⟨rfl, rfl⟩)⟩
    · go_wp2
      go_roundg (gk - 1)
      case measure => omega
      case rel => exact ⟨2, rfl, by omega, by omega, rfl, .inr (.inr ⟨rfl, rfl⟩)⟩
    · have CG := Lib.hid (growV_any (n + m) wr (by omega))
      rw [Int.natCast_add] at CG
      go_wp2_with fail
      refine CG.out.mono ?_
      rintro e w1 ⟨v1, rfl, hown1, hb1⟩
      have HO1 := Lib.hid hown1; clear hown1
      obtain ⟨w0, hw0⟩ : ∃ x, x = wr := ⟨wr, rfl⟩
      subst hw0
      obtain ⟨gO, hgO⟩ : ∃ g, g = gk := ⟨gk, rfl⟩
      subst hgO
      go_wp2_with fail
      go_loopg [6, 27] 2 (fun k v i W => ∃ j : Nat, i = .int .i64 j ∧ j ≤ 2 ∧ 2 - j ≤ k ∧ Below w0.heap.size w0 W ∧ ((j = 0 ∧ Hid (W.ownsRow w0.heap.size 135 1 v 0 [])) ∨ (j = 1 ∧ Hid (W.ownsRow w0.heap.size 135 1 v n (id x))) ∨ (j = 2 ∧ Hid (W.ownsRow w0.heap.size 135 1 v (n + m) (id x ++ id y)))))
      case atStart => exact ⟨0, rfl, by omega, by omega, hb1, .inl ⟨rfl, HO1⟩⟩
      case round =>
        obtain ⟨j, rfl, h3, h4, hb, ⟨rfl, hown⟩ | ⟨rfl, hown⟩ | ⟨rfl, hown⟩⟩ := hrel
        · have q0 : wr.cell? ⟨b, off, none⟩ = some (.slice A n c) := ((old_cells hb).1 _ _ hbs).trans e0
          go_wp2_with (at_builtin; refine wpList_append_nodes rfl (.tmp 31) (.tmp 32) rfl w0.heap.size _ 0 [] rfl hown.out A n c x rfl (HA.out.below hb) (fun u hu => hone u (List.mem_append_left _ hu)) HC.out HX.out (by omega) hb.size ?_; intro v4 w4 hown4 hg4)
          have hb4 := hb.grown hg4 hb.size (fun k hk => (hown.out.lt k hk).1)
          rw [Nat.zero_add, List.nil_append] at hown4
          go_wp2
          go_roundg (gk - 1)
          case measure => omega
          case rel => exact ⟨1, rfl, by omega, by omega, hb4, .inr (.inl ⟨rfl, hown4⟩)⟩
        · have q0 : wr.cell? ⟨b, off + 1, none⟩ = some (.slice B m d) := ((old_cells hb).1 _ _ hbs).trans e1
          go_wp2_with (at_builtin; refine wpList_append_nodes rfl (.tmp 31) (.tmp 32) rfl w0.heap.size _ n (id x) rfl hown.out B m d y rfl (HB.out.below hb) (fun u hu => hone u (List.mem_append_right _ hu)) HD.out HY.out (by omega) hb.size ?_; intro v4 w4 hown4 hg4)
          have hb4 := hb.grown hg4 hb.size (fun k hk => (hown.out.lt k hk).1)
          go_wp2
          go_roundg (gk - 1)
          case measure => omega
          case rel => exact ⟨2, rfl, by omega, by omega, hb4, .inr (.inr ⟨rfl, hown4⟩)⟩
        · have hx := hown.out
          simp only [id] at hx
          obtain ⟨A7, c7, rfl, hI7, _, hC7⟩ := vs_of_own hx
          have HI := Lib.hid hI7
          have HC7 := Lib.hid hC7
          clear hx hown hI7 hC7
          go_wp2
          go_ret
          exact ⟨A7, c7, rfl, hb, HI.out, HC7.out⟩
set_option maxHeartbeats 4000000 in
set_option maxRecDepth 100000 in
theorem concatI_any (Q A B : Option Addr) (n c m d : Nat) (x y : List I7) (w : World) (hQ : VsAt w Q [.slice A n c, .slice B m d]) (hA : ItsAt w A x) (hx : x.length = n) (hc : Caps A n c) (hB : ItsAt w B y) (hy : y.length = m) (hd : Caps B m d) (hn : n ≤ 100000) (hm : m ≤ 100000) :
    Calls Try.prog 118 #[.slice Q 2 2] w fun e w' => ∃ A' c', e = .returned (.slice A' (n + m) c') ∧ Below w.heap.size w w' ∧ ItsAt w' A' (x ++ y) ∧ Caps A' (n + m) c' := by
  obtain ⟨b, off, rfl, hbs, hq⟩ := hQ (by simp)
  have e0 : w.cell? ⟨b, off, none⟩ = some (.slice A n c) := hq 0 (by simp)
  have e1 : w.cell? ⟨b, off + 1, none⟩ = some (.slice B m d) := hq 1 (by simp)
  have HA := Lib.hid hA
  have HB := Lib.hid hB
  have HX := Lib.hid hx
  have HY := Lib.hid hy
  have HC := Lib.hid hc
  have HD := Lib.hid hd
  clear hq hQ hA hB hx hy hc hd
  have wn : IntKind.i64.wrap (n : Int) = (n : Int) := IntWalk.i64_in _ (by omega)
  have wnm : IntKind.i64.wrap ((n : Int) + (m : Int)) = (n : Int) + (m : Int) := IntWalk.i64_in _ (by omega)
  have nneg : ¬ ((n : Int) < 0) := by omega
  have nmneg : ¬ ((n : Int) + (m : Int) < 0) := by omega
  go_enter Try.func118, Try.ntmps118
  go_wp2_with fail
  go_loopg [3, 11] 2 (fun k s i wr => ∃ j : Nat, i = .int .i64 j ∧ j ≤ 2 ∧ 2 - j ≤ k ∧ wr = w ∧ ((j = 0 ∧ s = .int .i64 0) ∨ (j = 1 ∧ s = .int .i64 n) ∨ (j = 2 ∧ s = .int .i64 (n + m))))
  case atStart => exact ⟨0, rfl, by omega, by omega, rfl, .inl ⟨rfl, rfl⟩⟩
  case round =>
    obtain ⟨j, rfl, h1, h2, rfl, ⟨rfl, rfl⟩ | ⟨rfl, rfl⟩ | ⟨rfl, rfl⟩⟩ := hrel
    · go_wp2
      go_roundg (gk - 1)
      case measure => omega
      case rel => exact ⟨1, rfl, by omega, by omega, rfl, .inr (.inl ⟨rfl, rfl⟩)⟩
    · go_wp2
      go_roundg (gk - 1)
      case measure => omega
      case rel => exact ⟨2, rfl, by omega, by omega, rfl, .inr (.inr ⟨rfl, rfl⟩)⟩
    · have CG := Lib.hid (growI_any (n + m) wr (by omega))
      rw [Int.natCast_add] at CG
      go_wp2_with fail
      refine CG.out.mono ?_
      rintro e w1 ⟨v1, rfl, hown1, hb1⟩
      have HO1 := Lib.hid hown1; clear hown1
      obtain ⟨w0, hw0⟩ : ∃ x, x = wr := ⟨wr, rfl⟩
      subst hw0
      obtain ⟨gO, hgO⟩ : ∃ g, g = gk := ⟨gk, rfl⟩
      subst hgO
      go_wp2_with fail
      go_loopg [6, 27] 2 (fun k v i W => ∃ j : Nat, i = .int .i64 j ∧ j ≤ 2 ∧ 2 - j ≤ k ∧ Below w0.heap.size w0 W ∧ ((j = 0 ∧ Hid (W.ownsRow w0.heap.size 132 7 v 0 [])) ∨ (j = 1 ∧ Hid (W.ownsRow w0.heap.size 132 7 v n (iflat x))) ∨ (j = 2 ∧ Hid (W.ownsRow w0.heap.size 132 7 v (n + m) (iflat x ++ iflat y)))))
      case atStart => exact ⟨0, rfl, by omega, by omega, hb1, .inl ⟨rfl, HO1⟩⟩
      case round =>
        obtain ⟨j, rfl, h3, h4, hb, ⟨rfl, hown⟩ | ⟨rfl, hown⟩ | ⟨rfl, hown⟩⟩ := hrel
        · have q0 : wr.cell? ⟨b, off, none⟩ = some (.slice A n c) := ((old_cells hb).1 _ _ hbs).trans e0
          go_wp2_with (at_builtin; refine wpList_append_items rfl (.tmp 31) (.tmp 32) rfl w0.heap.size _ 0 [] rfl hown.out A n c x rfl (HA.out.below hb) HC.out HX.out (by omega) hb.size ?_; intro v4 w4 hown4 hg4)
          have hb4 := hb.grown hg4 hb.size (fun k hk => (hown.out.lt k hk).1)
          rw [Nat.zero_add, List.nil_append] at hown4
          go_wp2
          go_roundg (gk - 1)
          case measure => omega
          case rel => exact ⟨1, rfl, by omega, by omega, hb4, .inr (.inl ⟨rfl, hown4⟩)⟩
        · have q0 : wr.cell? ⟨b, off + 1, none⟩ = some (.slice B m d) := ((old_cells hb).1 _ _ hbs).trans e1
          go_wp2_with (at_builtin; refine wpList_append_items rfl (.tmp 31) (.tmp 32) rfl w0.heap.size _ n (iflat x) rfl hown.out B m d y rfl (HB.out.below hb) HD.out HY.out (by omega) hb.size ?_; intro v4 w4 hown4 hg4)
          have hb4 := hb.grown hg4 hb.size (fun k hk => (hown.out.lt k hk).1)
          go_wp2
          go_roundg (gk - 1)
          case measure => omega
          case rel => exact ⟨2, rfl, by omega, by omega, hb4, .inr (.inr ⟨rfl, hown4⟩)⟩
        · have hx := hown.out
          rw [← iflat_append] at hx
          obtain ⟨A7, c7, rfl, hI7, _, hC7⟩ := its_of_own hx
          have HI := Lib.hid hI7
          have HC7 := Lib.hid hC7
          clear hx hown hI7 hC7
          go_wp2
          go_ret
          exact ⟨A7, c7, rfl, hb, HI.out, HC7.out⟩
end Go.Proofs.Ytnfjleobcfhpnaa
