/- Three rows of runes joined: the contracts of slices.Grow (of no row) and slices.Concat, at runes. Ropes: their pieces, and their text: the contracts of Pieces and Text. -/
import Derived.Test.YtpnjokhhbjpciaaGreatDoorBase
import Derived.Test.YtpnjokhhbjpciaaGreatDoorTop
import Derived.Lib.AppendZeros
import Derived.Test.YtpnjokhhbjpciaaGreatDoorRopeAsk
import Derived.Test.YtpnjokhhbjpciaaGreatDoorBuilder
namespace Go.Proofs.YtpnjokhhbjpciaaGreatDoor
open Go.RowKit
set_option maxHeartbeats 4000000 in
set_option maxRecDepth 100000 in
theorem growR_any (n : Nat) (w : World) (hn : n ≤ 1000000) :
    Calls Tryz.prog 106 #[.slice none 0 0, .int .i64 n] w fun e w' => ∃ v, e = .returned v ∧ w'.ownsRow w.heap.size 21 1 v 0 [] ∧ Below w.heap.size w w' := by
  obtain ⟨i0, hi0, hz0, hz1, hz2⟩ := info_parts i32_info
  rcases Nat.eq_zero_or_pos n with rfl | hp
  · go_enter Tryz.func106, Tryz.ntmps106
    go_wp2_with fail
    go_ret
    exact ⟨_, rfl, World.ownsRow_nil _ _ _ _, Below.refl _ _⟩
  have hrun := Lib.run_append_nil_zeros w 30 3 30 21 i0 _ .i64 .i64 Tryz.underlying30 Tryz.underlying3 hi0 hz0 n hp (by omega) (by omega) (by rw [hz2]; omega)
  have hcap := grownCap_le_maxLen w n 0 21 (by unfold maxLen; omega)
  have hcap2 := grownCap_ge w n 0 21
  generalize hC : grownCap w n 0 21 = C at *
  go_enter Tryz.func106, Tryz.ntmps106
  go_wp2_with (at_builtin; refine Lib.wpList_append_run _ rfl (.tmp 20) (.tmp 21) _ _ rfl _ _ rfl rfl _ _ hrun ?_)
  go_ret
  refine ⟨_, rfl, ⟨by simp, .inr ⟨w.heap.size, C, _, rfl, Nat.le_refl _, heap_alloc_new w.drew _, by omega, hcap, ?_, by simp⟩⟩, ((Below.refl _ _).drew).alloc (Nat.le_refl _) _⟩
  rw [Array.size_append, size_zeroCells, size_zeroCells, ← Nat.add_mul]
  congr 1
  omega
set_option maxHeartbeats 4000000 in
set_option maxRecDepth 100000 in
theorem concatR_any (Q A B D : Option Addr) (n c m d q f : Nat) (x y z : List Int) (w : World) (hQ : VsAt w Q [.slice A n c, .slice B m d, .slice D q f]) (hA : IntsAt .i32 w A x) (hx : x.length = n) (hc : Caps A n c) (hB : IntsAt .i32 w B y) (hy : y.length = m) (hd : Caps B m d) (hD : IntsAt .i32 w D z) (hz : z.length = q) (hf : Caps D q f) (hn : n ≤ 100000) (hm : m ≤ 100000) (hq_ : q ≤ 100000) :
    Calls Tryz.prog 74 #[.slice Q 3 3] w fun e w' => ∃ A' c', e = .returned (.slice A' (n + m + q) c') ∧ Below w.heap.size w w' ∧ IntsAt .i32 w' A' (x ++ y ++ z) ∧ Caps A' (n + m + q) c' := by
  obtain ⟨b, off, rfl, hbs, hq⟩ := hQ (by simp)
  have e0 : w.cell? ⟨b, off, none⟩ = some (.slice A n c) := hq 0 (by simp)
  have e1 : w.cell? ⟨b, off + 1, none⟩ = some (.slice B m d) := hq 1 (by simp)
  have e2 : w.cell? ⟨b, off + 2, none⟩ = some (.slice D q f) := hq 2 (by simp)
  have HA := Lib.hid hA
  have HB := Lib.hid hB
  have HDD := Lib.hid hD
  have HX := Lib.hid hx
  have HY := Lib.hid hy
  have HZ := Lib.hid hz
  have HC := Lib.hid hc
  have HD := Lib.hid hd
  have HF := Lib.hid hf
  clear hq hQ hA hB hx hy hc hd hD hz hf
  have wn : IntKind.i64.wrap (n : Int) = (n : Int) := IntWalk.i64_in _ (by omega)
  have wnm : IntKind.i64.wrap ((n : Int) + (m : Int)) = (n : Int) + (m : Int) := IntWalk.i64_in _ (by omega)
  have wnmq : IntKind.i64.wrap ((n : Int) + (m : Int) + (q : Int)) = (n : Int) + (m : Int) + (q : Int) := IntWalk.i64_in _ (by omega)
  have nneg : ¬ ((n : Int) < 0) := by omega
  have nmneg : ¬ ((n : Int) + (m : Int) < 0) := by omega
  have nmqneg : ¬ ((n : Int) + (m : Int) + (q : Int) < 0) := by omega
  go_enter Tryz.func74, Tryz.ntmps74
  go_wp2_with fail
  go_loopg [3, 11] 3 (fun k s i wr => ∃ j : Nat, i = .int .i64 j ∧ j ≤ 3 ∧ 3 - j ≤ k ∧ wr = w ∧ ((j = 0 ∧ s = .int .i64 0) ∨ (j = 1 ∧ s = .int .i64 n) ∨ (j = 2 ∧ s = .int .i64 (n + m)) ∨ (j = 3 ∧ s = .int .i64 (n + m + q))))
  case atStart => exact ⟨0, rfl, by omega, by omega, rfl, .inl ⟨rfl, rfl⟩⟩
  case round =>
    obtain ⟨j, rfl, h1, h2, rfl, ⟨rfl, rfl⟩ | ⟨rfl, rfl⟩ | ⟨rfl, rfl⟩ | ⟨rfl, rfl⟩⟩ := hrel
    · go_wp2
      go_roundg (gk - 1)
      case measure => omega
      case rel => exact ⟨1, rfl, by omega, by omega, rfl, .inr (.inl ⟨rfl, rfl⟩)⟩
    · go_wp2
      go_roundg (gk - 1)
      case measure => omega
      case rel => exact ⟨2, rfl, by omega, by omega, rfl, .inr (.inr (.inl ⟨rfl, rfl⟩))⟩
    · go_wp2
      go_roundg (gk - 1)
      case measure => omega
      case rel => exact ⟨3, rfl, by omega, by omega, rfl, .inr (.inr (.inr ⟨rfl, rfl⟩))⟩
    · have CG := Lib.hid (growR_any (n + m + q) wr (by omega))
      rw [Int.natCast_add, Int.natCast_add] at CG
      go_wp2_with fail
      refine CG.out.mono ?_
      rintro e w1 ⟨v1, rfl, hown1, hb1⟩
      have HO1 := Lib.hid hown1; clear hown1
      obtain ⟨w0, hw0⟩ : ∃ x, x = wr := ⟨wr, rfl⟩
      subst hw0
      obtain ⟨gO, hgO⟩ : ∃ g, g = gk := ⟨gk, rfl⟩
      subst hgO
      go_wp2_with fail
      go_loopg [6, 27] 3 (fun k v i W => ∃ j : Nat, i = .int .i64 j ∧ j ≤ 3 ∧ 3 - j ≤ k ∧ Below w0.heap.size w0 W ∧ ((j = 0 ∧ Hid (W.ownsRow w0.heap.size 21 1 v 0 [])) ∨ (j = 1 ∧ Hid (W.ownsRow w0.heap.size 21 1 v n (x.map (.int .i32)))) ∨ (j = 2 ∧ Hid (W.ownsRow w0.heap.size 21 1 v (n + m) (x.map (.int .i32) ++ y.map (.int .i32)))) ∨ (j = 3 ∧ Hid (W.ownsRow w0.heap.size 21 1 v (n + m + q) ((x ++ y ++ z).map (.int .i32))))))
      case atStart => exact ⟨0, rfl, by omega, by omega, hb1, .inl ⟨rfl, HO1⟩⟩
      case round =>
        obtain ⟨j, rfl, h3, h4, hb, ⟨rfl, hown⟩ | ⟨rfl, hown⟩ | ⟨rfl, hown⟩ | ⟨rfl, hown⟩⟩ := hrel
        · have q0 : wr.cell? ⟨b, off, none⟩ = some (.slice A n c) := ((old_cells hb).1 _ _ hbs).trans e0
          go_wp2_with (at_builtin; refine wpList_append_ints rfl (.tmp 31) (.tmp 32) rfl w0.heap.size _ 0 [] rfl hown.out A n c x rfl (HA.out.below hb) HC.out HX.out (by omega) hb.size ?_; intro v4 w4 hown4 hg4)
          have hb4 := hb.grown hg4 hb.size (fun k hk => (hown.out.lt k hk).1)
          rw [Nat.zero_add, List.nil_append] at hown4
          go_wp2
          go_roundg (gk - 1)
          case measure => omega
          case rel => exact ⟨1, rfl, by omega, by omega, hb4, .inr (.inl ⟨rfl, hown4⟩)⟩
        · have q0 : wr.cell? ⟨b, off + 1, none⟩ = some (.slice B m d) := ((old_cells hb).1 _ _ hbs).trans e1
          go_wp2_with (at_builtin; refine wpList_append_ints rfl (.tmp 31) (.tmp 32) rfl w0.heap.size _ n (x.map (Value.int .i32)) rfl hown.out B m d y rfl (HB.out.below hb) HD.out HY.out (by omega) hb.size ?_; intro v4 w4 hown4 hg4)
          have hb4 := hb.grown hg4 hb.size (fun k hk => (hown.out.lt k hk).1)
          go_wp2
          go_roundg (gk - 1)
          case measure => omega
          case rel => exact ⟨2, rfl, by omega, by omega, hb4, .inr (.inr (.inl ⟨rfl, hown4⟩))⟩
        · have q0 : wr.cell? ⟨b, off + 2, none⟩ = some (.slice D q f) := ((old_cells hb).1 _ _ hbs).trans e2
          go_wp2_with (at_builtin; refine wpList_append_ints rfl (.tmp 31) (.tmp 32) rfl w0.heap.size _ (n + m) (x.map (Value.int .i32) ++ y.map (Value.int .i32)) rfl hown.out D q f z rfl (HDD.out.below hb) HF.out HZ.out (by omega) hb.size ?_; intro v4 w4 hown4 hg4)
          have hb4 := hb.grown hg4 hb.size (fun k hk => (hown.out.lt k hk).1)
          rw [← List.map_append, ← List.map_append] at hown4
          go_wp2
          go_roundg (gk - 1)
          case measure => omega
          case rel => exact ⟨3, rfl, by omega, by omega, hb4, .inr (.inr (.inr ⟨rfl, hown4⟩))⟩
        · obtain ⟨A7, c7, e7, hI7, hl7, hC7⟩ := IntsAt.of_own hown.out
          have HI := Lib.hid hI7
          have HC7 := Lib.hid hC7
          subst e7
          clear hown hI7 hC7 hl7
          go_wp2
          go_ret
          exact ⟨A7, c7, by simp, hb, HI.out, HC7.out⟩
theorem string_info : (Tryz.prog.info? 9).map (fun i => (i.zero, i.size, i.bytes)) = some (some (.string ⟨#[]⟩), 1, 16) := by kernel_rfl
/-- Pieces as values. -/
def svs (ps : List (List Int)) : List Value := ps.map fun q => .string (txt q)
theorem svs_length (ps : List (List Int)) : (svs ps).length = ps.length := by simp [svs]
section
variable {p : Option Addr} {ps : List (List Int)} {h : Nat} {w : World}
theorem join_nosep (l : List (List UInt8)) : Lib.join l [] = l.flatten := by
  cases l with
  | nil => rfl
  | cons x r => rw [Lib.join_cons]; simp [Lib.joinTail]
theorem svs_at {ps : List (List Int)} {j : Nat} (hj : j < ps.length) : vth (svs ps) j = .string (txt ps[j]) := by simp [vth, svs, List.getD, hj]
end
end Go.Proofs.YtpnjokhhbjpciaaGreatDoor
