/- Inlays: slices.Grow, Concat, IndexFunc at them. -/
import Derived.Test.YtbeclkhahdcmbaaGreatInN
import Derived.Test.YtbeclkhahdcmbaaGreatInD
import Derived.Test.YtbeclkhahdcmbaaGreatDelM
import Derived.Lib.AppendZeros
namespace Go.Proofs.YtbeclkhahdcmbaaGreat
open Go.RowKit
set_option linter.unusedVariables false
set_option maxHeartbeats 4000000 in
set_option maxRecDepth 100000 in
theorem iGrow_any (n : Nat) (w : World) (hn : n ≤ 1000000) :
    Calls Tryz.prog 67 #[.slice none 0 0, .int .i64 n] w fun e w' => ∃ v, e = .returned v ∧ w'.ownsRow w.heap.size 48 5 v 0 [] ∧ Below w.heap.size w w' := by
  obtain ⟨i0, hi0, hz0, hz1, hz2⟩ := info_parts in_info
  rcases Nat.eq_zero_or_pos n with rfl | hp
  · go_enter Tryz.func67, Tryz.ntmps67
    go_wp2_with fail
    go_ret
    exact ⟨_, rfl, World.ownsRow_nil _ _ _ _, Below.refl _ _⟩
  have hrun := Lib.run_append_nil_zeros w 22 3 22 48 i0 _ .i64 .i64 Tryz.underlying22 Tryz.underlying3 hi0 hz0 n hp (by omega) (by omega) (by rw [hz2]; omega)
  have hcap := grownCap_le_maxLen w n 0 48 (by unfold maxLen; omega)
  have hcap2 := grownCap_ge w n 0 48
  generalize hC : grownCap w n 0 48 = C at *
  go_enter Tryz.func67, Tryz.ntmps67
  go_wp2_with (at_builtin; refine Lib.wpList_append_run _ rfl (.tmp 20) (.tmp 21) _ _ rfl _ _ rfl rfl _ _ hrun ?_)
  go_ret
  refine ⟨_, rfl, ⟨by simp, .inr ⟨w.heap.size, C, _, rfl, Nat.le_refl _, heap_alloc_new w.drew _, by omega, hcap, ?_, by simp⟩⟩, ((Below.refl _ _).drew).alloc (Nat.le_refl _) _⟩
  rw [Array.size_append, size_zeroCells, size_zeroCells, ← Nat.add_mul]
  congr 1
  omega
set_option maxHeartbeats 4000000 in
set_option maxRecDepth 100000 in
theorem iConcat_any (b : Nat) (A B : Option Addr) (n c m d cap : Nat) (x y : List In) (w : World) (h0 : w.cell? ⟨b, 0, none⟩ = some (.slice A n c)) (h1 : w.cell? ⟨b, 1, none⟩ = some (.slice B m d)) (hbs : b < w.heap.size)
    (hA : RowsAt encI 5 w A x) (hx : x.length = n) (hc : Caps A n c) (hB : RowsAt encI 5 w B y) (hy : y.length = m) (hd : Caps B m d) (hn : n ≤ 100000) (hm : m ≤ 100000) :
    Calls Tryz.prog 32 #[.slice (some ⟨b, 0, none⟩) 2 cap] w fun e w' => ∃ v, e = .returned v ∧ w'.ownsRow w.heap.size 48 5 v (n + m) (kfl encI (x ++ y)) ∧ Below w.heap.size w w' := by
  have HA := Lib.hid hA
  have HB := Lib.hid hB
  have HX := Lib.hid hx
  have HY := Lib.hid hy
  have HC := Lib.hid hc
  have HD := Lib.hid hd
  clear hA hB hx hy hc hd
  have wn : IntKind.i64.wrap (n : Int) = (n : Int) := IntWalk.i64_in _ (by omega)
  have wnm : IntKind.i64.wrap ((n : Int) + (m : Int)) = (n : Int) + (m : Int) := IntWalk.i64_in _ (by omega)
  have nneg : ¬ ((n : Int) < 0) := by omega
  have nmneg : ¬ ((n : Int) + (m : Int) < 0) := by omega
  go_enter Tryz.func32, Tryz.ntmps32
  go_wp2_with fail
  go_loopg [3, 11] 2 (fun k s i wr => ∃ j : Nat, i = .int .i64 j ∧ j ≤ 2 ∧ 2 - j ≤ k ∧ wr = w ∧ ((j = 0 ∧ s = .int .i64 0) ∨ (j = 1 ∧ s = .int .i64 n) ∨ (j = 2 ∧ s = .int .i64 (n + m))))
  case atStart => exact ⟨0, rfl, by omega, by omega, rfl, .inl ⟨rfl, rfl⟩⟩
  case round =>
    obtain ⟨j, rfl, h3, h2, rfl, ⟨rfl, rfl⟩ | ⟨rfl, rfl⟩ | ⟨rfl, rfl⟩⟩ := hrel
    · go_wp2
      go_roundg (gk - 1)
      case measure => omega
      case rel => exact ⟨1, rfl, by omega, by omega, rfl, .inr (.inl ⟨rfl, rfl⟩)⟩
    · go_wp2
      go_roundg (gk - 1)
      case measure => omega
      case rel => exact ⟨2, rfl, by omega, by omega, rfl, .inr (.inr ⟨rfl, rfl⟩)⟩
    · have CG := Lib.hid (iGrow_any (n + m) wr (by omega))
      rw [Int.natCast_add] at CG
      go_wp2_with fail
      refine CG.out.mono ?_
      rintro e w1 ⟨v1, rfl, hown1, hb1⟩
      have HO1 := Lib.hid hown1; clear hown1
      obtain ⟨w0, hw0⟩ : ∃ x, x = wr := ⟨wr, rfl⟩
      subst hw0
      obtain ⟨gO, hgO⟩ : ∃ g, g = gk := ⟨gk, rfl⟩
      subst hgO
      go_wp2_with fail
      go_loopg [6, 27] 2 (fun k v i W => ∃ (j : Nat) (u : Value), i = .int .i64 j ∧ u = v ∧ j ≤ 2 ∧ 2 - j ≤ k ∧ Below w0.heap.size w0 W ∧ ((j = 0 ∧ Hid (W.ownsRow w0.heap.size 48 5 u 0 [])) ∨ (j = 1 ∧ Hid (W.ownsRow w0.heap.size 48 5 u n (kfl encI x))) ∨ (j = 2 ∧ Hid (W.ownsRow w0.heap.size 48 5 u (n + m) (kfl encI x ++ kfl encI y)))))
      case atStart => exact ⟨0, _, rfl, rfl, by omega, by omega, hb1, .inl ⟨rfl, HO1⟩⟩
      case round =>
        obtain ⟨j, u, rfl, rfl, h3, h4, hb, ⟨rfl, hown⟩ | ⟨rfl, hown⟩ | ⟨rfl, hown⟩⟩ := hrel
        · have q0 : wr.cell? ⟨b, 0, none⟩ = some (.slice A n c) := ((old_cells hb).1 _ _ hbs).trans h0
          go_wp2_with (at_builtin; refine wpList_appK (enc := encI) in_slt encI_len (by omega) rfl (.tmp 31) (.tmp 32) rfl rfl hown.out A n c x rfl (HA.out.below hb) HC.out HX.out (kfl_one' encI_one _) (by simp only [maxLen]; omega) (by omega) hb.size ?_; intro v4 w4 hown4 hg4 hn4)
          have hb4 := hb.grown hg4 hb.size (fun k hk => (hown.out.lt k hk).1)
          rw [Nat.zero_add, List.nil_append] at hown4
          have HO4 := Lib.hid hown4
          clear hown4 hg4 hn4
          go_wp2
          go_roundg (gk - 1)
          case measure => omega
          case rel => exact ⟨1, _, rfl, rfl, by omega, by omega, hb4, .inr (.inl ⟨rfl, HO4⟩)⟩
        · have q0 : wr.cell? ⟨b, 1, none⟩ = some (.slice B m d) := ((old_cells hb).1 _ _ hbs).trans h1
          go_wp2_with (at_builtin; refine wpList_appK (enc := encI) in_slt encI_len (by omega) rfl (.tmp 31) (.tmp 32) rfl rfl hown.out B m d y rfl (HB.out.below hb) HD.out HY.out (kfl_one' encI_one _) (by simp only [maxLen]; omega) (by omega) hb.size ?_; intro v4 w4 hown4 hg4 hn4)
          have hb4 := hb.grown hg4 hb.size (fun k hk => (hown.out.lt k hk).1)
          have HO4 := Lib.hid hown4
          clear hown4 hg4 hn4
          go_wp2
          go_roundg (gk - 1)
          case measure => omega
          case rel => exact ⟨2, _, rfl, rfl, by omega, by omega, hb4, .inr (.inr ⟨rfl, HO4⟩)⟩
        · have hx := hown.out
          obtain ⟨A7, c7, rfl⟩ := own_form hx
          have HI := Lib.hid hx
          clear hx hown
          go_wp2
          go_ret
          exact ⟨_, rfl, by rw [kfl_append]; exact HI.out, hb⟩
set_option maxHeartbeats 4000000 in
set_option maxRecDepth 100000 in
theorem iIndexF_any (K : Value) (cv : Value) (hK : K = .func (.func 31) #[] #[cv]) (P : In → Bool) (A : Option Addr) (n c : Nat) (o : List In) (w : World) (hA : RowsAt encI 5 w A o) (hl : o.length = n) (hn : n ≤ 100000)
    (CK : ∀ a ∈ o, ∀ W, Below w.heap.size w W → Calls Tryz.prog 31 #[.agg #[.int .i64 a.id, .int .i64 a.pl, .int .i64 a.bi, .int .i64 a.ky, .string a.tx], cv] W fun e w' => e = .returned (.bool (P a)) ∧ Below W.heap.size W w') (r : Int) (hr : r = if o.findIdx P < o.length then (o.findIdx P : Int) else -1) :
    Calls Tryz.prog 66 #[.slice A n c, K] w fun e w' => e = .returned (.int .i64 r) ∧ Below w.heap.size w w' := by
  have HA := Lib.hid hA
  have HL := Lib.hid hl
  have HCK := Lib.hid CK
  have HR := Lib.hid hr
  clear hA hl CK hr
  subst hK
  go_enter Tryz.func66, Tryz.ntmps66
  go_wp2_with fail
  go_loopg [8] n (fun g i wr => ∃ (j : Nat), i = .int .i64 (j : Int) ∧ j ≤ n ∧ n - j ≤ g ∧ Hid (j ≤ o.findIdx P) ∧ Hid (Below w.heap.size w wr))
  case atStart => exact ⟨0, rfl, by omega, by omega, Lib.hid (Nat.zero_le _), Lib.hid (Below.refl _ _)⟩
  case round =>
    obtain ⟨j, rfl, h1, h2, hs, hb⟩ := hrel
    by_cases hlt : j < n
    · have hjl : j < o.length := by rw [HL.out]; exact hlt
      obtain ⟨bA, off, rfl, hbA, hcell⟩ := (HA.out.below hb.out).at1 hjl
      have d0 := hcell 0 (by omega)
      have d1 := hcell 1 (by omega)
      have d2 := hcell 2 (by omega)
      have d3 := hcell 3 (by omega)
      have d4 := hcell 4 (by omega)
      have CKj := Lib.hid (HCK.out o[j] (List.getElem_mem hjl) wr hb.out)
      obtain ⟨bv, hbv⟩ : ∃ bv, P o[j] = bv := ⟨_, rfl⟩
      rw [hbv] at CKj
      have HBV := Lib.hid hbv
      clear hcell hbv
      have i1 : (0 : Int) ≤ j := by omega
      have i2 : (j : Int) < n := by omega
      cases bv
      · have HS : Hid (j + 1 ≤ o.findIdx P) := Lib.hid (by
          rcases Nat.lt_or_ge (o.findIdx P) (j + 1) with g | g
          · have e : o.findIdx P = j := by have := hs.out; omega
            have h5 := List.findIdx_getElem (p := P) (w := (by rw [e]; exact hjl : o.findIdx P < o.length))
            simp only [e] at h5
            rw [HBV.out] at h5
            cases h5
          · exact g)
        generalize o[j] = a at *
        simp [encI] at d0 d1 d2 d3 d4
        go_wp2_with (refine (CKj.out).mono ?_; rintro e w1 ⟨rfl, hb1⟩; have HB1 := Lib.hid (hb.out.trans (hb1.mono hb.out.size)); clear hb1)
        go_roundg (gk - 1)
        case measure => omega
        case rel => exact ⟨j + 1, by go_num, by omega, by omega, HS, HB1⟩
      · have HE : Hid (r = j) := Lib.hid (by
          have e : o.findIdx P = j := by
            refine Nat.le_antisymm ?_ hs.out
            rcases Nat.lt_or_ge j (o.findIdx P) with g | g
            · have := List.not_of_lt_findIdx g
              rw [HBV.out] at this
              cases this
            · exact g
          rw [HR.out, e, if_pos hjl])
        generalize o[j] = a at *
        simp [encI] at d0 d1 d2 d3 d4
        go_wp2_with (refine (CKj.out).mono ?_; rintro e w1 ⟨rfl, hb1⟩; have HB1 := Lib.hid (hb.out.trans (hb1.mono hb.out.size)); clear hb1)
        go_ret
        exact ⟨by rw [HE.out]; rfl, HB1.out⟩
    · obtain rfl : j = n := by omega
      have HE : Hid (r = -1) := Lib.hid (by rw [HR.out, if_neg (by have := hs.out; rw [HL.out]; omega)])
      go_wp2
      go_ret
      exact ⟨by rw [HE.out]; rfl, hb.out⟩
end Go.Proofs.YtbeclkhahdcmbaaGreat
