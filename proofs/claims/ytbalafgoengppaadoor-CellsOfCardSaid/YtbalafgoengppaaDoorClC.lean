/- Cells: a cell is put behind others: the contract of put. -/
import Derived.Test.YtbalafgoengppaaDoorClA
namespace Go.Proofs.YtbalafgoengppaaDoor
open Go.RowKit
set_option linter.unusedVariables false
/-- A row of one's own that grows: all other blocks stay, and it lies where it lay, or in a new one. -/
structure Grow (w W : World) (v v' : Value) : Prop where
  size : w.heap.size ≤ W.heap.size
  keep : ∀ k, k < w.heap.size → v.ownBlock ≠ some k → W.heap[k]? = w.heap[k]?
  own : v'.ownBlock = v.ownBlock ∨ ∃ k, v'.ownBlock = some k ∧ w.heap.size ≤ k
theorem Grow.refl (w : World) (v : Value) : Grow w w v v := ⟨Nat.le_refl _, fun _ _ _ => rfl, .inl rfl⟩
theorem Grow.below {w W W' : World} {v v' : Value} (h : Grow w W v v') (hb : Below W.heap.size W W') : Grow w W' v v' := ⟨Nat.le_trans h.size hb.size, fun k h1 h2 => (hb.block k (Nat.lt_of_lt_of_le h1 h.size)).trans (h.keep k h1 h2), h.own⟩
theorem Grow.grown {w W W' : World} {v v' v'' : Value} (h : Grow w W v v') (hg : W.grownBy W' v'.ownBlock) (hn : v''.ownBlock = v'.ownBlock ∨ v''.ownBlock = some W.heap.size) : Grow w W' v v'' := by
  refine ⟨Nat.le_trans h.size hg.size, fun k h1 h2 => ?_, ?_⟩
  · refine (hg.block k (Nat.lt_of_lt_of_le h1 h.size) ?_).trans (h.keep k h1 h2)
    intro he
    rcases h.own with h3 | ⟨k', h3, h4⟩
    · exact h2 (by rw [← h3, ← he])
    · rw [h3] at he
      injection he with he
      omega
  · rcases hn with hn | hn
    · rw [hn]; exact h.own
    · exact .inr ⟨_, hn, h.size⟩
theorem Grow.raw {w W : World} {v v' : Value} (h : Grow w W v v') {t : TypeId} {b : Nat} {cs : Array Value} (hr : RawAt t w b cs) (hn : v.ownBlock ≠ some b) : RawAt t W b cs := (h.keep b hr.lt hn).trans hr
set_option maxHeartbeats 4000000 in
set_option maxRecDepth 100000 in
theorem cPut_rune (B : Nat) (v : Value) (m : Nat) (o : List Cl) (c : Cl) (n : Int) (w : World) (h : w.ownsRow B 58 4 v m (kfl encC o)) (hB : B ≤ w.heap.size) (hm : m ≤ 1000000) (hr : ¬ c.r = 9) :
    Calls Tryd.prog 42 #[v, .agg #[.int .i32 c.r, .int .i64 c.k, .int .i64 c.wd, .int .i64 c.p], .int .i64 n] w fun e w' => ∃ (m' : Nat) (v' : Value), e = .returned v' ∧ w'.ownsRow B 58 4 v' m' (kfl encC (o ++ putC c n)) ∧ Below B w w' ∧ Grow w w' v v' := by
  have HP : Hid (putC c n = [⟨c.r, c.k, n, c.p⟩]) := Lib.hid (by unfold putC; rw [if_neg hr])
  obtain ⟨r, k, wd, p⟩ := c
  simp only at hr HP
  have k1 : (r == 9) = false := by simpa using hr
  have k2 : (r != 9) = true := by simpa using hr
  have x1 : Below w.heap.size w (w.alloc (.cells #[.int .i32 r, .int .i64 k, .int .i64 n, .int .i64 p] 58)) := (Below.refl _ _).alloc (Nat.le_refl _) _
  have x2 : Below w.heap.size w ((w.alloc (.cells #[.int .i32 r, .int .i64 k, .int .i64 n, .int .i64 p] 58)).alloc (.cells #[.int .i32 r, .int .i64 k, .int .i64 n, .int .i64 p] 58)) := x1.alloc x1.size _
  have HOW := Lib.hid (own_below h x2)
  have HX2 := Lib.hid (x2.mono hB)
  have HG2 := Lib.hid ((Grow.refl w v).below x2)
  have HRW : Hid (RowsAt encC 4 ((w.alloc (.cells #[.int .i32 r, .int .i64 k, .int .i64 n, .int .i64 p] 58)).alloc (.cells #[.int .i32 r, .int .i64 k, .int .i64 n, .int .i64 p] 58)) (some ⟨w.heap.size + 1, 0, none⟩) [⟨r, k, n, p⟩]) := Lib.hid (by
    have := row_new encC_len (w.alloc (.cells #[.int .i32 r, .int .i64 k, .int .i64 n, .int .i64 p] 58)) [⟨r, k, n, p⟩] #[.int .i32 r, .int .i64 k, .int .i64 n, .int .i64 p] 58 rfl
    rwa [show (w.alloc (.cells #[.int .i32 r, .int .i64 k, .int .i64 n, .int .i64 p] 58)).heap.size = w.heap.size + 1 from by simp] at this)
  clear h hr x1 x2
  go_enter Tryd.func42, Tryd.ntmps42
  go_wp2_with (at_builtin; go_loud (refine wpList_appK (enc := encC) cell_slt encC_len (by omega) rfl (.tmp 12) (.tmp 14) rfl rfl HOW.out (some ⟨w.heap.size + 1, 0, none⟩) 1 1 [⟨r, k, n, p⟩] rfl HRW.out ⟨Nat.le_refl _, fun h => by cases h⟩ rfl (kfl_one' encC_one _) (by simp only [maxLen]; omega) (by omega) (by simp; omega) ?_; intro v5 w5 hown5 hg5 hn5))
  have HO5 := Lib.hid hown5
  have HB5 := Lib.hid (HX2.out.grown hg5 (by simp; omega) (fun k hk => (HOW.out.lt k hk).1))
  have HG5 := Lib.hid (HG2.out.grown hg5 hn5)
  obtain ⟨A5, c5, rfl⟩ := own_form hown5
  clear hown5 hg5 hn5 k1 k2
  go_wp2
  go_ret
  exact ⟨m + 1, _, rfl, by rw [HP.out, kfl_append]; exact HO5.out, HB5.out, HG5.out⟩
set_option maxHeartbeats 4000000 in
set_option maxRecDepth 100000 in
theorem cPut_tab (B : Nat) (v : Value) (m : Nat) (o : List Cl) (c : Cl) (n : Int) (w : World) (h : w.ownsRow B 58 4 v m (kfl encC o)) (hB : B ≤ w.heap.size) (hm : m ≤ 1000000) (hr : c.r = 9) (n1 : 1 ≤ n) (n2 : n ≤ 16) :
    Calls Tryd.prog 42 #[v, .agg #[.int .i32 c.r, .int .i64 c.k, .int .i64 c.wd, .int .i64 c.p], .int .i64 n] w fun e w' => ∃ (m' : Nat) (v' : Value), e = .returned v' ∧ w'.ownsRow B 58 4 v' m' (kfl encC (o ++ putC c n)) ∧ Below B w w' ∧ Grow w w' v v' := by
  have HP : Hid (putC c n = ⟨c.r, c.k, 1, c.p⟩ :: List.replicate (n - 1).toNat ⟨32, 4, 1, c.p⟩) := Lib.hid (by unfold putC; rw [if_pos hr])
  obtain ⟨r, k, wd, p⟩ := c
  simp only at hr HP
  subst hr
  obtain ⟨q, hq⟩ : ∃ q : Nat, n = (q : Int) + 1 := ⟨(n - 1).toNat, by omega⟩
  subst hq
  rw [show ((q : Int) + 1 - 1).toNat = q by omega] at HP
  have x1 : Below w.heap.size w (w.alloc (.cells #[.int .i32 9, .int .i64 k, .int .i64 1, .int .i64 p] 58)) := (Below.refl _ _).alloc (Nat.le_refl _) _
  have x2 : Below w.heap.size w ((w.alloc (.cells #[.int .i32 9, .int .i64 k, .int .i64 1, .int .i64 p] 58)).alloc (.cells #[.int .i32 9, .int .i64 k, .int .i64 1, .int .i64 p] 58)) := x1.alloc x1.size _
  have HM1 : Mid w.heap.size (w.alloc (.cells #[.int .i32 9, .int .i64 k, .int .i64 1, .int .i64 p] 58)) (w.alloc (.cells #[.int .i32 9, .int .i64 k, .int .i64 1, .int .i64 p] 58)) v := Mid.start fun b hb => .inl (h.lt b hb).2
  have HM2 := Lib.hid (HM1.below ((Below.refl _ _).alloc (Nat.le_refl _) (.cells #[.int .i32 9, .int .i64 k, .int .i64 1, .int .i64 p] 58)))
  have HR1 : Hid (RawAt 58 (w.alloc (.cells #[.int .i32 9, .int .i64 k, .int .i64 1, .int .i64 p] 58)) w.heap.size #[.int .i32 9, .int .i64 k, .int .i64 1, .int .i64 p]) := Lib.hid (heap_alloc_new w _)
  have hs1 : (w.alloc (.cells #[.int .i32 9, .int .i64 k, .int .i64 1, .int .i64 p] 58)).heap.size = w.heap.size + 1 := by simp
  have HS1 := Lib.hid hs1
  have HOW := Lib.hid (own_below h x2)
  have HX2 := Lib.hid (x2.mono hB)
  have HG2 := Lib.hid ((Grow.refl w v).below x2)
  have HRW : Hid (RowsAt encC 4 ((w.alloc (.cells #[.int .i32 9, .int .i64 k, .int .i64 1, .int .i64 p] 58)).alloc (.cells #[.int .i32 9, .int .i64 k, .int .i64 1, .int .i64 p] 58)) (some ⟨w.heap.size + 1, 0, none⟩) [⟨9, k, 1, p⟩]) := Lib.hid (by
    have := row_new encC_len (w.alloc (.cells #[.int .i32 9, .int .i64 k, .int .i64 1, .int .i64 p] 58)) [⟨9, k, 1, p⟩] #[.int .i32 9, .int .i64 k, .int .i64 1, .int .i64 p] 58 rfl
    rwa [hs1] at this)
  clear h x1 x2 hs1 HM1
  go_enter Tryd.func42, Tryd.ntmps42
  go_wp2_with (at_builtin; go_loud (refine wpList_appK (enc := encC) cell_slt encC_len (by omega) rfl (.tmp 17) (.tmp 19) rfl rfl HOW.out (some ⟨w.heap.size + 1, 0, none⟩) 1 1 [⟨9, k, 1, p⟩] rfl HRW.out ⟨Nat.le_refl _, fun h => by cases h⟩ rfl (kfl_one' encC_one _) (by simp only [maxLen]; omega) (by omega) (by simp; omega) ?_; intro v5 w5 hown5 hg5 hn5))
  have HO5 := Lib.hid hown5
  have HB5 := Lib.hid (HX2.out.grown hg5 (by simp; omega) (fun k hk => (HOW.out.lt k hk).1))
  have HM5 := Lib.hid (HM2.out.grown hg5 hn5)
  have HG5 := Lib.hid (HG2.out.grown hg5 hn5)
  clear hown5 hg5 hn5 HX2 HM2 HRW HOW HG2
  generalize w.alloc (.cells #[.int .i32 9, .int .i64 k, .int .i64 1, .int .i64 p] 58) = w1 at *
  go_loopg [0, 23] q (fun g a i wr => ∃ (j : Nat) (u : Value), i = .int .i64 j ∧ j ≤ q ∧ q - j ≤ g ∧ u = a ∧ Hid (Below B w wr) ∧ Hid (Mid w.heap.size w1 wr u) ∧ Hid (Grow w wr v u) ∧ Hid (wr.ownsRow B 58 4 u (m + 1 + j) (kfl encC (o ++ ⟨9, k, 1, p⟩ :: List.replicate j ⟨32, 4, 1, p⟩))))
  case atStart => exact ⟨0, _, rfl, by omega, by omega, rfl, HB5, HM5, HG5, Lib.hid (by have := HO5.out; rw [← kfl_append] at this; exact this)⟩
  case round =>
    clear HB5 HM5 HO5 HG5
    obtain ⟨j, a, rfl, h1, h2, rfl, hb, hM, hG, hown⟩ := hrel
    have hR : RawAt 58 wr w.heap.size #[.int .i32 9, .int .i64 k, .int .i64 1, .int .i64 p] := (hM.out.mid w.heap.size (Nat.le_refl _) (by rw [HS1.out]; omega)).trans HR1.out
    have c3 := RawAt.cell hR 3
    simp at c3
    by_cases hlt : j < q
    · have i1 : (0 : Int) ≤ j := by omega
      have i2 : (j : Int) < q := by omega
      have x3 : Below wr.heap.size wr (wr.alloc (.cells #[.int .i32 32, .int .i64 4, .int .i64 1, .int .i64 p] 58)) := (Below.refl _ _).alloc (Nat.le_refl _) _
      have HOW := Lib.hid (own_below hown.out x3)
      have HM3 := Lib.hid (hM.out.below x3)
      have HG3 := Lib.hid (hG.out.below x3)
      have HBB := Lib.hid (show B ≤ wr.heap.size from Nat.le_trans hB hb.out.size)
      have HB3 := Lib.hid (hb.out.trans (x3.mono HBB.out))
      have HRW : Hid (RowsAt encC 4 (wr.alloc (.cells #[.int .i32 32, .int .i64 4, .int .i64 1, .int .i64 p] 58)) (some ⟨wr.heap.size, 0, none⟩) [⟨32, 4, 1, p⟩]) := Lib.hid (row_new encC_len wr [⟨32, 4, 1, p⟩] #[.int .i32 32, .int .i64 4, .int .i64 1, .int .i64 p] 58 rfl)
      clear hb hM hown hR x3 hG
      go_wp2_with (at_builtin; go_loud (refine wpList_appK (enc := encC) cell_slt encC_len (by omega) rfl (.tmp 25) (.tmp 29) rfl rfl HOW.out (some ⟨wr.heap.size, 0, none⟩) 1 1 [⟨32, 4, 1, p⟩] rfl HRW.out ⟨Nat.le_refl _, fun h => by cases h⟩ rfl (kfl_one' encC_one _) (by simp only [maxLen]; omega) (by omega) (by have := HBB.out; simp; omega) ?_; intro v5 w5 hown5 hg5 hn5))
      have HO5 := Lib.hid hown5
      have HB5 := Lib.hid (HB3.out.grown hg5 (by have := HBB.out; simp; omega) (fun k hk => (HOW.out.lt k hk).1))
      have HM5 := Lib.hid (HM3.out.grown hg5 hn5)
      have HG5 := Lib.hid (HG3.out.grown hg5 hn5)
      clear hown5 hg5 hn5
      go_roundg (gk - 1)
      case measure => omega
      case rel => exact ⟨j + 1, _, by go_num, by omega, by omega, rfl, HB5, HM5, HG5, Lib.hid (by have := HO5.out; rw [← kfl_append, List.append_assoc, List.cons_append, ← List.replicate_succ'] at this; exact this)⟩
    · obtain rfl : j = q := by omega
      have h5 := hown.out
      obtain ⟨A5, c5, rfl⟩ := own_form h5
      have H5 := Lib.hid h5
      clear h5 hown hM c3 hR
      go_wp2
      go_ret
      exact ⟨_, _, rfl, by rw [HP.out]; exact H5.out, hb.out, hG.out⟩
theorem cPut_any (B : Nat) (v : Value) (m : Nat) (o : List Cl) (c : Cl) (n : Int) (w : World) (h : w.ownsRow B 58 4 v m (kfl encC o)) (hB : B ≤ w.heap.size) (hm : m ≤ 1000000) (hr : c.r = 9 → 1 ≤ n ∧ n ≤ 16) :
    Calls Tryd.prog 42 #[v, .agg #[.int .i32 c.r, .int .i64 c.k, .int .i64 c.wd, .int .i64 c.p], .int .i64 n] w fun e w' => ∃ (m' : Nat) (v' : Value), e = .returned v' ∧ w'.ownsRow B 58 4 v' m' (kfl encC (o ++ putC c n)) ∧ Below B w w' ∧ Grow w w' v v' := by
  by_cases h9 : c.r = 9
  · exact cPut_tab B v m o c n w h hB hm h9 (hr h9).1 (hr h9).2
  · exact cPut_rune B v m o c n w h hB hm h9
end Go.Proofs.YtbalafgoengppaaDoor
