/- Breaks: All. -/
import Derived.Test.YtnlhpbnonmdkdaaBrE
namespace Go.Proofs.Ytnlhpbnonmdkdaa
open Go.RowKit Go.Shelf
set_option linter.unusedVariables false
attribute [local go_sem] Oper.semAt_some
/-- The blocks of one's own: a variable's box, and all from a number on. -/
def MineF (B n₁ : Nat) (k : Nat) (_ : Obj) : Prop := k = B ∨ n₁ ≤ k
theorem app_box {W w1 : World} {n₀ n₁ B : Nat} {t e : TypeId} {size : Nat} {v v' : Value} {k m : Nat} {xs ys : List Value} {tmp : Obj}
    (hv : Boxed W B t v) (hte : t ≠ e) (hrow : W.ownsRow n₁ e size v k xs) (h01 : n₀ ≤ B) (hB1 : B < n₁) (hn1 : n₁ ≤ W.heap.size)
    (hown' : w1.ownsRow n₁ e size v' m ys) (hgrow : (W.alloc tmp).grownBy w1 v.ownBlock) :
    Boxed w1 B t v ∧ Boxed (w1.setCell ⟨B, 0, none⟩ v') B t v' ∧ (w1.setCell ⟨B, 0, none⟩ v').ownsRow n₁ e size v' m ys ∧ KeepsOthers W (w1.setCell ⟨B, 0, none⟩ v') ∧ KpM n₀ (MineF B n₁) W (w1.setCell ⟨B, 0, none⟩ v') := by
  obtain ⟨h1, h2, h3, h4, h5⟩ := Boxed.appended (n₀ := n₀) hv hte (own_base hrow (by omega)) (by omega) h01 (own_base hown' (by omega)) hgrow
  refine ⟨h1, h2, hown'.kept (grownBy_setCell' w1 B v') (.inr (h1.not_row hte hown').symm), h4, h5, fun i o hi hc hm => ?_⟩
  have hlt : i < W.heap.size := (Array.getElem?_eq_some_iff.1 hi).1
  have hm1 : i ≠ B := fun e => hm (.inl e)
  have hm2 : ¬ n₁ ≤ i := fun e => hm (.inr e)
  have e1 : (w1.setCell ⟨B, 0, none⟩ v').heap[i]? = w1.heap[i]? := Below.heap_setCell _ _ _ _ hm1
  rw [e1, hgrow.block i (by simp; omega) (fun e => by
    have := (hrow.lt i e.symm).1
    omega), Below.heap_alloc _ _ _ hlt, hi]
theorem int_info : (Try.prog.info? 3).map (fun i => (i.zero, i.size, i.bytes)) = some (some (.int .i64 0), 1, 8) := by kernel_rfl
def ofN (l : List Nat) : List Int := l.map fun (x : Nat) => (x : Int)
theorem ofN_snoc (l : List Nat) (x : Nat) : ofN (l ++ [x]) = ofN l ++ [(x : Int)] := by simp [ofN]
theorem bRows_stops (n : Nat) (hn : 1 ≤ n) (B1 B2 B3 n₁ : Nat) (A : Option Addr) (m c : Nat) (a b : Int) (l : List Cl) (w0 w : World) (hA : RowsAt encC 4 w0 A l) (hl : l.length = m) (hc : Caps A m c) (hm : m ≤ 1000000) (hw : W02 l)
    (Mine : Nat → Obj → Prop) (hMi : ∀ o, ¬ Mine B3 o) (h0w : Below w0.heap.size w0 w) (x1 : Boxed w B1 22 (.slice A m c)) (x2 : Boxed w B2 3 (.int .i64 a)) (x3 : Boxed w B3 3 (.int .i64 b)) :
    SeqStopsK Fence.wide n Try.prog 47 #[.pointer (some ⟨B1, 0, none⟩), .pointer (some ⟨B2, 0, none⟩), .pointer (some ⟨B3, 0, none⟩)] (fun x : Nat => #[Value.int .i64 (x : Int)]) (KpM w0.heap.size Mine) (fun ys => ys = allN l a b) (fun _ => True) (m + 1) w :=
  fun lp J Jx W hW hJ _ hY h0 => bRows1_in n hn lp B1 B2 B3 A m c a b l w0 hA hl hc hm hw Mine hMi J Jx W.heap.size hJ hY W (h0w.trans (hW.mono h0w.size)) (Boxed.below x1 hW x1.lt) (Boxed.below x2 hW x2.lt) (Boxed.below x3 hW x3.lt) h0
set_option maxHeartbeats 4000000 in
set_option maxRecDepth 100000 in
theorem bAll (A : Option Addr) (m c : Nat) (a b : Int) (l : List Cl) (w : World) (hA : RowsAt encC 4 w A l) (hl : l.length = m) (hc : Caps A m c) (hm : m ≤ 1000000) (hw : W02 l) :
    Calls Try.prog 22 #[.slice A m c, .int .i64 a, .int .i64 b] w fun e w' => ∃ v, e = .returned v ∧ w'.ownsRow w.heap.size 3 1 v (allN l a b).length ((ofN (allN l a b)).map (.int .i64)) ∧ Below w.heap.size w w' := by
  refine (callsIn_wide (n := 5)).1 ?_
  obtain ⟨i0, hi, hz0, hz1, hz2⟩ := info_parts int_info
  refine callsIn_of_wp_marks Try.func22 rfl trivial ?_ rfl
  simp only [Try.ntmps22, List.size_toArray, List.length_cons, List.length_nil, Nat.reduceAdd, Nat.reduceSub, Array.replicate_succ, Array.replicate_zero, List.push_toArray, List.append_toArray, List.nil_append, List.cons_append]
  gi_wp2_with (refine ⟨trivial, ?_⟩; gi_at_call 40; refine (bRows_in _ _ _ _ _ _ _).mono ?_; rintro e w' ⟨rfl, rfl⟩)
  obtain ⟨w1, hw1⟩ : ∃ w1, w.alloc (.cells #[.slice none 0 0] 30) = w1 := ⟨_, rfl⟩
  have bO : Boxed w1 w.heap.size 30 (.slice none 0 0) := by rw [← hw1]; exact Boxed.new w _ _
  have q1 : Below w.heap.size w w1 := by rw [← hw1]; exact (Below.refl _ w).alloc (Nat.le_refl _) _
  have s1 : w1.heap.size = w.heap.size + 1 := by rw [← hw1]; simp
  rw [hw1]
  obtain ⟨w2, hw2⟩ : ∃ w2, w1.alloc (.cells #[.slice A m c] 22) = w2 := ⟨_, rfl⟩
  have bL : Boxed w2 w1.heap.size 22 (.slice A m c) := by rw [← hw2]; exact Boxed.new w1 _ _
  have q2 : Below w1.heap.size w1 w2 := by rw [← hw2]; exact (Below.refl _ w1).alloc (Nat.le_refl _) _
  have s2 : w2.heap.size = w.heap.size + 2 := by rw [← hw2]; simp; omega
  rw [hw2]
  obtain ⟨w3, hw3⟩ : ∃ w3, w2.alloc (.cells #[.int .i64 a] 3) = w3 := ⟨_, rfl⟩
  have bA : Boxed w3 w2.heap.size 3 (.int .i64 a) := by rw [← hw3]; exact Boxed.new w2 _ _
  have q3 : Below w2.heap.size w2 w3 := by rw [← hw3]; exact (Below.refl _ w2).alloc (Nat.le_refl _) _
  have s3 : w3.heap.size = w.heap.size + 3 := by rw [← hw3]; simp; omega
  rw [hw3]
  obtain ⟨w4, hw4⟩ : ∃ w4, w3.alloc (.cells #[.int .i64 b] 3) = w4 := ⟨_, rfl⟩
  have bB : Boxed w4 w3.heap.size 3 (.int .i64 b) := by rw [← hw4]; exact Boxed.new w3 _ _
  have q4 : Below w3.heap.size w3 w4 := by rw [← hw4]; exact (Below.refl _ w3).alloc (Nat.le_refl _) _
  have s4 : w4.heap.size = w.heap.size + 4 := by rw [← hw4]; simp; omega
  rw [hw4]
  rw [s1] at bL
  rw [s2] at bA
  rw [s3] at bB
  have y3 : Below w2.heap.size w2 w4 := q3.trans (q4.mono (by omega))
  have y2 : Below w1.heap.size w1 w4 := q2.trans (y3.mono (by omega))
  have y1 : Below w.heap.size w w4 := q1.trans (y2.mono (by omega))
  have bO4 : Boxed w4 w.heap.size 30 (.slice none 0 0) := Boxed.below bO y2 (by omega)
  have bL4 : Boxed w4 (w.heap.size + 1) 22 (.slice A m c) := Boxed.below bL y3 (by omega)
  have bA4 : Boxed w4 (w.heap.size + 2) 3 (.int .i64 a) := Boxed.below bA q4 (by omega)
  clear hw1 hw2 hw3 hw4 bO bL bA q1 q2 q3 q4 y2 y3 s1 s2 s3 w1 w2 w3
  refine wpIn_rangeFunc_ownG rfl (by omega) (gf := 47) (lb := #[.pointer (some ⟨w.heap.size + 1, 0, none⟩), .pointer (some ⟨w.heap.size + 2, 0, none⟩), .pointer (some ⟨w.heap.size + 3, 0, none⟩)]) rfl trivial (enters_of Try.func47 (by kernel_rfl) rfl)
    (bRows_stops _ (by omega) (w.heap.size + 1) (w.heap.size + 2) (w.heap.size + 3) (w.heap.size + 4) A m c a b l w w4 hA hl hc hm hw (MineF w.heap.size (w.heap.size + 4)) (fun o h => by rcases h with h | h <;> omega) y1 bL4 bA4 bB) (fun h k => KpM.trans h k) (fun W l o o' => KpM.put (by omega) W l o o') (Below.refl _ _) (fun _ => rfl)
    (fun pre W => (∃ v, Boxed W w.heap.size 30 v ∧ W.ownsRow (w.heap.size + 4) 3 1 v pre.length ((ofN pre).map (.int .i64)) ∧ True) ∧ Below w.heap.size w W ∧ w4.heap.size ≤ W.heap.size)
    (fun _ _ _ => False)
    (OwnFrom.and (Own.from (holdsRow_own (w.heap.size + 4) w.heap.size 30 3 1 (fun pre => pre.length) (fun pre => (ofN pre).map (.int .i64)) (fun pre v => True)) _) (OwnFrom.and (ownFrom_below (Nat.le_refl _) (by omega)) (fun s W W' row hs hg hr => Nat.le_trans hs hg.size)))
    (fun _ _ _ _ _ hs _ _ => hs)
    ⟨⟨_, bO4, World.ownsRow_nil _ _ _ _, trivial⟩, y1, Nat.le_refl _⟩
    (fun x => { tmps := #[.slice A m c, .int .i64 a, .int .i64 b, undef, undef, undef, .slice none 0 0, .pointer (some ⟨w.heap.size, 0, none⟩), .int .i64 (x : Int), .slice A m c, .int .i64 a, .int .i64 b, .func (.func 47) #[] #[.pointer (some ⟨w.heap.size + 1, 0, none⟩), .pointer (some ⟨w.heap.size + 2, 0, none⟩), .pointer (some ⟨w.heap.size + 3, 0, none⟩)], .int .i64 (x : Int), undef, undef, undef, undef, undef], defers := [] }) ?assign ?body ?done ?stop
  case assign =>
    intro l x W K hK
    gi_wp2
    exact hK
  case body =>
    rintro lp pre x W ⟨⟨v, hv, hrow, _⟩, hB, hsz⟩ hlt
    have hc1 := hv.cell
    gi_wp2_with (gi_at_builtin; refine wpListIn_append_own _ rfl _ _ 30 rfl (w.heap.size + 4) 3 i0 (.int .i64 0) 1 8 Try.underlying30 hi hz0 hz1 hz2 rfl (by decide) _ _ _ rfl (hrow.alloc _) ⟨W.heap.size, 0, none⟩ 1 1 [.int .i64 (x : Int)] rfl rfl (cell_one_new _ _ _) (by simp [Value.oneCell']) (by simp only [maxLen]; omega) (by omega) (by simp; omega) ?_; intro v' w1 hown' hgrow _; obtain ⟨g', cap', rfl⟩ := ownsRow_succ hown'; obtain ⟨hv1, hv2, hr2, hk2, hb2⟩ := app_box (n₀ := w.heap.size) hv (by decide) hrow (Nat.le_refl _) (by omega) (by omega) hown' hgrow; have hc2 := hv1.cell; have hf2 := hv1.frozen)
    exact ⟨hk2.from _, hb2, ⟨_, hv2, by rw [ofN_snoc]; simpa using hr2, trivial⟩, hB.trans hb2.1, Nat.le_trans hsz hb2.1.size⟩
  case done =>
    rintro D ys W hD rfl ⟨⟨v, hv, hrow, _⟩, hB, hsz⟩ hK
    have hc1 := hv.cell
    gi_wp2
    refine ⟨by simp, .inl ⟨_, _, rfl, run_takeDeferred hK, ?_⟩⟩
    exact ⟨_, results_tmp rfl _ _ _, v, rfl, own_base (ownsRow_putObj hrow _ hK rfl) (by omega), hB.trans (belowK_b (w := w) (Nat.le_refl _) W D _ _ (by omega) hK rfl rfl)⟩
  case stop =>
    rintro D c pre W _ _ h _
    exact h.elim
end Go.Proofs.Ytnlhpbnonmdkdaa
