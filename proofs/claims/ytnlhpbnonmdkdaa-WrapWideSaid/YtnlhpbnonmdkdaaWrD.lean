/- Wrap: Rows. -/
import Derived.Test.YtnlhpbnonmdkdaaWrC
namespace Go.Proofs.Ytnlhpbnonmdkdaa
open Go.RowKit Go.Shelf
set_option linter.unusedVariables false
attribute [local go_sem] Oper.semAt_some
/-- One's own: a variable's box; rows of one type from a number on. -/
def MineR (B : Nat) (t e : TypeId) (n₁ : Nat) (k : Nat) (o : Obj) : Prop := (k = B ∧ ∃ cur, o = .cells cur t (0, 0)) ∨ (n₁ ≤ k ∧ ∃ cur, o = .cells cur e (0, 0))
theorem app_boxR {W w1 : World} {n₀ n₁ B : Nat} {t e : TypeId} {size : Nat} {v v' : Value} {k m : Nat} {xs ys : List Value} {tmp : Obj}
    (hv : Boxed W B t v) (hte : t ≠ e) (hrow : W.ownsRow n₁ e size v k xs) (h01 : n₀ ≤ B) (hB1 : B < n₁) (hn1 : n₁ ≤ W.heap.size)
    (hown' : w1.ownsRow n₁ e size v' m ys) (hgrow : (W.alloc tmp).grownBy w1 v.ownBlock) :
    Boxed w1 B t v ∧ Boxed (w1.setCell ⟨B, 0, none⟩ v') B t v' ∧ (w1.setCell ⟨B, 0, none⟩ v').ownsRow n₁ e size v' m ys ∧ KeepsOthers W (w1.setCell ⟨B, 0, none⟩ v') ∧ KpM n₀ (MineR B t e n₁) W (w1.setCell ⟨B, 0, none⟩ v') := by
  obtain ⟨h1, h2, h3, h4, h5⟩ := Boxed.appended (n₀ := n₀) hv hte (own_base hrow (by omega)) (by omega) h01 (own_base hown' (by omega)) hgrow
  refine ⟨h1, h2, hown'.kept (grownBy_setCell' w1 B v') (.inr (h1.not_row hte hown').symm), h4, h5, fun i o hi hc hm => ?_⟩
  have hlt : i < W.heap.size := (Array.getElem?_eq_some_iff.1 hi).1
  have hm1 : i ≠ B := fun e => hm (.inl ⟨e, by
    subst e
    rw [show W.heap[i]? = _ from hv] at hi
    cases hi
    exact ⟨_, rfl⟩⟩)
  have e1 : (w1.setCell ⟨B, 0, none⟩ v').heap[i]? = w1.heap[i]? := Below.heap_setCell _ _ _ _ hm1
  rw [e1, hgrow.block i (by simp; omega) (fun e => by
    rcases hrow.2 with ⟨g, _⟩ | ⟨g, cap, cur, e', hb, hh, _⟩
    · subst g; cases e
    · subst e'
      simp only [Value.ownBlock, Option.some.injEq] at e
      subst e
      rw [hh] at hi
      cases hi
      exact hm (.inr ⟨hb, _, rfl⟩)), Below.heap_alloc _ _ _ hlt, hi]
theorem wEach_stops (n : Nat) (hn : 1 ≤ n) (B1 B2 n₁ : Nat) (A : Option Addr) (m c : Nat) (a : Int) (l : List Cl) (w0 w : World) (hA : RowsAt encC 4 w0 A l) (hl : l.length = m) (hc : Caps A m c) (hm : m ≤ 900000) (hw : W02 l) (ha1 : 0 ≤ a) (ha2 : a ≤ 200)
    (Mine : Nat → Obj → Prop) (hMi : ∀ k cur, n₁ ≤ k → ¬ Mine k (.cells cur 3 (0, 0))) (h0w : Below w0.heap.size w0 w) (hn1 : n₁ ≤ w.heap.size) (x1 : Boxed w B1 22 (.slice A m c)) (x2 : Boxed w B2 3 (.int .i64 a)) :
    SeqHand Fence.wide n Try.prog 49 #[.pointer (some ⟨B1, 0, none⟩), .pointer (some ⟨B2, 0, none⟩)] (fun x : Rw => #[.slice x.1.A x.1.n x.1.c]) HdR (KpM w0.heap.size Mine) (fun ys => ys.map (·.2) = wrapN l a) (fun _ => True) (m + 1) w :=
  fun lp J Jx W hW hJ _ hY h0 => wEach1_in n hn lp B1 B2 n₁ A m c a l w0 hA hl hc hm hw ha1 ha2 Mine hMi J Jx W.heap.size hJ hY W (h0w.trans (hW.mono h0w.size)) (Nat.le_trans hn1 hW.size) (Boxed.below x1 hW x1.lt) (Boxed.below x2 hW x2.lt) h0
set_option maxHeartbeats 4000000 in
set_option maxRecDepth 100000 in
theorem wRows_no (A : Option Addr) (m c : Nat) (a : Int) (w : World) (ha : ¬ (0 ≤ a ∧ a ≤ 200)) :
    Calls Try.prog 28 #[.slice A m c, .int .i64 a] w fun e w' => e = .returned (.tuple #[.slice none 0 0, .int .i64 1]) ∧ Below w.heap.size w w' := by
  have CR := Lib.hid (wright_any a false (by simp; omega) w)
  clear ha
  go_enter Try.func28, Try.ntmps28
  go_wp2_with (go_at_call 42; refine (CR.out).mono ?_; rintro e w1 ⟨rfl, hb1⟩; have HB1 := Lib.hid hb1; clear hb1)
  refine bodyPost_ret (v := .tuple #[.slice none 0 0, .int .i64 1]) (by simp [results, Try.results28, go_sem]) rfl ⟨rfl, HB1.out⟩
set_option maxHeartbeats 4000000 in
set_option maxRecDepth 100000 in
theorem wRows_yes (A : Option Addr) (m c : Nat) (a : Int) (l : List Cl) (w : World) (hA : RowsAt encC 4 w A l) (hl : l.length = m) (hc : Caps A m c) (hm : m ≤ 900000) (hw : W02 l) (ha1 : 0 ≤ a) (ha2 : a ≤ 200) :
    Calls Try.prog 28 #[.slice A m c, .int .i64 a] w fun e w' => ∃ (v : Value) (ss : List SlV), e = .returned (.tuple #[v, .int .i64 0]) ∧ w'.ownsRow w.heap.size 22 1 v ss.length (kfl encS ss) ∧ RsAt w' ss (wrapN l a) ∧ Below w.heap.size w w' := by
  have CR := Lib.hid (wright_any a true (by simp; omega) w)
  refine (callsIn_wide (n := 5)).1 ?_
  obtain ⟨i0, hi, hz0, hz1, hz2⟩ := info_parts rows_info
  refine callsIn_of_wp_marks Try.func28 rfl trivial ?_ rfl
  simp only [Try.ntmps28, List.size_toArray, List.length_cons, List.length_nil, Nat.reduceAdd, Nat.reduceSub, Array.replicate_succ, Array.replicate_zero, List.push_toArray, List.append_toArray, List.nil_append, List.cons_append]
  gi_wp2_with (refine ⟨trivial, ?_⟩; first | (gi_at_call 42; refine (callsIn_wide.2 CR.out).mono ?_; rintro e w0 ⟨rfl, hb0⟩) | (gi_at_call 43; refine (wEach_in _ _ _ _ _ _).mono ?_; rintro e w' ⟨rfl, rfl⟩))
  obtain ⟨w1, hw1⟩ : ∃ w1, w0.alloc (.cells #[.slice none 0 0] 38) = w1 := ⟨_, rfl⟩
  have bO : Boxed w1 w0.heap.size 38 (.slice none 0 0) := by rw [← hw1]; exact Boxed.new w0 _ _
  have q1 : Below w0.heap.size w0 w1 := by rw [← hw1]; exact (Below.refl _ w0).alloc (Nat.le_refl _) _
  have s1 : w1.heap.size = w0.heap.size + 1 := by rw [← hw1]; simp
  rw [hw1]
  obtain ⟨w2, hw2⟩ : ∃ w2, w1.alloc (.cells #[.slice A m c] 22) = w2 := ⟨_, rfl⟩
  have bL : Boxed w2 w1.heap.size 22 (.slice A m c) := by rw [← hw2]; exact Boxed.new w1 _ _
  have q2 : Below w1.heap.size w1 w2 := by rw [← hw2]; exact (Below.refl _ w1).alloc (Nat.le_refl _) _
  have s2 : w2.heap.size = w0.heap.size + 2 := by rw [← hw2]; simp; omega
  rw [hw2]
  obtain ⟨w4, hw4⟩ : ∃ w4, w2.alloc (.cells #[.int .i64 a] 3) = w4 := ⟨_, rfl⟩
  have bA : Boxed w4 w2.heap.size 3 (.int .i64 a) := by rw [← hw4]; exact Boxed.new w2 _ _
  have q3 : Below w2.heap.size w2 w4 := by rw [← hw4]; exact (Below.refl _ w2).alloc (Nat.le_refl _) _
  have s4 : w4.heap.size = w0.heap.size + 3 := by rw [← hw4]; simp; omega
  rw [hw4]
  rw [s1] at bL
  rw [s2] at bA
  have y2 : Below w1.heap.size w1 w4 := q2.trans (q3.mono (by omega))
  have y1 : Below w0.heap.size w0 w4 := q1.trans (y2.mono (by omega))
  have z1 : Below w.heap.size w w4 := hb0.trans (y1.mono hb0.size)
  have hsz0 := hb0.size
  have bO4 : Boxed w4 w0.heap.size 38 (.slice none 0 0) := Boxed.below bO y2 (by omega)
  have bL4 : Boxed w4 (w0.heap.size + 1) 22 (.slice A m c) := Boxed.below bL q3 (by omega)
  clear hw1 hw2 hw4 bO bL q1 q2 q3 y1 y2 s1 s2 w1 w2
  refine wpIn_rangeFunc_hand rfl (by omega) (gf := 49) (lb := #[.pointer (some ⟨w0.heap.size + 1, 0, none⟩), .pointer (some ⟨w0.heap.size + 2, 0, none⟩)]) rfl trivial (enters_of Try.func49 (by kernel_rfl) rfl)
    (wEach_stops _ (by omega) (w0.heap.size + 1) (w0.heap.size + 2) (w0.heap.size + 3) A m c a l w w4 hA hl hc hm hw ha1 ha2 (MineR w0.heap.size 38 22 (w0.heap.size + 3)) (fun k cur hk h => by
      rcases h with ⟨h, _⟩ | ⟨_, cur2, h⟩
      · omega
      · injection h with h1 h2; cases h2) z1 (by omega) bL4 bA) HdR.put (fun h k => KpM.trans h k) (fun W l o o' => KpM.put (by omega) W l o o') (Below.refl _ _) (fun _ => rfl)
    (fun pre W => (∃ v, Boxed W w0.heap.size 38 v ∧ W.ownsRow (w0.heap.size + 3) 22 1 v pre.length (kfl encS (pre.map (·.1))) ∧ True) ∧ RsAt W (pre.map (·.1)) (pre.map (·.2)) ∧ Below w.heap.size w W ∧ w4.heap.size ≤ W.heap.size)
    (fun _ _ _ => False)
    (OwnFrom.and (Own.from (holdsRow_own (w0.heap.size + 3) w0.heap.size 38 22 1 (fun pre => pre.length) (fun pre : List Rw => kfl encS (pre.map (·.1))) (fun pre v => True)) _) (OwnFrom.and (fun s W W' row hs hg hr => RsAt.mono (fun s r h => h.grown hg (fun k e => (hr k e).2)) hs) (OwnFrom.and (ownFrom_below (Nat.le_refl _) (by omega)) (fun s W W' row hs hg hr => Nat.le_trans hs hg.size))))
    (fun _ _ _ _ _ hs _ _ => hs)
    ⟨⟨_, bO4, World.ownsRow_nil _ _ _ _, trivial⟩, trivial, z1, Nat.le_refl _⟩
    (fun x => { tmps := #[.slice A m c, .int .i64 a, undef, undef, .slice none 0 0, .int .i64 0, .pointer (some ⟨w0.heap.size, 0, none⟩), .slice x.1.A x.1.n x.1.c, .int .i64 a, .bool true, .bool false, .slice A m c, .int .i64 a, .func (.func 49) #[] #[.pointer (some ⟨w0.heap.size + 1, 0, none⟩), .pointer (some ⟨w0.heap.size + 2, 0, none⟩)], .slice x.1.A x.1.n x.1.c, undef, undef, undef, undef, undef], defers := [] }) ?assign ?body ?done ?stop
  case assign =>
    intro l x W K hK
    gi_wp2
    exact hK
  case body =>
    rintro lp pre x W ⟨⟨v, hv, hrow, _⟩, hrs, hB, hsz⟩ hlt hd
    have hc1 := hv.cell
    gi_wp2_with (gi_at_builtin; refine wpListIn_append_own _ rfl _ _ 38 rfl (w0.heap.size + 3) 22 i0 (.slice none 0 0) 1 24 Try.underlying38 hi hz0 hz1 hz2 rfl (by decide) _ _ _ rfl (hrow.alloc _) ⟨W.heap.size, 0, none⟩ 1 1 [.slice x.1.A x.1.n x.1.c] rfl rfl (cell_one_new _ _ _) (by simp [Value.oneCell']) (by simp only [maxLen]; omega) (by omega) (by simp; omega) ?_; intro v' w1 hown' hgrow _; obtain ⟨g', cap', rfl⟩ := ownsRow_succ hown'; obtain ⟨hv1, hv2, hr2, hk2, hb2⟩ := app_boxR (n₀ := w.heap.size) hv (by decide) hrow (by omega) (by omega) (by omega) hown' hgrow; have hc2 := hv1.cell; have hf2 := hv1.frozen)
    have hmm : ∀ (k : Nat) (cur : Array Value), ¬ MineR w0.heap.size 38 22 (w0.heap.size + 3) k (.cells cur 35 (0, 0)) := fun k cur h => by
      rcases h with ⟨_, cur2, h⟩ | ⟨_, cur2, h⟩ <;> (injection h with h1 h2; cases h2)
    refine ⟨hk2.from _, hb2, ⟨_, hv2, ?_, trivial⟩, ?_, hB.trans hb2.1, Nat.le_trans hsz hb2.1.size⟩
    · rw [List.map_append, kfl_append, List.length_append]
      exact hr2
    · rw [List.map_append, List.map_append]
      exact RsAt.snoc (hd.1.kpm hb2 hmm) (RsAt.mono (fun s r h => h.kpm hb2 hmm) hrs)
  case done =>
    rintro D ys W hD hS ⟨⟨v, hv, hrow, _⟩, hrs, hB, hsz⟩ hK
    have hc1 := hv.cell
    gi_wp2
    refine ⟨by simp, .inl ⟨_, _, rfl, run_takeDeferred hK, ?_⟩⟩
    rw [← hS]
    exact ⟨_, results_tmp2 rfl _ _ _, v, ys.map (·.1), rfl, by rw [List.length_map]; exact own_base (ownsRow_putObj hrow _ hK rfl) (by omega), RsAt.mono (fun s r h => h.grown (grownBy_putObj' W D _) (fun k e => by cases e; exact ⟨_, hK, rfl⟩)) hrs, hB.trans (belowK_b (w := w) (Nat.le_refl _) W D _ _ (by omega) hK rfl rfl)⟩
  case stop =>
    rintro D c pre W _ _ h _
    exact h.elim
end Go.Proofs.Ytnlhpbnonmdkdaa
