/- Wrap: Count. -/
import Derived.Test.YtnlhpbnonmdkdaaWrD
namespace Go.Proofs.Ytnlhpbnonmdkdaa
open Go.RowKit Go.Shelf
set_option linter.unusedVariables false
attribute [local go_sem] Oper.semAt_some
/-- One's own: two variables' boxes. -/
def Mine2 (B B' : Nat) (t : TypeId) (k : Nat) (o : Obj) : Prop := (k = B ∨ k = B') ∧ ∃ cur, o = .cells cur t (0, 0)
set_option maxHeartbeats 4000000 in
set_option maxRecDepth 100000 in
theorem wCount_no (A : Option Addr) (m c : Nat) (a : Int) (w : World) (ha : ¬ (0 ≤ a ∧ a ≤ 200)) :
    Calls Try.prog 29 #[.slice A m c, .int .i64 a] w fun e w' => e = .returned (.tuple #[.int .i64 0, .int .i64 0, .int .i64 1]) ∧ Below w.heap.size w w' := by
  have CR := Lib.hid (wright_any a false (by simp; omega) w)
  clear ha
  go_enter Try.func29, Try.ntmps29
  go_wp2_with (go_at_call 42; refine (CR.out).mono ?_; rintro e w1 ⟨rfl, hb1⟩; have HB1 := Lib.hid hb1; clear hb1)
  refine bodyPost_ret (v := .tuple #[.int .i64 0, .int .i64 0, .int .i64 1]) (by simp [results, Try.results29, go_sem]) rfl ⟨rfl, HB1.out⟩
theorem boxed_keeps {W W' : World} {row : Option Nat} {B : Nat} {t : TypeId} {v : Value} (h : Boxed W B t v) (hg : W.grownBy W' row) (hr : ∀ k, row = some k → ∃ o : Obj, W.heap[k]? = some o ∧ o.isCells = false) : Boxed W' B t v := (grownBy_keeps_cells hg hr h rfl).trans h
theorem box_set {W : World} {B k : Nat} {t : TypeId} {u v : Value} (h : Boxed W k t u) (hne : k ≠ B) : Boxed (W.setCell ⟨B, 0, none⟩ v) k t u := (Below.heap_setCell _ _ _ _ hne).trans h
theorem kpm_set {W : World} {n₀ B B' : Nat} {t : TypeId} {u : Value} (h : Boxed W B t u) (hn : n₀ ≤ B) (v : Value) : KpM n₀ (Mine2 B B' t) W (W.setCell ⟨B, 0, none⟩ v) := by
  refine ⟨(Below.refl _ W).setCell (p := ⟨B, 0, none⟩) hn v, fun k o h1 h2 h3 => ?_⟩
  have hne : k ≠ B := fun e => h3 ⟨.inl e, by
    subst e
    rw [show W.heap[k]? = _ from h] at h1
    cases h1
    exact ⟨_, rfl⟩⟩
  exact (Below.heap_setCell _ _ _ _ hne).trans h1
theorem Mine2.swap {B B' : Nat} {t : TypeId} {n₀ : Nat} {W W' : World} (h : KpM n₀ (Mine2 B' B t) W W') : KpM n₀ (Mine2 B B' t) W W' := ⟨h.1, fun k o h1 h2 h3 => h.2 k o h1 h2 (fun g => h3 ⟨g.1.symm, g.2⟩)⟩
set_option maxHeartbeats 4000000 in
set_option maxRecDepth 100000 in
theorem wCount_yes (A : Option Addr) (m c : Nat) (a : Int) (l : List Cl) (w : World) (hA : RowsAt encC 4 w A l) (hl : l.length = m) (hc : Caps A m c) (hm : m ≤ 900000) (hw : W02 l) (ha1 : 0 ≤ a) (ha2 : a ≤ 200) :
    Calls Try.prog 29 #[.slice A m c, .int .i64 a] w fun e w' => e = .returned (.tuple #[.int .i64 ((wrapN l a).length : Int), .int .i64 (wmax (wrapN l a)), .int .i64 0]) ∧ Below w.heap.size w w' := by
  have CR := Lib.hid (wright_any a true (by simp; omega) w)
  refine (callsIn_wide (n := 5)).1 ?_
  refine callsIn_of_wp_marks Try.func29 rfl trivial ?_ rfl
  simp only [Try.ntmps29, List.size_toArray, List.length_cons, List.length_nil, Nat.reduceAdd, Nat.reduceSub, Array.replicate_succ, Array.replicate_zero, List.push_toArray, List.append_toArray, List.nil_append, List.cons_append]
  gi_wp2_with (refine ⟨trivial, ?_⟩; first | (gi_at_call 42; refine (callsIn_wide.2 CR.out).mono ?_; rintro e w0 ⟨rfl, hb0⟩) | (gi_at_call 43; refine (wEach_in _ _ _ _ _ _).mono ?_; rintro e w' ⟨rfl, rfl⟩))
  obtain ⟨w1, hw1⟩ : ∃ w1, w0.alloc (.cells #[.int .i64 0] 3) = w1 := ⟨_, rfl⟩
  have bO : Boxed w1 w0.heap.size 3 (.int .i64 0) := by rw [← hw1]; exact Boxed.new w0 _ _
  have q1 : Below w0.heap.size w0 w1 := by rw [← hw1]; exact (Below.refl _ w0).alloc (Nat.le_refl _) _
  have s1 : w1.heap.size = w0.heap.size + 1 := by rw [← hw1]; simp
  rw [hw1]
  obtain ⟨w3, hw3⟩ : ∃ w3, w1.alloc (.cells #[.int .i64 0] 3) = w3 := ⟨_, rfl⟩
  have bP : Boxed w3 w1.heap.size 3 (.int .i64 0) := by rw [← hw3]; exact Boxed.new w1 _ _
  have q2 : Below w1.heap.size w1 w3 := by rw [← hw3]; exact (Below.refl _ w1).alloc (Nat.le_refl _) _
  have s3 : w3.heap.size = w0.heap.size + 2 := by rw [← hw3]; simp; omega
  rw [hw3]
  obtain ⟨w2, hw2⟩ : ∃ w2, w3.alloc (.cells #[.slice A m c] 22) = w2 := ⟨_, rfl⟩
  have bL : Boxed w2 w3.heap.size 22 (.slice A m c) := by rw [← hw2]; exact Boxed.new w3 _ _
  have q3 : Below w3.heap.size w3 w2 := by rw [← hw2]; exact (Below.refl _ w3).alloc (Nat.le_refl _) _
  have s2 : w2.heap.size = w0.heap.size + 3 := by rw [← hw2]; simp; omega
  rw [hw2]
  obtain ⟨w4, hw4⟩ : ∃ w4, w2.alloc (.cells #[.int .i64 a] 3) = w4 := ⟨_, rfl⟩
  have bA : Boxed w4 w2.heap.size 3 (.int .i64 a) := by rw [← hw4]; exact Boxed.new w2 _ _
  have q4 : Below w2.heap.size w2 w4 := by rw [← hw4]; exact (Below.refl _ w2).alloc (Nat.le_refl _) _
  have s4 : w4.heap.size = w0.heap.size + 4 := by rw [← hw4]; simp; omega
  rw [hw4]
  rw [s1] at bP
  rw [s3] at bL
  rw [s2] at bA
  have y3 : Below w3.heap.size w3 w4 := q3.trans (q4.mono (by omega))
  have y2 : Below w1.heap.size w1 w4 := q2.trans (y3.mono (by omega))
  have y1 : Below w0.heap.size w0 w4 := q1.trans (y2.mono (by omega))
  have z1 : Below w.heap.size w w4 := hb0.trans (y1.mono hb0.size)
  have hsz0 := hb0.size
  have bO4 : Boxed w4 w0.heap.size 3 (.int .i64 0) := Boxed.below bO y2 (by omega)
  have bP4 : Boxed w4 (w0.heap.size + 1) 3 (.int .i64 0) := Boxed.below bP y3 (by omega)
  have bL4 : Boxed w4 (w0.heap.size + 2) 22 (.slice A m c) := Boxed.below bL q4 (by omega)
  clear hw1 hw2 hw3 hw4 bO bP bL q1 q2 q3 q4 y1 y2 y3 s1 s2 s3 w1 w2 w3
  refine wpIn_rangeFunc_hand rfl (by omega) (gf := 49) (lb := #[.pointer (some ⟨w0.heap.size + 2, 0, none⟩), .pointer (some ⟨w0.heap.size + 3, 0, none⟩)]) rfl trivial (enters_of Try.func49 (by kernel_rfl) rfl)
    (wEach_stops _ (by omega) (w0.heap.size + 2) (w0.heap.size + 3) (w0.heap.size + 4) A m c a l w w4 hA hl hc hm hw ha1 ha2 (Mine2 w0.heap.size (w0.heap.size + 1) 3) (fun k cur hk h => by have := h.1; omega) z1 (by omega) bL4 bA) HdR.put (fun h k => KpM.trans h k) (fun W l o o' => KpM.put (by omega) W l o o') (Below.refl _ _) (fun _ => rfl)
    (fun (pre : List Rw) W => (Boxed W w0.heap.size 3 (.int .i64 (pre.length : Int)) ∧ Boxed W (w0.heap.size + 1) 3 (.int .i64 (wmax (pre.map (·.2))))) ∧ Below w.heap.size w W ∧ w4.heap.size ≤ W.heap.size)
    (fun _ _ _ => False)
    (OwnFrom.and (fun s W W' row hs hg hr => ⟨boxed_keeps hs.1 hg (fun k e => (hr k e).2), boxed_keeps hs.2 hg (fun k e => (hr k e).2)⟩) (OwnFrom.and (ownFrom_below (Nat.le_refl _) (by omega)) (fun s W W' row hs hg hr => Nat.le_trans hs hg.size)))
    (fun _ _ _ _ _ hs _ _ => hs)
    ⟨⟨bO4, bP4⟩, z1, Nat.le_refl _⟩
    (fun x => { tmps := #[.slice A m c, .int .i64 a, undef, undef, .int .i64 0, .int .i64 0, .int .i64 0, .pointer (some ⟨w0.heap.size, 0, none⟩), .pointer (some ⟨w0.heap.size + 1, 0, none⟩), .slice x.1.A x.1.n x.1.c, .int .i64 a, .bool true, .bool false, .slice A m c, .int .i64 a, .func (.func 49) #[] #[.pointer (some ⟨w0.heap.size + 2, 0, none⟩), .pointer (some ⟨w0.heap.size + 3, 0, none⟩)], .slice x.1.A x.1.n x.1.c, undef, undef, undef, undef, undef, undef, undef, undef], defers := [] }) ?assign ?body ?done ?stop
  case assign =>
    intro l x W K hK
    gi_wp2
    exact hK
  case body =>
    rintro lp pre x W ⟨⟨b1, b2⟩, hB, hsz⟩ hlt hd
    have hmx : Try.prog.follows .mixedOrders = true := by kernel_rfl
    have c1 := b1.cell
    have f1 := b1.frozen
    have HD := Lib.hid hd
    have hpl : ((pre.length : Nat) : Int) < 1000002 := by omega
    have hpl0 : (0 : Int) ≤ ((pre.length : Nat) : Int) := by omega
    gi_wp2
    obtain ⟨W1, hW1⟩ : ∃ W1, W.setCell ⟨w0.heap.size, 0, none⟩ (.int .i64 ((pre.length : Int) + 1)) = W1 := ⟨_, rfl⟩
    have e1 : Boxed W1 w0.heap.size 3 (.int .i64 ((pre.length : Int) + 1)) := by rw [← hW1]; exact b1.set _
    have e2 : Boxed W1 (w0.heap.size + 1) 3 (.int .i64 (wmax (pre.map (·.2)))) := by rw [← hW1]; exact box_set b2 (by omega)
    have k1 : KpM w.heap.size (Mine2 w0.heap.size (w0.heap.size + 1) 3) W W1 := by rw [← hW1]; exact kpm_set b1 (by omega) _
    have k2 : KeepsOthers W W1 := by rw [← hW1]; exact KeepsOthers.setCell _ _ _
    have z3 : W.heap.size ≤ W1.heap.size := k1.1.size
    rw [hW1]
    have hrow : RowO W1 x.1 x.2 := HD.out.1.kpm k1 (fun k cur h => by obtain ⟨_, cur2, h⟩ := h; injection h with h1 h2; cases h2)
    have CW := Lib.hid fun (V : World) (hV : Below W1.heap.size W1 V) => cWidth_any x.1.A x.1.n x.1.c x.2 V (hrow.rows.below hV) hrow.len (by have := hrow.len; have := HD.out.2.2; omega) HD.out.2.1.wide
    obtain ⟨s, hs⟩ : ∃ s, wsum x.2 = s := ⟨_, rfl⟩
    obtain ⟨mx, hmxe⟩ : ∃ mx, wmax (pre.map (·.2)) = mx := ⟨_, rfl⟩
    rw [hs] at CW
    rw [hmxe] at e2
    have d2 := e2.cell
    have f2 := e2.frozen
    have E2 := Lib.hid e2
    have E1 := Lib.hid e1
    have hdr : Below W1.heap.size W1 W1.drew := (Below.refl _ _).drew
    have K1 := Lib.hid k1
    have K2 := Lib.hid k2
    have HS := Lib.hid hs
    have HMX := Lib.hid hmxe
    have HBB := Lib.hid hB
    clear hW1 c1 f1 b1 b2 hrow hd k1 k2 hs hmxe e1 e2 hA hc hw CR hB
    gi_region_with_o (refine ⟨trivial, ?_⟩; gi_at_call 36; refine (CallsIn.inRound lp (callsIn_wide.2 (CW.out _ hdr))).mono ?_; rintro e w5 ⟨rfl, hb5⟩; have hb6 := Below.trans hdr hb5; have d3 := (Boxed.below E2.out hb6 E2.out.lt).cell; have f3 := (Boxed.below E2.out hb6 E2.out.lt).frozen)
    all_goals
      have p2 := Boxed.below E2.out hb6 E2.out.lt
      have p1 := Boxed.below E1.out hb6 E1.out.lt
      have kk := (K1.out.trans (KpM.of_below hb6 (by have := HBB.out.size; omega))).trans (Mine2.swap (B := w0.heap.size) (kpm_set (B' := w0.heap.size) p2 (by omega) (.int .i64 (if mx < s then s else mx))))
      have g1 : KeepsOthers W (w5.setCell ⟨w0.heap.size + 1, 0, none⟩ (.int .i64 (if mx < s then s else mx))) := (K2.out.trans (KeepsOthers.of_grownBy (grown_none hb6) (fun j o e _ => by cases e))).trans (KeepsOthers.setCell _ _ _)
      have g2 := box_set (v := .int .i64 (if mx < s then s else mx)) p1 (B := w0.heap.size + 1) (by omega)
      have g3 := p2.set (.int .i64 (if mx < s then s else mx))
      have g4 : wmax ((pre ++ [x]).map (·.2)) = if mx < s then s else mx := by rw [List.map_append, List.map_cons, List.map_nil, wmax_snoc, HMX.out, HS.out]
      have g5 : (((pre ++ [x]).length : Nat) : Int) = (pre.length : Int) + 1 := by simp
      refine ⟨g1.from _, kk, ⟨?_, ?_⟩, HBB.out.trans kk.1, Nat.le_trans hsz kk.1.size⟩
      · rw [g5]; exact g2
      · rw [g4]; exact g3
  case done =>
    rintro D ys W hD hS ⟨⟨b1, b2⟩, hB, hsz⟩ hK
    have c1 := b1.cell
    have c2 := b2.cell
    gi_wp2
    have hln : ys.length = (wrapN l a).length := by rw [← hS, List.length_map]
    rw [hS] at c2
    gi_region
    all_goals gi_wp2
    all_goals
      refine ⟨by simp, .inl ⟨_, _, rfl, run_takeDeferred (b := D) (by exact hK), ?_⟩⟩
      exact ⟨_, results_tmp3 rfl _ _ _, by rw [← hln]; rfl, (hB.drew).trans (belowK_b (w := w) (Nat.le_refl _) W.drew D _ _ (by omega) hK rfl rfl)⟩
  case stop =>
    rintro D c pre W _ _ h _
    exact h.elim
end Go.Proofs.Ytnlhpbnonmdkdaa
