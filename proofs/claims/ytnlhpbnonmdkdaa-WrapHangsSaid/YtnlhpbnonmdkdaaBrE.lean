/- Breaks: rows, and what it hands out. -/
import Derived.Test.YtnlhpbnonmdkdaaBrD
import Derived.Test.YtnlhpbnonmdkdaaKpM
namespace Go.Proofs.Ytnlhpbnonmdkdaa
open Go.RowKit Go.Shelf
set_option linter.unusedVariables false
attribute [local go_sem] Oper.semAt_some
set_option maxHeartbeats 4000000 in
set_option maxRecDepth 100000 in
theorem bRows_in (n : Nat) (A : Option Addr) (m c : Nat) (a b : Int) (w : World) :
    CallsIn Fence.wide n Try.prog 40 #[.slice A m c, .int .i64 a, .int .i64 b] w fun e w' => e = .returned (.func (.func 47) #[] #[.pointer (some ⟨w.heap.size, 0, none⟩), .pointer (some ⟨w.heap.size + 1, 0, none⟩), .pointer (some ⟨w.heap.size + 2, 0, none⟩)]) ∧
      w' = ((w.alloc (.cells #[.slice A m c] 22)).alloc (.cells #[.int .i64 a] 3)).alloc (.cells #[.int .i64 b] 3) := by
  refine callsIn_of_wp Try.func40 rfl trivial ?_ rfl
  simp only [Try.ntmps40, List.size_toArray, List.length_cons, List.length_nil, Nat.reduceAdd, Nat.reduceSub, Array.replicate_succ, Array.replicate_zero, List.push_toArray, List.append_toArray, List.nil_append, List.cons_append]
  gi_wp2
  go_ret
  exact ⟨rfl, rfl⟩
def lenOf : Value → Nat | .slice _ n _ => n | _ => 0
set_option maxHeartbeats 4000000 in
set_option maxRecDepth 100000 in
theorem bRows1_in (n : Nat) (hn : 1 ≤ n) (lp B1 B2 B3 : Nat) (A : Option Addr) (m c : Nat) (a b : Int) (l : List Cl) (w0 : World) (hA : RowsAt encC 4 w0 A l) (hl : l.length = m) (hc : Caps A m c) (hm : m ≤ 1000000) (hw : W02 l)
    (Mine : Nat → Obj → Prop) (hMi : ∀ o, ¬ Mine B3 o) (J Jx : List Nat → World → Prop) (BJ : Nat) (hJ : AbidesFrom BJ J)
    (hY : ∀ pre x W, J pre W → pre.length < m + 1 → YieldAt Fence.wide (n - 1) Try.prog lp #[.int .i64 (x : Nat)] W fun e W' =>
      (e = .returned (.bool true) ∧ J (pre ++ [x]) W' ∧ KpM w0.heap.size Mine W W') ∨ (e = .returned (.bool false) ∧ Jx (pre ++ [x]) W'))
    (W : World) (h0w : Below w0.heap.size w0 W) (x1 : Boxed W B1 22 (.slice A m c)) (x2 : Boxed W B2 3 (.int .i64 a)) (x3 : Boxed W B3 3 (.int .i64 b)) (h0 : J [] W) :
    CallsIn Fence.wide n Try.prog 47 #[.func (.yield lp) #[] #[], .pointer (some ⟨B1, 0, none⟩), .pointer (some ⟨B2, 0, none⟩), .pointer (some ⟨B3, 0, none⟩)] W fun e W' => (∃ v, e = .returned v) ∧
      ((∃ ys, ys = allN l a b ∧ J ys W') ∨ (∃ pre, True ∧ Jx pre W')) := by
  have CW := Lib.hid fun (V : World) (hV : Below w0.heap.size w0 V) => cWidth_any A m c l V (hA.below hV) hl hm hw.wide
  have CO := Lib.hid fun (V : World) (hV : Below w0.heap.size w0 V) => bOpening A m c l a (wsum l) V (hA.below hV) hl hc hm hw rfl
  have c1 := x1.cell
  have X1 := Lib.hid x1
  have X2 := Lib.hid x2
  have X3 := Lib.hid x3
  clear x1 x2 x3
  refine callsIn_of_wp Try.func47 rfl trivial ?_ rfl
  simp only [Try.ntmps47, List.size_toArray, List.length_cons, List.length_nil, Nat.reduceAdd, Nat.reduceSub, Array.replicate_succ, Array.replicate_zero, List.push_toArray, List.append_toArray, List.nil_append, List.cons_append]
  have hmx : Try.prog.follows .mixedOrders = true := by kernel_rfl
  gi_wp2
  gi_region_with_o (refine ⟨trivial, ?_⟩; gi_at_call 36; refine (callsIn_wide.2 (CW.out _ (h0w.drew))).mono ?_; rintro e w' ⟨rfl, hb1⟩; have c2 := (Boxed.below X1.out (Below.trans (Below.drew (Below.refl W.heap.size W)) hb1) X1.out.lt).cell)
  all_goals
    have HB1 := Lib.hid (show Below W.heap.size W w' from Below.trans (Below.drew (Below.refl W.heap.size W)) hb1)
    have HW1 := Lib.hid (h0w.trans (HB1.out.mono h0w.size))
    have c2 := (Boxed.below X2.out HB1.out X2.out.lt).cell
    clear hb1
    gi_wp2_with (refine ⟨trivial, ?_⟩; gi_at_call 48; refine (callsIn_wide.2 (CO.out _ HW1.out)).mono ?_; rintro e w2 ⟨rfl, hb2⟩)
    have HB2 := Lib.hid (HB1.out.trans (hb2.mono HB1.out.size))
    have HW2 := Lib.hid (HW1.out.trans (hb2.mono HW1.out.size))
    clear hb2
    gi_loopw [5, 6, 7] (fun p5 p6 p7 wr => ∃ (pre : List Nat) (k : Nat) (A' : Option Addr) (d c' q : Nat) (s : Int), p5 = .slice A' d c' ∧ p6 = .int .i64 s ∧ p7 = .int .i64 q ∧ k + d = m ∧ q ≤ d ∧ (0 < d → 0 < q) ∧ pre.length ≤ k ∧ Hid (s = wsum (l.drop k)) ∧ Hid (RowsAt encC 4 w0 A' (l.drop k)) ∧ Hid (Caps A' d c') ∧ Hid (pre ++ q :: rsts (l.drop (k + q)) b = allN l a b) ∧ Hid (J pre wr) ∧ Hid (Below w0.heap.size w0 wr) ∧ Hid (Boxed wr B3 3 (.int .i64 b)))
      (fun p5 _ _ _ => lenOf p5)
    case atStart =>
      exact ⟨[], 0, A, m, c, opn l a, _, rfl, rfl, rfl, by omega, by have := opn_le l a; omega, fun h => opn_pos (by omega), by simp, Lib.hid (by simp), Lib.hid (by simpa using hA), Lib.hid hc, Lib.hid (by simp [allN]), Lib.hid (abides_below hJ h0 HB2.out), HW2, Lib.hid (Boxed.below X3.out HB2.out X3.out.lt)⟩
    case round =>
      obtain ⟨pre, k, A', d, c', q, s, rfl, rfl, rfl, e1, e2, e3, e4, HS, HR, HC, HN, HJ, HW, HX⟩ := hrel
      obtain ⟨fn, tmps, assign, body, hy, hR⟩ := hY pre q wr HJ.out (by omega)
      gi_wp2
      refine hR.mono ?_
      rintro e W3 (⟨rfl, hJ3, hk3⟩ | ⟨rfl, hJx3⟩)
      · have HJ3 := Lib.hid hJ3
        have HW3 := Lib.hid (HW.out.trans hk3.1)
        have HX3 := Lib.hid (hk3.box HX.out (hMi _))
        clear hJ3 hk3 hR hy
        by_cases hlt : q < d
        · have u1 : (q : Int) < d := by omega
          have hlk : (l.drop k).length = d := by rw [List.length_drop]; omega
          have hq1 : ∀ V, (Instr.slice 22 (.slice A' d c') none (some (.int .i64 (q : Int))) none).run Try.prog V = .ok (.slice A' q c') V := fun V => cutK_hd cell_slt A' d c' q (by have := HC.out.1; omega) V
          have hq2 : ∀ V, (Instr.slice 22 (.slice A' d c') (some (.int .i64 (q : Int))) none none).run Try.prog V = .ok (.slice (cutK A' c' 4 q) (d - q) (c' - q)) V := fun V => cutK_tl cell_slt A' d c' q (by omega) V
          have hrt : RowsAt encC 4 w0 A' ((l.drop k).take q) := by
            have h2 := HR.out.cut hlk HC.out.1 (j := 0) (m := q) (by omega)
            unfold cutK at h2
            split at h2
            · simpa using h2
            · cases A' <;> simpa [Addr.add] using h2
          have hrd : RowsAt encC 4 w0 (cutK A' c' 4 q) (l.drop (k + q)) := by
            have h2 := HR.out.cut hlk HC.out.1 (j := q) (m := d - q) (by omega)
            rw [List.drop_drop, List.take_of_length_le (by rw [List.length_drop]; omega)] at h2
            exact h2
          have hcc := cutK_caps (k := 4) HC.out (j := q) (m := d - q) (by omega)
          have hld : (l.drop (k + q)).length = d - q := by rw [List.length_drop]; omega
          have CW3 := Lib.hid fun (V : World) (hV : Below w0.heap.size w0 V) => cWidth_any A' q c' ((l.drop k).take q) V (hrt.below hV) (by rw [List.length_take, hlk]; omega) (by omega) ((hw.drop k).take q).wide
          have CT3 := Lib.hid fun (V : World) (hV : Below w0.heap.size w0 V) => bTakes_any (cutK A' c' 4 q) (d - q) (c' - q) (l.drop (k + q)) b (wsum (l.drop (k + q))) V (hrd.below hV) hld (by omega) (hw.drop (k + q)) rfl
          have hsp := wsum_split (l.drop k) q
          rw [← HS.out, List.drop_drop] at hsp
          have hs1 := ((hw.drop k).take q).sum
          rw [List.length_take, hlk] at hs1
          have hs2 := (hw.drop (k + q)).sum
          rw [hld] at hs2
          have HNX : Hid ((pre ++ [q]) ++ tak (l.drop (k + q)) b :: rsts (l.drop (k + q + tak (l.drop (k + q)) b)) b = allN l a b) := Lib.hid (by
            rw [← HN.out, rsts_step (l := l.drop (k + q)) (by omega), List.drop_drop, List.append_assoc]; rfl)
          have htl := tak_le (l.drop (k + q)) b
          rw [hld] at htl
          have htp := tak_pos (l := l.drop (k + q)) (r := b) (by omega)
          have HRD := Lib.hid hrd
          have HCC := Lib.hid hcc
          obtain ⟨t, ht⟩ : ∃ t, tak (l.drop (k + q)) b = t := ⟨_, rfl⟩
          rw [ht] at htl htp HNX
          have HT := Lib.hid ht
          have hs3 : s - wsum ((l.drop k).take q) = wsum (l.drop (k + q)) := by omega
          obtain ⟨s1, hs1e⟩ : ∃ s1, wsum ((l.drop k).take q) = s1 := ⟨_, rfl⟩
          obtain ⟨s2, hs2e⟩ : ∃ s2, wsum (l.drop (k + q)) = s2 := ⟨_, rfl⟩
          rw [hs1e] at hs1 hs3 CW3 hsp
          rw [hs2e] at hs2 hs3 CT3 hsp
          rw [ht] at CT3
          have HS2 := Lib.hid hs2e.symm
          obtain ⟨g1, g2⟩ := hs1
          obtain ⟨g3, g4⟩ := hs2
          have g5 : s1 ≤ 2000000 := by omega
          have g6 : s2 ≤ 2000000 := by omega
          have g7 : IntKind.i64.wrap (s - s1) = s2 := by rw [hs3]; exact IntWalk.i64_in _ (by omega)
          clear hrt hrd hcc hld hlk hs1e hs2e ht hsp hs3 HS
          gi_wp2_with (refine ⟨trivial, ?_⟩; first | (gi_at_call 36; refine (callsIn_wide.2 (CW3.out _ HW3.out)).mono ?_; rintro e w4 ⟨rfl, hb4⟩; have c3 := (Boxed.below HX3.out hb4 HX3.out.lt).cell; have HW4 := Lib.hid (HW3.out.trans (hb4.mono HW3.out.size)); have HJ4 := Lib.hid (abides_below hJ HJ3.out hb4); have HX4 := Lib.hid (Boxed.below HX3.out hb4 HX3.out.lt); clear hb4) | (gi_at_call 35; refine (callsIn_wide.2 (CT3.out _ HW4.out)).mono ?_; rintro e w5 ⟨rfl, hb5⟩; have HW5 := Lib.hid (HW4.out.trans (hb5.mono HW4.out.size)); have HJ5 := Lib.hid (abides_below hJ HJ4.out hb5); have HX5 := Lib.hid (Boxed.below HX4.out hb5 HX4.out.lt); clear hb5))
          go_roundw
          case rel => exact ⟨pre ++ [q], k + q, _, d - q, c' - q, t, s2, rfl, rfl, rfl, by omega, by omega, fun _ => htp, by simp; omega, HS2, HRD, HCC, HNX, HJ5, HW5, HX5⟩
          case measure => simp [lenOf]; omega
        · obtain rfl : q = d := by omega
          have HYS : Hid (pre ++ [q] = allN l a b) := Lib.hid (by
            rw [← HN.out, show l.drop (k + q) = [] from List.drop_of_length_le (by omega), rsts_nil])
          clear hlt
          gi_wp2
          go_end0
          exact ⟨⟨_, rfl⟩, .inl ⟨_, HYS.out, HJ3.out⟩⟩
      · gi_wp2
        go_end0
        exact ⟨⟨_, rfl⟩, .inr ⟨_, trivial, hJx3⟩⟩
end Go.Proofs.Ytnlhpbnonmdkdaa
