/- Wrap: each, and what it hands out. -/
import Derived.Test.YtnlhpbnonmdkdaaWrB
import Derived.Test.YtnlhpbnonmdkdaaBrW2
namespace Go.Proofs.Ytnlhpbnonmdkdaa
open Go.RowKit Go.Shelf
set_option linter.unusedVariables false
attribute [local go_sem] Oper.semAt_some
set_option maxHeartbeats 4000000 in
set_option maxRecDepth 100000 in
theorem wEach_in (n : Nat) (A : Option Addr) (m c : Nat) (a : Int) (w : World) :
    CallsIn Fence.wide n Try.prog 43 #[.slice A m c, .int .i64 a] w fun e w' => e = .returned (.func (.func 49) #[] #[.pointer (some ⟨w.heap.size, 0, none⟩), .pointer (some ⟨w.heap.size + 1, 0, none⟩)]) ∧
      w' = (w.alloc (.cells #[.slice A m c] 22)).alloc (.cells #[.int .i64 a] 3) := by
  refine callsIn_of_wp Try.func43 rfl trivial ?_ rfl
  simp only [Try.ntmps43, List.size_toArray, List.length_cons, List.length_nil, Nat.reduceAdd, Nat.reduceSub, Array.replicate_succ, Array.replicate_zero, List.push_toArray, List.append_toArray, List.nil_append, List.cons_append]
  gi_wp2
  go_ret
  exact ⟨rfl, rfl⟩
theorem headP_take {l : List Cl} {q : Nat} (h : 0 < q) : headP (l.take q) = headP l := by
  cases l with
  | nil => simp
  | cons x l =>
    obtain ⟨q, rfl⟩ : ∃ k, q = k + 1 := ⟨q - 1, by omega⟩
    rfl
theorem ints_kpm {W W' : World} {n₀ n₁ base n : Nat} {Mine : Nat → Obj → Prop} {v : Value} {xs : List Value} (h : W.ownsRow base 3 1 v n xs) (hb : n₁ ≤ base) (hk : KpM n₀ Mine W W') (hm : ∀ k cur, n₁ ≤ k → ¬ Mine k (.cells cur 3 (0, 0))) : W'.ownsRow base 3 1 v n xs := by
  refine ⟨h.1, ?_⟩
  rcases h.2 with g | ⟨g, cap, cur, e, hB, c, h3⟩
  · exact .inl g
  · exact .inr ⟨g, cap, cur, e, hB, hk.2 g _ c rfl (hm g cur (by omega)), h3⟩
set_option maxHeartbeats 8000000 in
set_option maxRecDepth 100000 in
theorem wEach1_in (n : Nat) (hn : 1 ≤ n) (lp B1 B2 n₁ : Nat) (A : Option Addr) (m c : Nat) (a : Int) (l : List Cl) (w0 : World) (hA : RowsAt encC 4 w0 A l) (hl : l.length = m) (hc : Caps A m c) (hm : m ≤ 900000) (hw : W02 l) (ha1 : 0 ≤ a) (ha2 : a ≤ 200)
    (Mine : Nat → Obj → Prop) (hMi : ∀ k cur, n₁ ≤ k → ¬ Mine k (.cells cur 3 (0, 0))) (J Jx : List Rw → World → Prop) (BJ : Nat) (hJ : AbidesFrom BJ J)
    (hY : ∀ pre x W, J pre W → pre.length < m + 1 → HdR x W → YieldAt Fence.wide (n - 1) Try.prog lp #[.slice x.1.A x.1.n x.1.c] W fun e W' =>
      (e = .returned (.bool true) ∧ J (pre ++ [x]) W' ∧ KpM w0.heap.size Mine W W') ∨ (e = .returned (.bool false) ∧ Jx (pre ++ [x]) W'))
    (W : World) (h0w : Below w0.heap.size w0 W) (hn1 : n₁ ≤ W.heap.size) (x1 : Boxed W B1 22 (.slice A m c)) (x2 : Boxed W B2 3 (.int .i64 a)) (h0 : J [] W) :
    CallsIn Fence.wide n Try.prog 49 #[.func (.yield lp) #[] #[], .pointer (some ⟨B1, 0, none⟩), .pointer (some ⟨B2, 0, none⟩)] W fun e W' => (∃ v, e = .returned v) ∧
      ((∃ ys, ys.map (·.2) = wrapN l a ∧ J ys W') ∨ (∃ pre, True ∧ Jx pre W')) := by
  have CH := Lib.hid fun (V : World) (hV : Below w0.heap.size w0 V) => wHang_any A m c l a V (hA.below hV) hl hc (by omega) hw
  have CS := Lib.hid fun (V : World) (hV : Below w0.heap.size w0 V) => wSizes_any A m c l a (hangN l a) V (hA.below hV) hl hc (by omega) hw ha1 ha2 rfl
  obtain ⟨hb1, hb2, _⟩ := hangN_bd hw a
  obtain ⟨h, hh⟩ : ∃ h : Nat, hangN l a = (h : Int) := ⟨(hangN l a).toNat, by omega⟩
  have HWR : Hid (wrapN l a = mkR h 0 l (wszs l a)) := Lib.hid (by unfold wrapN; rw [hh]; rfl)
  have hh8 : h ≤ 8 := by omega
  rw [hh] at CH CS
  obtain ⟨L, hL⟩ : ∃ L, wszs l a = L := ⟨_, rfl⟩
  have hsum := wszs_sum l a
  have hlen := wszs_len l a
  have hpos := wszs_pos (l := l) (w := a)
  rw [hL] at hsum hlen hpos HWR CS
  rw [hl] at hsum hlen
  have HSUM := Lib.hid hsum
  have HPOS := Lib.hid hpos
  clear hsum hpos hb1 hb2 hL hh
  obtain ⟨z, hz⟩ : ∃ z, L.length = z := ⟨_, rfl⟩
  have HZ := Lib.hid hz
  rw [hz] at hlen CS
  clear hz
  have c1 := x1.cell
  have c2 := x2.cell
  have X1 := Lib.hid x1
  have X2 := Lib.hid x2
  clear x1 x2
  refine callsIn_of_wp Try.func49 rfl trivial ?_ rfl
  simp only [Try.ntmps49, List.size_toArray, List.length_cons, List.length_nil, Nat.reduceAdd, Nat.reduceSub, Array.replicate_succ, Array.replicate_zero, List.push_toArray, List.append_toArray, List.nil_append, List.cons_append]
  have hmx : Try.prog.follows .mixedOrders = true := by kernel_rfl
  gi_wp2
  gi_region_with_o (refine ⟨trivial, ?_⟩; gi_at_call 30; refine (callsIn_wide.2 (CH.out _ (h0w.drew))).mono ?_; rintro e w' ⟨rfl, hb1⟩; have d1 := (Boxed.below X1.out (Below.trans (Below.drew (Below.refl W.heap.size W)) hb1) X1.out.lt).cell; have d2 := (Boxed.below X2.out (Below.trans (Below.drew (Below.refl W.heap.size W)) hb1) X2.out.lt).cell)
  all_goals
    have HB1 := Lib.hid (show Below W.heap.size W w' from Below.trans (Below.drew (Below.refl W.heap.size W)) hb1)
    have HW1 := Lib.hid (h0w.trans (HB1.out.mono h0w.size))
    clear hb1
    gi_wp2_with (refine ⟨trivial, ?_⟩; gi_at_call 50; refine (callsIn_wide.2 (CS.out _ HW1.out)).mono ?_; rintro e w2 ⟨v2, rfl, ho2, hb2⟩; obtain ⟨A2, c2', rfl, hI2, _, _⟩ := IntsAt.of_own (kd := .i64) ho2; have HO2 := Lib.hid ho2; have HB2 := Lib.hid (HB1.out.trans (hb2.mono HB1.out.size)); have HW2 := Lib.hid (HW1.out.trans (hb2.mono HW1.out.size)); have HS2 := Lib.hid hb2.size; clear hb2 ho2 hI2)
    gi_loopw [4, 6, 18] (fun p4 p6 p18 wr => ∃ (pre : List Rw) (k j i : Nat) (A' : Option Addr) (d c' : Nat), p4 = .slice A' d c' ∧ p6 = .int .i64 (i : Int) ∧ p18 = .int .i64 (j : Int) ∧ k + d = m ∧ j ≤ z ∧ pre.length = j ∧ i ≤ 8 ∧ Hid (0 < i → 0 < j) ∧ Hid ((L.drop j).sum = d) ∧ Hid (RowsAt encC 4 w0 A' (l.drop k)) ∧ Hid (Caps A' d c') ∧ Hid (pre.map (·.2) ++ mkR h i (l.drop k) (L.drop j) = mkR h 0 l L) ∧ Hid (J pre wr) ∧ Hid (Below w0.heap.size w0 wr) ∧ Hid (wr.ownsRow w'.heap.size 3 1 (.slice A2 z c2') z ((ofN L).map (.int .i64))))
      (fun _ _ p18 _ => z - (intOf p18).toNat)
    case atStart =>
      exact ⟨[], 0, 0, 0, A, m, c, rfl, rfl, rfl, by omega, by omega, rfl, by omega, Lib.hid (fun h => by omega), Lib.hid (by simpa using HSUM.out), Lib.hid (by simpa using hA), Lib.hid hc, Lib.hid (by simp), Lib.hid (abides_below hJ h0 HB2.out), HW2, HO2⟩
    case round =>
      obtain ⟨pre, k, j, i, A', d, c', rfl, rfl, rfl, e1, e2, e3, e4, HI, HSD, HR, HC, HM, HJ, HW, HO⟩ := hrel
      by_cases hlt : j < z
      · have hjL : j < L.length := by rw [HZ.out]; exact hlt
        obtain ⟨A9, c9, ea, hI9, _, _⟩ := IntsAt.of_own (kd := .i64) HO.out
        injection ea with ea1 ea2 ea3
        obtain ⟨bI, offI, rfl, hbI, di⟩ := ints_cell (ea1 ▸ hI9) hjL
        clear hI9 ea1 ea2 ea3
        have hdr := List.drop_eq_getElem_cons hjL
        have hqp : 0 < j → 0 < L[j] := fun h0 => HPOS.out _ (by
          rw [← List.drop_one]
          have : L[j] = (L.drop 1)[j - 1]'(by rw [List.length_drop]; omega) := by rw [List.getElem_drop]; congr 1; omega
          rw [this]
          exact List.getElem_mem _)
        obtain ⟨q, hq⟩ : ∃ q, L[j] = q := ⟨_, rfl⟩
        rw [hq] at di hdr hqp
        have hsd := HSD.out
        rw [hdr, List.sum_cons] at hsd
        have hqd : q ≤ d := by omega
        have hlk : (l.drop k).length = d := by rw [List.length_drop]; omega
        have hdk : (l.drop k).drop q = l.drop (k + q) := List.drop_drop
        have hmk := HM.out
        rw [hdr, mkR, hdk] at hmk
        have hq1 : ∀ V, (Instr.slice 22 (.slice A' d c') none (some (.int .i64 (q : Int))) none).run Try.prog V = .ok (.slice A' q c') V := fun V => cutK_hd cell_slt A' d c' q (by have := HC.out.1; omega) V
        have hq2 : ∀ V, (Instr.slice 22 (.slice A' d c') (some (.int .i64 (q : Int))) none none).run Try.prog V = .ok (.slice (cutK A' c' 4 q) (d - q) (c' - q)) V := fun V => cutK_tl cell_slt A' d c' q (by omega) V
        have hrt : RowsAt encC 4 w0 A' ((l.drop k).take q) := rows_takeC HR.out hlk HC.out.1 hqd
        have hrd : RowsAt encC 4 w0 (cutK A' c' 4 q) (l.drop (k + q)) := by
          have h2 := HR.out.cut hlk HC.out.1 (j := q) (m := d - q) (by omega)
          rw [hdk, List.take_of_length_le (by rw [List.length_drop]; omega)] at h2
          exact h2
        have hcc := cutK_caps (k := 4) HC.out (j := q) (m := d - q) (by omega)
        have hltk : ((l.drop k).take q).length = q := by rw [List.length_take, hlk]; omega
        have CHU := Lib.hid fun (V : World) (hV : Below w0.heap.size w0 V) => wHung_any A' q c' i ((l.drop k).take q) V (hrt.below hV) hltk ⟨by have := HC.out.1; omega, HC.out.2⟩ (by omega) (by omega) (fun h0 => hqp (HI.out h0))
        have hrow : List.replicate i (inC (headP ((l.drop k).take q))) ++ (l.drop k).take q = List.replicate i (inC (headP (l.drop k))) ++ (l.drop k).take q := by
          rcases Nat.eq_zero_or_pos i with g | g
          · subst g; rfl
          · rw [headP_take (hqp (HI.out g))]
        rw [hrow] at CHU
        have hwr : W02 (List.replicate i (inC (headP (l.drop k))) ++ (l.drop k).take q) := by
          intro x hx
          rcases List.mem_append.1 hx with g | g
          · rw [List.eq_of_mem_replicate g]; simp [inC]
          · exact (hw.drop k).take q x g
        obtain ⟨row, hrow2⟩ : ∃ row, List.replicate i (inC (headP (l.drop k))) ++ (l.drop k).take q = row := ⟨_, rfl⟩
        rw [hrow2] at CHU hmk hwr
        have hrl : row.length = i + q := by rw [← hrow2, List.length_append, List.length_replicate, hltk]
        have HRD := Lib.hid hrd
        have HCC := Lib.hid hcc
        have HMK := Lib.hid hmk
        have HWR2 := Lib.hid hwr
        have HRL := Lib.hid hrl
        have HSD2 : Hid ((L.drop (j + 1)).sum = d - q) := Lib.hid (by omega)
        have hpl : pre.length < m + 1 := by omega
        have u1 : (0 : Int) ≤ j := by omega
        have u2 : (j : Int) < z := by omega
        clear hsd hdr hqp hq hdk hmk hrt hrd hcc hltk hrow hrow2 hwr hrl HM HSD hlk
        gi_wp2_with (refine ⟨trivial, ?_⟩; gi_at_call 51; refine (callsIn_wide.2 (CHU.out _ HW.out)).mono ?_; rintro e w5 ⟨v5, rfl, ho5, hb5⟩; obtain ⟨A5, c5, rfl⟩ := own_form ho5; have HO5 := Lib.hid (own_base ho5 (Nat.zero_le _)); have HW5 := Lib.hid (HW.out.trans (hb5.mono HW.out.size)); have HJ5 := Lib.hid (abides_below hJ HJ.out hb5); have HOI5 := Lib.hid (own_below HO.out hb5); clear ho5 hb5; obtain ⟨fn, tmps, assign, body, hy, hR⟩ := hY pre (⟨A5, i + q, c5⟩, row) w5 HJ5.out hpl ⟨HO5.out, HWR2.out, by rw [HRL.out]; omega⟩; dsimp only at hy)
        refine hR.mono ?_
        rintro e W3 (⟨rfl, hJ3, hk3⟩ | ⟨rfl, hJx3⟩)
        · have HJ3 := Lib.hid hJ3
          have HW3 := Lib.hid (HW5.out.trans hk3.1)
          have HO3 := Lib.hid (ints_kpm HOI5.out (Nat.le_trans hn1 HB1.out.size) hk3 hMi)
          clear hJ3 hk3 hR hy
          gi_wp2
          go_roundw
          case rel => exact ⟨pre ++ [(⟨A5, i + q, c5⟩, row)], k + q, j + 1, h, _, d - q, c' - q, rfl, rfl, by go_num, by omega, by omega, by simp; omega, hh8, Lib.hid (fun _ => by omega), HSD2, HRD, HCC, Lib.hid (by rw [← HMK.out, List.map_append, List.append_assoc]; rfl), HJ3, HW3, HO3⟩
          case measure => simp [intOf]; omega
        · gi_wp2
          refine bodyPost_ret (results_none rfl _ _ _) rfl ?_
          exact ⟨⟨_, rfl⟩, .inr ⟨_, trivial, hJx3⟩⟩
      · obtain rfl : j = z := by omega
        have HE : Hid (pre.map (·.2) = wrapN l a) := Lib.hid (by
          have hmk := HM.out
          rw [show L.drop j = [] from List.drop_of_length_le (by rw [HZ.out]; omega), mkR, List.append_nil] at hmk
          rw [hmk, HWR.out])
        clear hlt
        gi_wp2
        go_end0
        exact ⟨⟨_, rfl⟩, .inl ⟨_, HE.out, HJ.out⟩⟩
end Go.Proofs.Ytnlhpbnonmdkdaa
