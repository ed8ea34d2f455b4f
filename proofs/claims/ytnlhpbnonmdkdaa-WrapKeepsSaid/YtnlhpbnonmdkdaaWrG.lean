/- The document's rows at width 0. -/
import Derived.Test.YtnlhpbnonmdkdaaWrF
namespace Go.Proofs.Ytnlhpbnonmdkdaa
open Go.RowKit
set_option linter.unusedVariables false
set_option maxHeartbeats 8000000 in
set_option maxRecDepth 100000 in
theorem rRows20_zero (A : Option Addr) (n c : Nat) (l : List Cl) (w : Int) (W : World) (hA : RowsAt encC 4 W A l) (hl : l.length = n) (hc : Caps A n c) (hn : n ≤ 900000) (hw : W02 l) (h200 : w ≤ 200) (hz : w = 0) :
    Calls Try.prog 33 #[.slice A n c, .int .i64 w] W fun e W' => ∃ (v : Value) (ss : List SlV), e = .returned v ∧ W'.ownsRow W.heap.size 22 1 v ss.length (kfl encS ss) ∧ RsAt W' ss (wrapN l w) ∧ Below W.heap.size W W' := by
  have CH := Lib.hid fun (V : World) (hV : Below W.heap.size W V) => rHang20_any A n c l w V (hA.below hV) hl hc (by omega) hw
  have k1 : decide (0 < w) = false := decide_eq_false (by omega)
  have hLe : wszs l w = [n] := by unfold wszs; rw [if_pos hz, hl]
  obtain ⟨hb1, hb2, _⟩ := hangN_bd hw w
  obtain ⟨h, hh⟩ : ∃ h : Nat, hangN l w = (h : Int) := ⟨(hangN l w).toNat, by omega⟩
  have HWR : Hid (wrapN l w = mkR h 0 l (wszs l w)) := Lib.hid (by unfold wrapN; rw [hh]; rfl)
  have hh8 : h ≤ 8 := by omega
  have hsum := wszs_sum l w
  have hlen := wszs_len l w
  have hpos := wszs_pos (l := l) (w := w)
  rw [hLe] at hsum hlen hpos HWR
  rw [hh] at CH
  obtain ⟨L, hL⟩ : ∃ L, [n] = L := ⟨_, rfl⟩
  rw [hL] at hsum hlen hpos HWR
  rw [hl] at hsum hlen
  have HSUM := Lib.hid hsum
  have HPOS := Lib.hid hpos
  obtain ⟨z, hz1⟩ : ∃ z, L.length = z := ⟨_, rfl⟩
  have HZ := Lib.hid hz1
  rw [hz1] at hlen
  have hz2 : z = 1 := by rw [← hz1, ← hL]; rfl
  have HA := Lib.hid hA
  have HL := Lib.hid hl
  have HC := Lib.hid hc
  have HLL := Lib.hid hL
  clear hsum hpos hb1 hb2 hL hh hLe hz1 hA hl hc hw hz
  have HB1 : Hid (Below W.heap.size W (W.alloc (.cells #[.int .i64 (n : Int)] 3))) := Lib.hid ((Below.refl _ _).alloc (Nat.le_refl _) _)
  have HI1 : Hid (IntsAt .i64 (W.alloc (.cells #[.int .i64 (n : Int)] 3)) (some ⟨W.heap.size, 0, none⟩) (ofN [n])) := Lib.hid (ints_of_rows (row_new (encN_len .i64) W [(n : Int)] #[.int .i64 (n : Int)] 3 rfl))
  go_enter Try.func33, Try.ntmps33
  go_wp2_with (go_at_call 31; refine (CH.out _ HB1.out).mono ?_; rintro e w2 ⟨rfl, hb2⟩; have HB2 := Lib.hid (HB1.out.trans (hb2.mono HB1.out.size)); have HI2 := Lib.hid (HI1.out.below hb2); clear hb2)
  rw [HLL.out] at HI2
  obtain rfl : z = 1 := hz2
  go_loopg [7, 8, 30] 1 (fun g p7 p8 p30 wr => ∃ (k j : Nat) (u : Value) (ss : List SlV) (rs : List (List Cl)), p7 = u ∧ p8 = .int .i64 (k : Int) ∧ p30 = .int .i64 (j : Int) ∧ k ≤ n ∧ j ≤ 1 ∧ 1 - j ≤ g ∧ ss.length = j ∧ Hid ((L.drop j).sum = n - k) ∧ Hid (rs ++ mkR h (if j = 0 then 0 else h) (l.drop k) (L.drop j) = mkR h 0 l L) ∧ Hid (RsAt wr ss rs) ∧ Hid (Below w2.heap.size w2 wr) ∧ Hid (wr.ownsRow w2.heap.size 22 1 u j (kfl encS ss)))
  case atStart => exact ⟨0, 0, _, [], [], rfl, rfl, rfl, by omega, by omega, by omega, rfl, Lib.hid (by simpa using HSUM.out), Lib.hid (by simp), Lib.hid trivial, Lib.hid (Below.refl _ _), Lib.hid (World.ownsRow_nil _ _ _ _)⟩
  case round =>
    obtain ⟨k, j, u, ss, rs, rfl, rfl, rfl, e1, e2, e3, e4, HSD, HM, HRS, HB, HO⟩ := hrel
    have HBW := Lib.hid (HB2.out.trans (HB.out.mono HB2.out.size))
    by_cases hlt : j < 1
    · obtain rfl : j = 0 := by omega
      have hjL : 0 < L.length := by rw [HZ.out]; exact hlt
      obtain ⟨bI, offI, hbe, hbI, di⟩ := ints_cell (HI2.out.below HB.out) hjL
      injection hbe with hbe; injection hbe with hb1 hb2; subst hb1; subst hb2; simp only [Nat.add_zero] at di
      have hdr := List.drop_eq_getElem_cons hjL
      have hqp : 0 < 0 → 0 < L[0] := fun h0 => HPOS.out _ (by
        rw [← List.drop_one]
        have : L[0] = (L.drop 1)[0 - 1]'(by rw [List.length_drop]; omega) := by rw [List.getElem_drop]; congr 1; omega
        rw [this]
        exact List.getElem_mem _)
      obtain ⟨q, hq⟩ : ∃ q, L[0] = q := ⟨_, rfl⟩
      rw [hq] at di hdr hqp
      have hsd := HSD.out
      rw [hdr, List.sum_cons] at hsd
      have hqd : k + q ≤ n := by omega
      have hdk : (l.drop k).drop q = l.drop (k + q) := List.drop_drop
      have hmk := HM.out
      rw [hdr, mkR, hdk] at hmk
      obtain ⟨p, hp⟩ : ∃ p, headP (l.drop k) = p := ⟨_, rfl⟩
      rw [hp] at hmk
      have HP := Lib.hid hp
      have HMK := Lib.hid hmk
      have HSD2 : Hid ((L.drop (0 + 1)).sum = n - (k + q)) := Lib.hid (by omega)
      have HQP := Lib.hid hqp
      have i1 : (0 : Int) ≤ 0 := by omega
      have i2 : (0 : Int) < 1 := by omega
      have HRA := Lib.hid fun (V : World) (hV : Below W.heap.size W V) => (HA.out.below hV).cut HL.out HC.out.1 (j := k) (m := q) hqd
      have HTK : Hid (((l.drop k).take q).length = q) := Lib.hid (by rw [List.length_take, List.length_drop, HL.out]; omega)
      have HCC := Lib.hid (cutK_caps (k := 4) HC.out (j := k) (m := q) hqd)
      have hsl : ∀ V, (Instr.slice 22 (.slice A n c) (some (.int .i64 (k : Int))) (some (.int .i64 ((k : Int) + (q : Int)))) none).run Try.prog V = .ok (.slice (cutK A c 4 k) q (c - k)) V := fun V => by
        have := cutK_run cell_slt A n c k (k + q) (by omega) (by have := HC.out.1; omega) V
        rw [show k + q - k = q by omega] at this
        rw [show ((k : Int) + (q : Int)) = ((k + q : Nat) : Int) by omega]
        exact this
      have HSL := Lib.hid hsl
      obtain ⟨i, hie⟩ : ∃ i, i = if 0 = 0 then 0 else h := ⟨_, rfl⟩
      have hi0 : 0 < i → 0 < 0 := fun g => by by_cases e : 0 = 0; rw [if_pos e] at hie; omega; omega
      have HIE := Lib.hid hie
      rw [← hie] at HMK
      have HI0 := Lib.hid hi0
      have hi8 : i ≤ 8 := by rw [hie]; split <;> omega
      have hij : i = 0 ∧ 0 = 0 ∨ 0 < 0 ∧ i = h := by by_cases e : 0 = 0; rw [if_pos e] at hie; exact .inl ⟨hie, e⟩; rw [if_neg e] at hie; exact .inr ⟨by omega, hie⟩
      have HIJ := Lib.hid hij
      clear hsd hdr hqp hq hdk hmk hp HM HSD hsl hie hi0 hij
      obtain ⟨gO, hgO⟩ : ∃ g, g = gk := ⟨_, rfl⟩
      obtain ⟨wO, hwO⟩ : ∃ x, x = wr := ⟨_, rfl⟩
      subst hgO
      subst hwO
      obtain ⟨Au, cu, rfl⟩ := own_form HO.out
      go_wp2_with fail
      go_loopg [11, 12] i (fun g p11 p12 wq => ∃ (y : Nat) (u : Value), p11 = u ∧ p12 = .int .i64 (y : Int) ∧ y ≤ i ∧ i - y ≤ g ∧ Hid (Below wO.heap.size wO wq) ∧ Hid (wq.ownsRow wO.heap.size 35 4 u y (kfl encC (List.replicate y (inC p)))))
      case atStart => exact ⟨0, _, rfl, rfl, by omega, by omega, Lib.hid (Below.refl _ _), Lib.hid (World.ownsRow_nil _ _ _ _)⟩
      case round =>
        obtain ⟨y, u, rfl, rfl, y1, y2, hbq, hoq⟩ := hrel
        have HBV := Lib.hid (HBW.out.trans (hbq.out.mono HBW.out.size))
        by_cases hy : y < i
        · exact absurd (HI0.out (by omega)) (by omega)
        · obtain rfl : y = i := by omega
          have HOQ := Lib.hid hoq.out
          have HBQ := Lib.hid hbq.out
          have HRQ := Lib.hid (HRA.out _ HBV.out)
          obtain ⟨A5, c5, rfl⟩ := own_form hoq.out
          clear hoq hbq
          have hsl := HSL.out
          rcases HIJ.out with ⟨rfl, _⟩ | ⟨hj0, _⟩
          · have kz : decide ((0 : Int) < 0) = false := by decide
            go_wp2_with (at_builtin; first | ((refine wpList_appK (enc := encC) cell_slt encC_len (by omega) rfl (.tmp 53) (.tmp 59) rfl rfl HOQ.out (cutK A c 4 k) q (c - k) ((l.drop k).take q) rfl HRQ.out HCC.out HTK.out (kfl_one' encC_one _) (by simp only [maxLen]; omega) (by omega) HBQ.out.size ?_; intro v5 w5 hown5 hg5 hn5; have HB5 := Lib.hid (HBQ.out.grown hg5 HBQ.out.size (fun k hk => (HOQ.out.lt k hk).1)); have HO5 := Lib.hid hown5; obtain ⟨A6, c6, rfl⟩ := own_form hown5; clear hown5 hg5 hn5; have HOO5 := Lib.hid (own_below HO.out HB5.out); have HRS5 := Lib.hid (RsAt.mono (fun s r h => RowO.below h HB5.out) HRS.out); have HRO5 : Hid (RowO w5 ⟨A6, q, c6⟩ (List.replicate 0 (inC p) ++ (l.drop k).take q)) := Lib.hid (by have h9 := own_base HO5.out (Nat.zero_le _); rw [← kfl_append] at h9; rw [Nat.zero_add] at h9; exact h9); have HB5b := Lib.hid (HB.out.trans (HB5.out.mono HB.out.size)); have x6 : Below w5.heap.size w5 (w5.alloc (.cells #[.slice A6 (q) c6] 22)) := (Below.refl _ _).alloc (Nat.le_refl _) _; have HOO6 := Lib.hid (own_below HOO5.out x6); have HRS6 := Lib.hid (RsAt.mono (fun s r h => RowO.below h x6) HRS5.out); have HRO6 := Lib.hid (RowO.below HRO5.out x6); have HB6 := Lib.hid (HB5b.out.trans (x6.mono HB5b.out.size)); have HSR : Hid (RowsAt encS 1 (w5.alloc (.cells #[.slice A6 (q) c6] 22)) (some ⟨w5.heap.size, 0, none⟩) [⟨A6, q, c6⟩]) := Lib.hid (row_new encS_len w5 [⟨A6, q, c6⟩] #[.slice A6 (q) c6] 22 rfl); clear x6)) | ((refine wpList_appK (enc := encS) rows_slt encS_len (by omega) rfl (.tmp 61) (.tmp 63) rfl rfl HOO6.out (some ⟨w5.heap.size, 0, none⟩) 1 1 [⟨A6, q, c6⟩] rfl HSR.out ⟨Nat.le_refl _, fun h => by cases h⟩ rfl (kfl_one' encS_one _) (by simp only [maxLen]; omega) (by omega) HB6.out.size ?_; intro v7 w7 hown7 hg7 hn7; have HB7 := Lib.hid (HB6.out.grown hg7 HB6.out.size (fun k hk => (HOO6.out.lt k hk).1)); have HO7 := Lib.hid hown7; have HRS7 := Lib.hid (RsAt.snoc (HRO6.out.grownT HOO6.out hg7) (RsAt.mono (fun s r h => h.grownT HOO6.out hg7) HRS6.out)); obtain ⟨A8, c8, rfl⟩ := own_form hown7; clear hown7 hg7 hn7)))
            go_roundg (gO - 1)
            case measure => omega
            case rel => exact ⟨k + q, 0 + 1, _, ss ++ [⟨A6, q, c6⟩], _, rfl, by go_num, by go_num, by omega, by omega, by omega, by rw [List.length_append, e4]; rfl, HSD2, Lib.hid (by rw [← HMK.out, if_neg (by omega), List.append_assoc]; rfl), HRS7, HB7, Lib.hid (by rw [kfl_append]; exact HO7.out)⟩
          · exact absurd hj0 (by omega)
    · obtain rfl : j = 1 := by omega
      have HE : Hid (rs = wrapN l w) := Lib.hid (by
        have hmk := HM.out
        rw [show L.drop 1 = [] from List.drop_of_length_le (by rw [HZ.out]; omega), mkR, List.append_nil] at hmk
        rw [hmk, HWR.out])
      obtain ⟨Au, cu, rfl⟩ := own_form HO.out
      have HO9 := Lib.hid HO.out
      clear HO hlt
      go_wp2
      go_ret
      exact ⟨_, ss, rfl, by rw [e4]; exact own_base HO9.out HB2.out.size, by rw [← HE.out]; exact HRS.out, HBW.out⟩
end Go.Proofs.Ytnlhpbnonmdkdaa
