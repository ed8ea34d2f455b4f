/- Patches: the contracts of the document's end and Compose. -/
import Derived.Test.YthbhjecfiiknaaaPtR
namespace Go.Proofs.Ythbhjecfiiknaaa
open Go.RowKit
set_option linter.unusedVariables false
theorem pend_last {l : List Ch} {k : Nat} (h : l.length = k + 1) : pend l = (cth l k).ob := by
  unfold pend
  rw [List.getLast?_eq_getElem?, h, Nat.add_sub_cancel]
  have hk : k < l.length := by omega
  rw [List.getElem?_eq_getElem hk]
  simp [cth, List.getD, hk]
set_option maxHeartbeats 4000000 in
set_option maxRecDepth 100000 in
theorem rend_any (A : Option Addr) (m cp : Nat) (l : List Ch) (w : World) (hA : ChsAt w A l) (hl : l.length = m) (hm : m ≤ 1000000) :
    Calls Try.prog 40 #[.slice A m cp] w fun e w' => e = .returned (.int .i64 (pend l)) ∧ Below w.heap.size w w' := by
  by_cases h0 : m = 0
  · subst h0
    have hl0 : l = [] := List.eq_nil_of_length_eq_zero hl
    subst hl0
    clear hA hl
    go_enter Try.func40, Try.ntmps40
    go_wp2
    go_ret
    exact ⟨rfl, Below.refl _ _⟩
  · obtain ⟨k, rfl⟩ : ∃ k, m = k + 1 := ⟨m - 1, by omega⟩
    obtain ⟨bA, off, rfl, hbA, d0, d1, d2, d3⟩ := hA.at1 (k := k) (by omega)
    rw [pend_last hl]
    clear hA hl
    generalize cth l k = c at *
    have hw : IntKind.i64.wrap (((k + 1 : Nat) : Int) - 1) = (k : Int) := by rw [show ((k + 1 : Nat) : Int) - 1 = (k : Int) from by omega]; exact IntWalk.i64_in _ (by omega)
    have hw' : IntKind.i64.wrap ((k : Int) + 1 - 1) = (k : Int) := by rw [show (k : Int) + 1 - 1 = (k : Int) from by omega]; exact IntWalk.i64_in _ (by omega)
    have hw'' : IntKind.i64.wrap (k : Int) = (k : Int) := IntWalk.i64_in _ (by omega)
    have i0 : (0 : Int) < (k : Int) + 1 := by omega
    have i1 : (k : Int) < (k : Int) + 1 := by omega
    have i2 : (0 : Int) ≤ (k : Int) := by omega
    have i3 : ((k : Int) + 1 == 0) = false := by simp; omega
    clear h0
    go_enter Try.func40, Try.ntmps40
    go_wp2
    go_ret
    exact ⟨rfl, Below.refl _ _⟩
theorem cmp_lenS (a b : List Ch) : (cmp LL a b).length ≤ a.length + b.length + 2 := by
  have h1 := chg_len 0 0 (inter (pcs LL 0 0 a) (pcs LL 0 0 b))
  have h2 := inter_len (pcs LL 0 0 a) (pcs LL 0 0 b)
  have h3 := pcs_len LL 0 0 a
  have h4 := pcs_len LL 0 0 b
  unfold cmp
  omega
theorem kp_small {B : Int} {l : List Ch} (h : nrm B 0 0 true l) (hB : 0 ≤ B) (at_ : Int) : kp 0 0 l at_ = -1 ∨ (at_ - B ≤ kp 0 0 l at_ ∧ kp 0 0 l at_ ≤ at_ + B) := by
  rcases kp_form h (Int.le_refl _) hB (Int.le_refl _) hB at_ with h | ⟨y, z, e1, e2, e3, e4, e5, _⟩
  · exact .inl h
  · exact .inr ⟨by omega, by omega⟩
set_option maxHeartbeats 8000000 in
set_option maxRecDepth 100000 in
theorem rCompose_any (A B : Option Addr) (n m ca cb : Nat) (a b : List Ch) (w : World) (hA : ChsAt w A a) (hBs : ChsAt w B b) (hl : a.length = n) (hm : b.length = m) (sa : SmP a) (sb : SmP b) :
    Calls Try.prog 23 #[.slice A n ca, .slice B m cb] w fun e w' => ∃ A' c', e = .returned (.slice A' (cmp LL a b).length c') ∧ ChsAt w' A' (cmp LL a b) ∧ Below w.heap.size w w' := by
  have hn60 : n ≤ 60 := by have := sa.1; omega
  have hm60 : m ≤ 60 := by have := sb.1; omega
  have CE1 := Lib.hid (rend_any A n ca a w hA hl (by omega))
  have CE2 := Lib.hid fun (W : World) (hW : Below w.heap.size w W) => rend_any B m cb b W (hBs.below hW) hm (by omega)
  have CKA := Lib.hid fun (x : Int) (W : World) (hW : Below w.heap.size w W) (h0 : -10000000000000 ≤ x) (h1 : x ≤ 10000000000000) => rKept_any A n ca a x W (hA.below hW) hl (by omega) (nrm_mem sa.2.1) h0 h1
  have CKB := Lib.hid fun (x : Int) (W : World) (hW : Below w.heap.size w W) (h0 : -10000000000000 ≤ x) (h1 : x ≤ 10000000000000) => rKept_any B m cb b x W (hBs.below hW) hm (by omega) (nrm_mem sb.2.1) h0 h1
  have hC := cmp_nrm (M := 2000) (L := LL) (by decide) (by decide) sa.nrm sb.nrm
  have HKP := Lib.hid fun (x : Int) (h0 : 0 ≤ x) (h1 : x ≤ 100000) => cmp_kp (B := 2000) (L := LL) (by decide) (by decide) sa.nrm sb.nrm h0 h1
  have HSA := Lib.hid fun x => kp_small sa.nrm (by decide) x
  have HSB := Lib.hid fun x => kp_small sb.nrm (by decide) x
  have HEND := Lib.hid (cmp_end (L := LL) (show (0 : Int) ≤ M40 by decide) sa.2.1 sb.2.1)
  have HLEN := Lib.hid (show (cmp LL a b).length ≤ 1000 from by have := cmp_lenS a b; omega)
  obtain ⟨pa0, pa1⟩ := pend_bd sa.2.1
  obtain ⟨pb0, pb1⟩ := pend_bd sb.2.1
  have pa2 : pend a ≤ 2000 := by
    by_cases h : a = []
    · subst h; decide
    · have h2 : 0 < a.length := by have := List.length_pos_iff.2 h; omega
      rw [pend_last (k := a.length - 1) (by omega)]
      exact (sa.2.2 _ (cth_mem (by omega))).1
  have pb2 : pend b ≤ 2000 := by
    by_cases h : b = []
    · subst h; decide
    · have h2 : 0 < b.length := by have := List.length_pos_iff.2 h; omega
      rw [pend_last (k := b.length - 1) (by omega)]
      exact (sb.2.2 _ (cth_mem (by omega))).1
  have H0 := Lib.hid (dst_start hC)
  obtain ⟨N, hN⟩ : ∃ N : Nat, (N : Int) = pend a + pend b + 1 := ⟨(pend a + pend b + 1).toNat, by omega⟩
  have hN2 : N ≤ 4001 := by omega
  have w1 : IntKind.i64.wrap (pend a + pend b) = pend a + pend b := IntWalk.i64_in _ (by omega)
  have w2 : IntKind.i64.wrap (pend a + pend b + 1) = (N : Int) := by rw [← hN]; exact IntWalk.i64_in _ (by omega)
  have HEN := Lib.hid (fun c hc => (by have := HEND.out c hc; omega : c.ob < (N : Int)) : ∀ c ∈ cmp LL a b, c.ob < (N : Int))
  clear hA hBs hl hm sa sb hC pa0 pa1 pb0 pb1 pa2 pb2 HEND hN
  generalize pend a = ea at *
  generalize pend b = eb at *
  generalize cmp LL a b = C at *
  obtain ⟨i0, hi0, hz0, hz1, hz2⟩ := info_parts rchange_info
  go_enter Try.func23, Try.ntmps23
  go_wp2_with fail
  with_reducible refine CE1.out.mono ?_
  rintro e w3 ⟨rfl, hb3⟩
  go_wp2_with fail
  with_reducible refine (CE2.out _ hb3).mono ?_
  rintro e w4 ⟨rfl, hb4⟩
  have q4 := hb3.trans (hb4.mono hb3.size)
  clear CE1 CE2 hb3 hb4
  go_wp2_with fail
  go_loopg [5, 6, 7, 9] (N + 1) (fun g v was now i wr => ∃ (j i0 : Nat) (x y : Int), i = .int .i64 j ∧ j ≤ N + 1 ∧ N + 1 - j ≤ g ∧ was = .int .i64 x ∧ now = .int .i64 y ∧ 0 ≤ y ∧ y ≤ 100000 ∧ Below w.heap.size w wr ∧ i0 ≤ C.length ∧ Hid (DSt C j x y (C.drop i0)) ∧ Hid (wr.ownsRow w.heap.size 57 4 v i0 (cflat (C.take i0))))
  case atStart => exact ⟨0, 0, 0, 0, rfl, by omega, by omega, rfl, rfl, by omega, by omega, q4, Nat.zero_le _, Lib.hid (by simpa using H0.out), Lib.hid (World.ownsRow_nil _ _ _ _)⟩
  case round =>
    obtain ⟨j, i1, x, y, rfl, j1, j2, rfl, rfl, y0, y1, hb, hi1, hD, hown⟩ := hrel
    clear H0 q4
    by_cases hle : j ≤ N
    · have k0 : decide ((j : Int) ≤ (N : Int)) = true := decide_eq_true (by omega)
      have hstep := dst_step hD.out y0 (show (0 : Int) ≤ (j : Int) by omega)
      rw [HKP.out j (by omega) (by omega)] at hstep
      have hka := HSA.out (j : Int)
      have CA := Lib.hid (CKA.out (j : Int) wr hb (by omega) (by omega))
      have wj : IntKind.i64.wrap ((j : Int) + 1) = (j : Int) + 1 := IntWalk.i64_in _ (by omega)
      clear HKP HSA CKA hD
      generalize hkaE : kp 0 0 a (j : Int) = ka at *
      clear hkaE
      by_cases ga : ka < 0
      · have k1 : decide (0 ≤ ka) = false := decide_eq_false (by omega)
        have k2 : decide (ka < 0) = true := decide_eq_true ga
        rw [if_pos ga] at hstep
        have HD2 : Hid (DSt C ((j + 1 : Nat) : Int) x y (C.drop i1)) := by
          rcases hstep with ⟨_, h⟩ | ⟨h, _⟩ | ⟨h, _⟩
          · exact h
          · exact absurd h (by decide)
          · exact absurd h (by decide)
        clear hstep hka CKB HSB HEN HLEN
        go_wp2_with fail
        with_reducible refine CA.out.mono ?_
        rintro e w5 ⟨rfl, hb5⟩
        have q5 := hb.trans (hb5.mono hb.size)
        have HO5 := Lib.hid (own_below hown.out hb5)
        clear hown
        go_wp2
        go_roundg (gk - 1)
        case measure => omega
        case rel => exact ⟨j + 1, i1, x, y, by go_num, by omega, by omega, rfl, rfl, y0, y1, q5, hi1, HD2, HO5⟩
      · have k1 : decide (0 ≤ ka) = true := decide_eq_true (by omega)
        rw [if_neg ga] at hstep
        have hkb := HSB.out ka
        have CB := Lib.hid fun (W : World) (hW : Below w.heap.size w W) => CKB.out ka W hW (by omega) (by omega)
        clear CKB HSB
        generalize hkbE : kp 0 0 b ka = kb at *
        clear hkbE
        by_cases gb : kb < 0
        · have k2 : decide (kb < 0) = true := decide_eq_true gb
          have HD2 : Hid (DSt C ((j + 1 : Nat) : Int) x y (C.drop i1)) := by
            rcases hstep with ⟨_, h⟩ | ⟨h, _⟩ | ⟨h, _⟩
            · exact h
            · omega
            · omega
          clear hstep hka hkb HEN HLEN
          go_wp2_with fail
          with_reducible refine CA.out.mono ?_
          rintro e w5 ⟨rfl, hb5⟩
          have q5 := hb.trans (hb5.mono hb.size)
          have HO5 := own_below hown.out hb5
          go_wp2_with fail
          with_reducible refine (CB.out _ q5).mono ?_
          rintro e w6 ⟨rfl, hb6⟩
          have q6 := q5.trans (hb6.mono q5.size)
          have HO6 := Lib.hid (own_below HO5 hb6)
          clear hown HO5
          go_wp2
          go_roundg (gk - 1)
          case measure => omega
          case rel => exact ⟨j + 1, i1, x, y, by go_num, by omega, by omega, rfl, rfl, y0, y1, q6, hi1, HD2, HO6⟩
        · have k2 : decide (kb < 0) = false := decide_eq_false gb
          have wk : IntKind.i64.wrap (kb + 1) = kb + 1 := IntWalk.i64_in _ (by omega)
          have kbb : kb ≤ 90000 := by omega
          rcases hstep with ⟨h, _⟩ | ⟨_, hx, hy, hD2⟩ | ⟨_, hxy, rem', hrem, hD2⟩
          · omega
          · subst hx
            subst hy
            have k3 : decide ((j : Int) < (j : Int)) = false := decide_eq_false (by omega)
            have k4 : decide (y < y) = false := decide_eq_false (by omega)
            have HD2 : Hid (DSt C ((j + 1 : Nat) : Int) ((j : Int) + 1) (y + 1) (C.drop i1)) := hD2
            clear hD2 hka hkb HEN HLEN
            go_wp2_with fail
            with_reducible refine CA.out.mono ?_
            rintro e w5 ⟨rfl, hb5⟩
            have q5 := hb.trans (hb5.mono hb.size)
            have HO5 := own_below hown.out hb5
            go_wp2_with fail
            with_reducible refine (CB.out _ q5).mono ?_
            rintro e w6 ⟨rfl, hb6⟩
            have q6 := q5.trans (hb6.mono q5.size)
            have HO6 := Lib.hid (own_below HO5 hb6)
            clear hown HO5
            go_wp2
            go_roundg (gk - 1)
            case measure => omega
            case rel => exact ⟨j + 1, i1, (j : Int) + 1, y + 1, by go_num, by omega, by omega, rfl, rfl, by omega, by omega, q6, hi1, HD2, HO6⟩
          · have hi2 : i1 < C.length := by
              rcases Nat.lt_or_ge i1 C.length with h | h
              · exact h
              · rw [List.drop_of_length_le h] at hrem; cases hrem
            have M1 : i1 + 1 ≤ C.length := hi2
            rw [cth_drop hi2] at hrem
            obtain ⟨hc, hr⟩ := List.cons.inj hrem
            have HSF := Lib.hid (show cflat (C.take (i1 + 1)) = cflat (C.take i1) ++ [.int .i64 x, .int .i64 (j : Int), .int .i64 y, .int .i64 kb] from by rw [cth_take hi2, cflat_append, hc]; rfl)
            rw [← hr] at hD2
            have HD2 : Hid (DSt C ((j + 1 : Nat) : Int) ((j : Int) + 1) (kb + 1) (C.drop (i1 + 1))) := hD2
            have hlc : i1 ≤ 1000 := by have := HLEN.out; omega
            clear hD2 hrem hc hr hka hkb HEN HLEN
            by_cases gx : x < (j : Int)
            · have k3 : decide (x < (j : Int)) = true := decide_eq_true gx
              clear hxy
              go_wp2_with fail
              with_reducible refine CA.out.mono ?_
              rintro e w5 ⟨rfl, hb5⟩
              have q5 := hb.trans (hb5.mono hb.size)
              have HO5 := own_below hown.out hb5
              go_wp2_with fail
              with_reducible refine (CB.out _ q5).mono ?_
              rintro e w6 ⟨rfl, hb6⟩
              have q6 := q5.trans (hb6.mono q5.size)
              have HO6 := Lib.hid (own_below HO5 hb6)
              clear hown HO5
              have hlt6 := HO6.out.lt
              have hsz6 := q6.size
              go_wp2_with (at_builtin; refine wpList_append_own _ rfl (.tmp 40) (.tmp 48) _ rfl w.heap.size 57 i0 _ 4 32 Try.underlying25 hi0 hz0 hz1 hz2 rfl (by omega) _ i1 (cflat (C.take i1)) rfl (HO6.out.alloc _) ⟨w6.heap.size, 0, none⟩ 1 1 [.int .i64 x, .int .i64 (j : Int), .int .i64 y, .int .i64 kb] rfl rfl (World.news_of_block (cs := #[.int .i64 x, .int .i64 (j : Int), .int .i64 y, .int .i64 kb]) (t := 57) (fr := (0, 0)) (heap_alloc_new w6 _)) (by simp [Value.oneCell']) (by simp only [maxLen]; omega) (by omega) (by simp; omega) ?_; intro v9 w9 hown9 hg9 hnil9; clear hnil9)
              have hb9 : Below w.heap.size w w9 := (q6.alloc q6.size (.cells #[.int .i64 x, .int .i64 (j : Int), .int .i64 y, .int .i64 kb] 57)).grown hg9 (by simp; omega) (fun k hk => (hlt6 k hk).1)
              have HO9 := Lib.hid hown9
              clear hown9 hg9
              go_wp2
              go_roundg (gk - 1)
              case measure => omega
              case rel => exact ⟨j + 1, i1 + 1, (j : Int) + 1, kb + 1, by go_num, by omega, by omega, by first | rfl | (simp; done), rfl, by omega, by omega, hb9, M1, HD2, Lib.hid (by rw [HSF.out]; exact HO9.out)⟩
            · have k3 : decide (x < (j : Int)) = false := decide_eq_false gx
              have gy : y < kb := by omega
              have k4 : decide (y < kb) = true := decide_eq_true gy
              clear hxy
              go_wp2_with fail
              with_reducible refine CA.out.mono ?_
              rintro e w5 ⟨rfl, hb5⟩
              have q5 := hb.trans (hb5.mono hb.size)
              have HO5 := own_below hown.out hb5
              go_wp2_with fail
              with_reducible refine (CB.out _ q5).mono ?_
              rintro e w6 ⟨rfl, hb6⟩
              have q6 := q5.trans (hb6.mono q5.size)
              have HO6 := Lib.hid (own_below HO5 hb6)
              clear hown HO5
              have hlt6 := HO6.out.lt
              have hsz6 := q6.size
              go_wp2_with (at_builtin; refine wpList_append_own _ rfl (.tmp 40) (.tmp 48) _ rfl w.heap.size 57 i0 _ 4 32 Try.underlying25 hi0 hz0 hz1 hz2 rfl (by omega) _ i1 (cflat (C.take i1)) rfl (HO6.out.alloc _) ⟨w6.heap.size, 0, none⟩ 1 1 [.int .i64 x, .int .i64 (j : Int), .int .i64 y, .int .i64 kb] rfl rfl (World.news_of_block (cs := #[.int .i64 x, .int .i64 (j : Int), .int .i64 y, .int .i64 kb]) (t := 57) (fr := (0, 0)) (heap_alloc_new w6 _)) (by simp [Value.oneCell']) (by simp only [maxLen]; omega) (by omega) (by simp; omega) ?_; intro v9 w9 hown9 hg9 hnil9; clear hnil9)
              have hb9 : Below w.heap.size w w9 := (q6.alloc q6.size (.cells #[.int .i64 x, .int .i64 (j : Int), .int .i64 y, .int .i64 kb] 57)).grown hg9 (by simp; omega) (fun k hk => (hlt6 k hk).1)
              have HO9 := Lib.hid hown9
              clear hown9 hg9
              go_wp2
              go_roundg (gk - 1)
              case measure => omega
              case rel => exact ⟨j + 1, i1 + 1, (j : Int) + 1, kb + 1, by go_num, by omega, by omega, by first | rfl | (simp; done), rfl, by omega, by omega, hb9, M1, HD2, Lib.hid (by rw [HSF.out]; exact HO9.out)⟩
    · have hj : j = N + 1 := by omega
      have k0 : decide ((j : Int) ≤ (N : Int)) = false := decide_eq_false (by omega)
      have hr := dst_end hD.out (fun c hc => by have := HEN.out c (List.mem_of_mem_drop hc); omega)
      have hi2 : i1 = C.length := by have := congrArg List.length hr; rw [List.length_drop, List.length_nil] at this; omega
      obtain ⟨A7, c7, e7, hI7, hl7, hC7⟩ := chs_of_own (o := C) (by have := hown.out; rw [hi2, List.take_length] at this; exact this)
      have HI7 := Lib.hid hI7
      subst e7
      clear hI7 hC7 hl7 hown hr hD HKP HSA HSB CKA CKB HEN HLEN hi2 hj hi1
      go_wp2
      go_ret
      exact ⟨A7, c7, rfl, HI7.out, hb⟩
end Go.Proofs.Ythbhjecfiiknaaa
