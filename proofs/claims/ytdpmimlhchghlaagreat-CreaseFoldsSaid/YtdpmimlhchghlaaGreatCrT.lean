/- Creases: the document's Pieces. -/
import Derived.Test.YtdpmimlhchghlaaGreatCrS
import Derived.Test.YtdpmimlhchghlaaGreatWvI
namespace Go.Proofs.YtdpmimlhchghlaaGreat
open Go.RowKit
set_option linter.unusedVariables false
theorem cpce_info : (Tryz.prog.info? 90).map (fun i => (i.zero, i.size, i.bytes)) = some (some (.agg #[.int .i64 0, .int .i64 0]), 2, 16) := by kernel_rfl
theorem cpce_slt : SlT Tryz.prog 86 90 2 16 := slt_of Tryz.underlying86 cpce_info rfl (by kernel_rfl)
theorem cgrp_take (l : List (Int × Int)) (S : List Int) {j : Nat} (h : j < S.length) : cgrp l [] (S.take (j + 1)) = cput (cgrp l [] (S.take j)) (chid l S[j]) := by
  rw [List.take_succ_eq_append_getElem h]
  unfold cgrp
  rw [List.foldl_append]
  rfl
theorem cput_len (acc : List (Int × Int)) (h : Option (Int × Int)) : (cput acc h).length ≤ acc.length + 1 := by
  unfold cput
  split
  · simp
  · split
    · split <;> simp
    · simp
theorem cgrp_len (l : List (Int × Int)) (S : List Int) : ∀ j, j ≤ S.length → (cgrp l [] (S.take j)).length ≤ j
  | 0, _ => Nat.le_refl _
  | j + 1, h => by
    rw [cgrp_take l S (by omega)]
    have := cput_len (cgrp l [] (S.take j)) (chid l S[j])
    have := cgrp_len l S j (by omega)
    omega
theorem cgrp_n (l : List (Int × Int)) (S : List Int) : ∀ j, j ≤ S.length → ∀ x ∈ cgrp l [] (S.take j), 0 ≤ x.2 ∧ x.2 ≤ j
  | 0, _ => fun x hx => by cases hx
  | j + 1, h => by
    intro x hx
    rw [cgrp_take l S (by omega)] at hx
    have ih := cgrp_n l S j (by omega)
    unfold cput at hx
    split at hx
    · rcases List.mem_append.1 hx with hx | hx
      · have := ih x hx; omega
      · rw [List.mem_singleton.1 hx]; simp only; omega
    · split at hx
      · rename_i y hy
        have hy2 := ih y (List.mem_of_getLast? hy)
        split at hx
        · rcases List.mem_append.1 hx with hx | hx
          · have := ih x (List.dropLast_subset _ hx); omega
          · rw [List.mem_singleton.1 hx]; simp only; omega
        · rcases List.mem_append.1 hx with hx | hx
          · have := ih x hx; omega
          · rw [List.mem_singleton.1 hx]; simp only; omega
      · rcases List.mem_append.1 hx with hx | hx
        · have := ih x hx; omega
        · rw [List.mem_singleton.1 hx]; simp only; omega
theorem cput_none_app (G : List (Int × Int)) (i m : Int) : cput (G ++ [(i, m)]) none = if i = 0 then G ++ [(i, m + 1)] else G ++ [(i, m)] ++ [(0, 1)] := by
  unfold cput
  simp only [List.getLast?_append, List.getLast?_singleton, List.dropLast_concat]
  rfl
set_option maxHeartbeats 16000000 in
set_option maxRecDepth 100000 in
theorem rPieces16 (n : Nat) (A : Option Addr) (m c : Nat) (l : List (Int × Int)) (w : World) (hA : RowsAt wencS 2 w A l) (hl : l.length = m) (hm : m ≤ 1000000) (hn : n ≤ 1000000) (hx : ∀ x ∈ l, 0 ≤ x.1 ∧ x.1 ≤ x.2 ∧ x.2 ≤ 1099511627776) :
    Calls Tryz.prog 41 #[.int .i64 n, .slice A m c] w fun e w' => ∃ v, e = .returned v ∧ w'.ownsRow w.heap.size 90 2 v (cgrp l [] (cstS l n)).length (kfl wencS (cgrp l [] (cstS l n))) ∧ Below w.heap.size w w' := by
  have ST := cpce_slt
  have CS := Lib.hid (rStarts16 n A m c l w hA hl hm hn)
  have hSl : (cstS l n).length ≤ 1000000 := Nat.le_trans (cstS_len l n) hn
  have HA := Lib.hid hA
  have HL := Lib.hid hl
  have HX := Lib.hid hx
  clear hA hl hx
  generalize cstS l n = S at *
  go_enter Tryz.func41, Tryz.ntmps41
  go_wp2_with fail
  with_reducible refine (CS.out).mono ?_
  rintro e W2 ⟨v2, rfl, o2, b2⟩
  have X2 := Lib.hid b2
  have CH := Lib.hid fun (W : World) (hW : Below W2.heap.size W2 W) (p : Int) => rHides16 A m c l p W (HA.out.below (X2.out.trans (hW.mono X2.out.size))) HL.out hm
  obtain ⟨A2, cc2, rfl, hR, _, _⟩ := rows_of_own encZ_len (by omega) o2
  have HR := Lib.hid hR
  obtain ⟨M, hM⟩ : ∃ M, M = S.length := ⟨_, rfl⟩
  rw [← hM] at hSl
  simp only [← hM]
  have HM := Lib.hid hM
  clear b2 o2 hR CS hM
  go_wp2_with fail
  go_loopg [5, 14] M (fun g v i wr => ∃ j N : Nat, i = .int .i64 j ∧ j ≤ M ∧ M - j ≤ g ∧ Hid (Below W2.heap.size W2 wr) ∧ Hid (wr.ownsRow W2.heap.size 90 2 v N (kfl wencS (cgrp l [] (S.take j)))))
  case atStart => exact ⟨0, 0, rfl, by omega, by omega, Lib.hid (Below.refl _ _), Lib.hid (World.ownsRow_nil _ _ _ _)⟩
  case round =>
    obtain ⟨j, N, rfl, j1, j2, hb, hown⟩ := hrel
    have hNl := own_len wencS_len (by omega) hown.out
    have hNj := cgrp_len l S j (by rw [← HM.out]; exact j1)
    rw [hNl] at hNj
    by_cases hlt : j < M
    · have hjl : j < S.length := by rw [← HM.out]; exact hlt
      obtain ⟨bA, off, rfl, hbA, hce⟩ := (HR.out.below hb.out).at1 hjl
      have f0 := hce 0 (by omega)
      simp [encZ] at f0
      have HG := Lib.hid (cgrp_take l S hjl)
      have HGN := Lib.hid (cgrp_n l S j (by omega))
      clear hce
      generalize S[j] = p at *
      obtain ⟨A3, c3, rfl⟩ := own_form hown.out
      have i1 : (0 : Int) ≤ j := by omega
      have i2 : (j : Int) < M := by omega
      have kj : decide ((j : Int) < (M : Int)) = true := decide_eq_true i2
      have wN : IntKind.i64.wrap ((N : Int) - 1) = (N : Int) - 1 := IntWalk.i64_in _ (by omega)
      go_wp2_with fail
      with_reducible refine (CH.out _ hb.out p).mono ?_
      rintro e w4 ⟨r, rfl, hr, b4⟩
      have HB4 := Lib.hid (hb.out.trans (b4.mono hb.out.size))
      have HO4 := Lib.hid (own_below hown.out b4)
      clear b4 hb hown f0
      rcases hr with ⟨rfl, hc⟩ | ⟨i, hi, rfl, hc⟩
      · rw [hc] at HG
        have kr : decide ((0 : Int) ≤ -1) = false := rfl
        by_cases h0 : N = 0
        · subst h0
          have hnil : cgrp l [] (S.take j) = [] := List.eq_nil_of_length_eq_zero hNl
          have HG0 : Hid (cgrp l [] (S.take (j + 1)) = cgrp l [] (S.take j) ++ [(0, 1)]) := Lib.hid (by rw [HG.out, hnil]; rfl)
          clear hnil HG HGN hNl hc
          have k0 : decide ((0 : Int) ≤ 0 - 1) = false := rfl
          have x9 : Below w4.heap.size w4 (w4.alloc (.cells #[.int .i64 0, .int .i64 1] 90)) := (Below.refl _ _).alloc (Nat.le_refl _) _
          have S9 := Lib.hid (rows_of_block (enc := wencS) (k := 2) wencS_len (heap_alloc_new w4 _ : RawAt 90 (w4.alloc (.cells #[.int .i64 0, .int .i64 1] 90)) w4.heap.size #[.int .i64 0, .int .i64 1]) (l := [(0, 1)]) rfl)
          have O9 := Lib.hid (own_below HO4.out x9)
          have B9 := Lib.hid (HB4.out.trans (x9.mono HB4.out.size))
          have lt9 := O9.out.lt
          clear x9
          go_wp2_with (at_builtin; refine wpList_appK (enc := wencS) ST wencS_len (by omega) rfl (.tmp 61) (.tmp 63) rfl (base := W2.heap.size) (v := .slice A3 0 c3) rfl O9.out _ 1 1 [(0, 1)] rfl S9.out ⟨Nat.le_refl _, fun h => by cases h⟩ rfl (kfl_one' wencS_one _) (by simp only [maxLen]; omega) (by omega) (by have := B9.out.size; omega) ?_; intro v9 w9 hown9 hg9 hor9; have HB9 := Lib.hid (B9.out.grown hg9 B9.out.size (fun j hj => by have := (lt9 j hj).1; omega)); have HO9 := Lib.hid hown9; clear hown9 hg9 hor9 O9 B9 S9 lt9)
          have HOX : Hid (w9.ownsRow W2.heap.size 90 2 v9 (0 + 1) (kfl wencS (cgrp l [] (S.take (j + 1))))) := Lib.hid (by rw [HG0.out, kfl_append]; exact HO9.out)
          go_roundg (gk - 1)
          case measure => omega
          case rel => exact ⟨j + 1, 0 + 1, by go_num, by omega, by omega, HB9, HOX⟩
        · have hne : cgrp l [] (S.take j) ≠ [] := fun h => by rw [h] at hNl; simp at hNl; omega
          obtain ⟨G, y, hGy⟩ : ∃ G y, cgrp l [] (S.take j) = G ++ [y] := ⟨_, _, (List.dropLast_concat_getLast hne).symm⟩
          obtain ⟨yi, ym⟩ := y
          rw [hGy] at hNl
          obtain rfl : N = G.length + 1 := by rw [← hNl]; simp
          have hyb := HGN.out (yi, ym) (by rw [hGy]; simp)
          simp only at hyb
          obtain ⟨g, cap, e9⟩ := own_slice HO4.out (by omega)
          cases e9
          have HO4' := HO4.out
          rw [hGy] at HO4'
          have HG1 : Hid (cgrp l [] (S.take (j + 1)) = if yi = 0 then G ++ [(yi, ym + 1)] else G ++ [(yi, ym)] ++ [(0, 1)]) := Lib.hid (by rw [HG.out, hGy, cput_none_app])
          obtain ⟨A9, c9, e9, hR9, _, _⟩ := rows_of_own wencS_len (by omega) HO4'
          obtain ⟨bb, oo, e10, _, q0, q1⟩ := wrowsS hR9 (j := G.length) (by simp)
          cases e9
          cases e10
          simp at q0 q1
          have zf := own_freeI HO4' (G.length * 2 + 1)
          have HO5 := Lib.hid HO4'
          have HLT := Lib.hid ((HO4'.lt g (by rfl)).1)
          clear HO4' hGy hR9 HG HGN hne hNl HO4 hc
          generalize hK : G.length = K at *
          have HK := Lib.hid hK
          clear hK
          have wK : IntKind.i64.wrap ((K : Int) + 1 - 1) = K := by rw [show (K : Int) + 1 - 1 = K from by omega]; exact IntWalk.i64_in _ (by omega)
          have i5 : (K : Int) < (K : Int) + 1 := by omega
          have i6 : (0 : Int) ≤ K := by omega
          have k6 : decide ((0 : Int) ≤ (K : Int)) = true := decide_eq_true i6
          have i7 : ¬ (K : Int) < 0 := by omega
          have wK2 : IntKind.i64.wrap (K : Int) = K := IntWalk.i64_in _ (by omega)
          have w2' : IntKind.i64.wrap (ym + 1) = ym + 1 := IntWalk.i64_in _ (by omega)
          clear wN
          by_cases hid : yi = 0
          · have kq : (yi == 0) = true := by simpa using hid
            have HG2 := Lib.hid (HG1.out.trans (if_pos hid))
            have HY := Lib.hid hid
            clear hid HG1
            have HO7 : Hid ((w4.setCell ⟨g, K * 2 + 1, none⟩ (.int .i64 (ym + 1))).ownsRow W2.heap.size 90 2 (.slice (some ⟨g, 0, none⟩) (K + 1) c3) (K + 1) (kfl wencS (cgrp l [] (S.take (j + 1))))) := Lib.hid (by
              have := own_setKI HO5.out (K * 2 + 1) (.int .i64 (ym + 1))
              rw [show K * 2 + 1 = G.length * 2 + 1 from by rw [HK.out], wencS_set] at this
              rw [HG2.out, show K * 2 + 1 = G.length * 2 + 1 from by rw [HK.out]]
              exact this)
            have HB7 : Hid (Below W2.heap.size W2 (w4.setCell ⟨g, K * 2 + 1, none⟩ (.int .i64 (ym + 1)))) := Lib.hid (HB4.out.setCell (p := ⟨g, K * 2 + 1, none⟩) HLT.out _)
            clear HO5 HB4
            go_wp2
            go_roundg (gk - 1)
            case measure => omega
            case rel => exact ⟨j + 1, K + 1, by go_num, by omega, by omega, HB7, HO7⟩
          · have kq : (yi == 0) = false := by simpa using hid
            have HG0 := Lib.hid (HG1.out.trans (if_neg hid))
            clear hid HG1 zf HLT
            have x9 : Below w4.heap.size w4 (w4.alloc (.cells #[.int .i64 0, .int .i64 1] 90)) := (Below.refl _ _).alloc (Nat.le_refl _) _
            have S9 := Lib.hid (rows_of_block (enc := wencS) (k := 2) wencS_len (heap_alloc_new w4 _ : RawAt 90 (w4.alloc (.cells #[.int .i64 0, .int .i64 1] 90)) w4.heap.size #[.int .i64 0, .int .i64 1]) (l := [(0, 1)]) rfl)
            have O9 := Lib.hid (own_below HO5.out x9)
            have B9 := Lib.hid (HB4.out.trans (x9.mono HB4.out.size))
            have lt9 := O9.out.lt
            clear x9
            go_wp2_with (at_builtin; refine wpList_appK (enc := wencS) ST wencS_len (by omega) rfl (.tmp 61) (.tmp 63) rfl (base := W2.heap.size) (v := .slice (some ⟨g, 0, none⟩) (K + 1) c3) rfl O9.out _ 1 1 [(0, 1)] rfl S9.out ⟨Nat.le_refl _, fun h => by cases h⟩ rfl (kfl_one' wencS_one _) (by simp only [maxLen]; omega) (by omega) (by have := B9.out.size; omega) ?_; intro v9 w9 hown9 hg9 hor9; have HB9 := Lib.hid (B9.out.grown hg9 B9.out.size (fun j hj => by have := (lt9 j hj).1; omega)); have HO9 := Lib.hid hown9; clear hown9 hg9 hor9 O9 B9 S9 lt9)
            have HOX : Hid (w9.ownsRow W2.heap.size 90 2 v9 ((K + 1) + 1) (kfl wencS (cgrp l [] (S.take (j + 1))))) := Lib.hid (by rw [HG0.out, kfl_append]; exact HO9.out)
            go_roundg (gk - 1)
            case measure => omega
            case rel => exact ⟨j + 1, (K + 1) + 1, by go_num, by omega, by omega, HB9, HOX⟩
      · rw [hc] at HG
        have HG0 : Hid (cgrp l [] (S.take (j + 1)) = cgrp l [] (S.take j) ++ [(l[i].2 - l[i].1, 1)]) := Lib.hid HG.out
        have hxb := HX.out _ (List.getElem_mem hi)
        have him : i < m := by rw [← HL.out]; exact hi
        obtain ⟨bL, oL, hAe, hbL, d0, d1⟩ := wrowsS (HA.out.below (X2.out.trans (HB4.out.mono X2.out.size))) hi
        have MK : Hid (∀ W : World, Below W2.heap.size W2 W → (fun W : World => W.cell? ⟨bL, oL + i * 2, none⟩ = some (.int .i64 l[i].1) ∧ W.cell? ⟨bL, oL + i * 2 + 1, none⟩ = some (.int .i64 l[i].2)) W) := Lib.hid fun W hW => by
          obtain ⟨b', o', e', _, z0, z1⟩ := wrowsS (HA.out.below (X2.out.trans (hW.mono X2.out.size))) hi
          rw [hAe] at e'
          cases e'
          exact ⟨z0, z1⟩
        subst hAe
        clear HG HGN hNl hc
        generalize l[i] = x at *
        obtain ⟨x1, x2⟩ := x
        simp only at d0 d1 HG0 hxb MK
        have q1 : (0 : Int) ≤ i := by omega
        have q2 : (i : Int) < m := by omega
        have kr : decide ((0 : Int) ≤ (i : Int)) = true := decide_eq_true q1
        have wx : IntKind.i64.wrap (x2 - x1) = x2 - x1 := IntWalk.i64_in _ (by omega)
        have hlt4 := HO4.out.lt
        clear d0 d1
        go_wp2_with fail
        have hW2 : Below W2.heap.size W2 w4.drew := HB4.out.drew
        refine wp_region_noPanic ?_
        refine wp_region_held_drew (S := (fun W => W.cell? ⟨bL, oL + i * 2, none⟩ = some (.int .i64 x1) ∧ W.cell? ⟨bL, oL + i * 2 + 1, none⟩ = some (.int .i64 x2))) (by kernel_rfl) (MK.out _ hW2) (fun hHeld => ?_)
        refine wpAnyH_take (i := 0) (v := ?_) rfl (by kernel_rfl) (by kernel_rfl) (by kernel_rfl) (fun _ _ _ h => h) (Or.inl ⟨by rfl, ?_⟩) hHeld ?_
        rotate_left
        · intro w hSw
          (try dsimp only at hSw)
          go_simp
          try with_reducible rfl
        go_simp
        refine wpAnyH_take (i := 1) (v := ?_) rfl (by kernel_rfl) (by kernel_rfl) (by kernel_rfl) (fun _ _ _ h => h) (Or.inl ⟨by rfl, ?_⟩) hHeld ?_
        rotate_left
        · intro w hSw
          (try dsimp only at hSw)
          go_simp
          try with_reducible rfl
        go_simp
        refine wpAnyH_take (i := 2) (v := ?_) rfl (by kernel_rfl) (by kernel_rfl) (by kernel_rfl) (fun _ _ _ h => h) (Or.inl ⟨by rfl, ?_⟩) hHeld ?_
        rotate_left
        · intro w hSw
          (try dsimp only at hSw)
          go_simp
          try with_reducible rfl
        go_simp
        refine wpAnyH_take (i := 3) (v := ?_) rfl (by kernel_rfl) (by kernel_rfl) (by kernel_rfl) (fun _ _ _ h => h) (Or.inl ⟨by rfl, ?_⟩) hHeld ?_
        rotate_left
        · intro w hSw
          (try dsimp only at hSw)
          go_simp
          try with_reducible rfl
        go_simp
        refine wpAnyH_take (i := 4) (v := ?_) rfl (by kernel_rfl) (by kernel_rfl) (by kernel_rfl) (fun _ _ _ h => h) (Or.inl ⟨by rfl, ?_⟩) hHeld ?_
        rotate_left
        · intro w hSw
          (try dsimp only at hSw)
          go_simp
          try with_reducible rfl
        go_simp
        refine wpAnyH_take (i := 5) (v := ?_) rfl (by kernel_rfl) (by kernel_rfl) (by kernel_rfl) (fun _ _ _ h => h) (Or.inl ⟨by rfl, ?_⟩) hHeld ?_
        rotate_left
        · intro w hSw
          (try dsimp only at hSw)
          go_simp
          try with_reducible rfl
        go_simp
        refine wpAnyH_take (i := 6) (v := ?_) rfl (by kernel_rfl) (by kernel_rfl) (by kernel_rfl) (fun _ _ _ h => h) (Or.inl ⟨by rfl, ?_⟩) hHeld ?_
        rotate_left
        · intro w hSw
          (try dsimp only at hSw)
          go_simp
          try with_reducible rfl
        go_simp
        refine wpAnyH_take (i := 7) (v := ?_) rfl (by kernel_rfl) (by kernel_rfl) (by kernel_rfl) (fun _ _ _ h => h) (Or.inl ⟨by rfl, ?_⟩) hHeld ?_
        rotate_left
        · intro w hSw
          (try dsimp only at hSw)
          go_simp
          try with_reducible rfl
        go_simp
        refine wpAnyH_take (i := 8) (v := ?_) rfl (by kernel_rfl) (by kernel_rfl) (by kernel_rfl) (fun _ _ _ h => h) (Or.inl ⟨by rfl, ?_⟩) hHeld ?_
        rotate_left
        · intro w hSw
          (try dsimp only at hSw)
          go_simp
          try with_reducible rfl
        go_simp
        refine wpAnyH_take (i := 9) (v := ?_) rfl (by kernel_rfl) (by kernel_rfl) (by kernel_rfl) (fun _ _ _ h => h) (Or.inl ⟨by rfl, ?_⟩) hHeld ?_
        rotate_left
        · intro w hSw
          (try dsimp only at hSw)
          go_simp
          try with_reducible rfl
        go_simp
        refine wpAnyH_take (i := 10) (v := ?_) rfl (by kernel_rfl) (by kernel_rfl) (by kernel_rfl) (fun _ _ _ h => h) (Or.inl ⟨by rfl, ?_⟩) hHeld ?_
        rotate_left
        · intro w hSw
          (try dsimp only at hSw)
          go_simp
          try with_reducible rfl
        go_simp
        refine wpAnyH_take (i := 11) (v := ?_) rfl (by kernel_rfl) (by kernel_rfl) (by kernel_rfl) (fun _ _ _ h => h) (Or.inl ⟨by rfl, ?_⟩) hHeld ?_
        rotate_left
        · intro w hSw
          (try dsimp only at hSw)
          go_simp
          try with_reducible rfl
        go_simp
        refine wpAnyH_take (i := 12) (v := ?_) rfl (by kernel_rfl) (by kernel_rfl) (by kernel_rfl) (fun _ _ _ h => h) (Or.inl ⟨by rfl, ?_⟩) hHeld ?_
        rotate_left
        · intro w hSw
          (try dsimp only at hSw)
          go_simp
          try with_reducible rfl
        go_simp
        refine wpAnyH_ready (rs := [13]) (by kernel_rfl) (by simp) ?_
        refine AllReadyH.cons rfl (fun K hK => ?_) ?_
        rotate_left
        · exact AllReadyH.nil
        go_simp
        go_wp2_with (fail)
        refine hK.out _ _ (by first | (with_reducible exact MK.out _ hW2) | exact MK.out _ (hW2.alloc hW2.size _) | exact MK.out _ (HB4.out.alloc HB4.out.size _).drew) (fun hHeld => ?_)
        clear hK K
        go_simp
        refine wpAnyH_ready (rs := [14]) (by kernel_rfl) (by simp) ?_
        refine AllReadyH.cons rfl (fun K hK => ?_) ?_
        rotate_left
        · exact AllReadyH.nil
        have x9 : Below w4.heap.size w4 (w4.alloc (.cells #[.int .i64 (x2 - x1), .int .i64 1] 90)).drew := ((Below.refl _ _).alloc (Nat.le_refl _) _).drew
        have R9 : RawAt 90 (w4.alloc (.cells #[.int .i64 (x2 - x1), .int .i64 1] 90)).drew w4.heap.size #[.int .i64 (x2 - x1), .int .i64 1] := heap_alloc_new w4 _
        have hrow := rows_of_block (enc := wencS) (k := 2) wencS_len R9 (l := [(x2 - x1, 1)]) rfl
        have HB10 := HB4.out.trans (x9.mono HB4.out.size)
        refine step_appK (enc := wencS) ST wencS_len (by omega) rfl (.tmp 26) (.tmp 39) rfl (base := W2.heap.size) (v := .slice A3 N c3) (n := N) (xs := kfl wencS (cgrp l [] (S.take j))) (by simp [Act.eval]) (own_below HO4.out x9) (some ⟨w4.heap.size, 0, none⟩) 1 1 [(x2 - x1, 1)] (by simp [Act.eval]) hrow ⟨Nat.le_refl _, fun h => by cases h⟩ rfl (kfl_one' wencS_one _) (by simp only [maxLen]; omega) (by omega) HB10.size ?_
        intro v5 w5 hown5 hg5 hor5
        have HB5 := HB10.grown hg5 HB10.size (fun j hj => (hlt4 j hj).1)
        have hW2 := HB5
        refine hK.out _ _ (by first | (with_reducible exact MK.out _ hW2) | exact MK.out _ (hW2.alloc hW2.size _) | exact MK.out _ (HB4.out.alloc HB4.out.size _).drew) (fun hHeld => ?_)
        clear hK K
        go_simp
        refine wpAnyH_take (i := 15) (v := ?_) rfl (by kernel_rfl) (by kernel_rfl) (by kernel_rfl) (fun _ _ _ h => h) (Or.inl ⟨by rfl, ?_⟩) hHeld ?_
        rotate_left
        · intro w hSw
          (try dsimp only at hSw)
          go_simp
          try with_reducible rfl
        go_simp
        refine wpAnyH_done (by kernel_rfl) ?_ _
        refine NoPanic.normal ?_
        have HB5 := Lib.hid HB5
        have HO5 : Hid (w5.ownsRow W2.heap.size 90 2 v5 (N + 1) (kfl wencS (cgrp l [] (S.take (j + 1))))) := Lib.hid (by rw [HG0.out, kfl_append]; exact hown5)
        clear hown5 hg5 hor5 HB10 hrow R9 x9 hW2 MK HO4 HB4
        go_wp2
        go_roundg (gk - 1)
        case measure => omega
        case rel => exact ⟨j + 1, N + 1, by go_num, by omega, by omega, HB5, HO5⟩
    · obtain rfl : j = M := by omega
      have ht : S.take j = S := List.take_of_length_le (by rw [← HM.out]; exact Nat.le_refl _)
      have ho2 := hown.out
      rw [ht] at ho2 hNl
      obtain ⟨A3, c3, rfl⟩ := own_form hown.out
      have HOX : Hid (wr.ownsRow w.heap.size 90 2 (.slice A3 N c3) (cgrp l [] S).length (kfl wencS (cgrp l [] S))) := Lib.hid (by rw [hNl]; exact own_base ho2 X2.out.size)
      have HBX := Lib.hid (X2.out.trans (hb.out.mono X2.out.size))
      have kj : decide ((j : Int) < (j : Int)) = false := decide_eq_false (by omega)
      clear ho2 hb hown hNl
      go_wp2
      go_ret
      exact ⟨_, rfl, HOX.out, HBX.out⟩
end Go.Proofs.YtdpmimlhchghlaaGreat
