/- Inlays: slices.DeleteFunc at them. -/
import Derived.Test.YtbeclkhahdcmbaaGreatInU
import Derived.Test.YtbeclkhahdcmbaaGreatKRow
namespace Go.Proofs.YtbeclkhahdcmbaaGreat
open Go.RowKit
set_option linter.unusedVariables false
set_option maxHeartbeats 4000000 in
set_option maxRecDepth 100000 in
theorem iDelF_any (K : Value) (cv : Value) (hK : K = .func (.func 31) #[] #[cv]) (P : In → Bool) (g n cap B : Nat) (o : List In) (w : World) (hown : w.ownsRow B 48 5 (.slice (some ⟨g, 0, none⟩) n cap) n (kfl encI o)) (hn : n ≤ 100000)
    (CK : ∀ a ∈ o, ∀ W, OnB g w W → Calls Tryz.prog 31 #[.agg #[.int .i64 a.id, .int .i64 a.pl, .int .i64 a.bi, .int .i64 a.ky, .string a.tx], cv] W fun e w' => e = .returned (.bool (P a)) ∧ Below W.heap.size W w') :
    Calls Tryz.prog 30 #[.slice (some ⟨g, 0, none⟩) n cap, K] w fun e w' => ∃ i, e = .returned (.slice (some ⟨g, 0, none⟩) i cap) ∧ w'.ownsRow B 48 5 (.slice (some ⟨g, 0, none⟩) i cap) i (kfl encI (o.filter fun a => !P a)) ∧ OnB g w w' := by
  have hl := own_len encI_len (by omega) hown
  obtain ⟨A0, c0, hv0, hR0, _, _⟩ := rows_of_own encI_len (by omega) hown
  injection hv0 with hv1 _ hv2
  subst hv1
  subst hv2
  obtain ⟨cur0, hraw0, hcs0, hncap, hBg⟩ := own_rawD hown
  have hgl := hraw0.lt
  obtain ⟨i0, hi0⟩ : ∃ i0, o.findIdx P = i0 := ⟨_, rfl⟩
  have hle := List.findIdx_le_length (xs := o) (p := P)
  have hlow : ∀ j (h : j < o.length), j < i0 → P o[j] = false := fun j h hj => by
    have h5 := List.not_of_lt_findIdx (xs := o) (p := P) (by rw [hi0]; exact hj : j < o.findIdx P)
    simpa using h5
  rw [hi0] at hle
  have CI := Lib.hid (iIndexF_any K cv hK P (some ⟨g, 0, none⟩) n cap o w hR0 hl hn (fun a ha W hW => CK a ha W ⟨hW.mono (by omega), fun k hk _ => hW.block k hk⟩) (if i0 < o.length then (i0 : Int) else -1) (by rw [hi0]))
  have HCK := Lib.hid CK
  have HOWN := Lib.hid hown
  have HL := Lib.hid hl
  subst hK
  by_cases hi : i0 < o.length
  · rw [if_pos hi] at CI
    have hi1 : i0 < n := by rw [← hl]; exact hi
    have hP : P o[i0] = true := by
      have h5 := List.findIdx_getElem (xs := o) (p := P) (w := by rw [hi0]; exact hi)
      simp only [hi0] at h5
      exact h5
    have hF0 : (o.take i0).filter (fun a => !P a) = o.take i0 := by
      rw [List.filter_eq_self]
      intro a ha
      obtain ⟨j, hj, rfl⟩ := List.mem_take_iff_getElem.1 ha
      rw [hlow j (by omega) (by omega)]; rfl
    have hF1 : (o.take (i0 + 1)).filter (fun a => !P a) = o.take i0 := by
      rw [List.take_succ_eq_append_getElem hi, List.filter_append, hF0, List.filter_cons_of_neg (by rw [hP]; simp)]
      simp
    have HF1 := Lib.hid hF1
    obtain ⟨x0, hX0⟩ : ∃ x0, o.take i0 ++ [x0] ++ o.drop (i0 + 1) = o := ⟨o[i0], by rw [← List.take_succ_eq_append_getElem hi, List.take_append_drop]⟩
    have HX0 := Lib.hid hX0
    have HIO := Lib.hid hi
    have k0 : ((i0 : Int) == -1) = false := by simp
    have k1 : decide ((i0 : Int) = -1) = false := decide_eq_false (by omega)
    clear hown CK hR0 hraw0 hcs0 hi0 hlow hP hF0 hF1 hX0 hle hl hi
    go_enter Tryz.func30, Tryz.ntmps30
    go_wp2_with (refine (CI.out).mono ?_; rintro e w1 ⟨rfl, hb1⟩; have HB1 : Hid (OnB g w w1) := Lib.hid ⟨hb1.mono (by omega), fun k hk _ => hb1.block k hk⟩; have HO1 := Lib.hid (own_below HOWN.out hb1); clear hb1)
    go_loopg [5, 6] n (fun gg i j wr => ∃ (a b : Nat) (F T : List In), i = .int .i64 (a : Int) ∧ j = .int .i64 (b : Int) ∧ a < b ∧ b ≤ n ∧ n - b ≤ gg ∧ F.length = a ∧ T.length = b - a ∧ Hid (F = (o.take b).filter fun a => !P a) ∧ Hid (OnB g w wr) ∧ Hid (wr.ownsRow B 48 5 (.slice (some ⟨g, 0, none⟩) n cap) n (kfl encI (F ++ T ++ o.drop b))))
    case atStart => exact ⟨i0, i0 + 1, o.take i0, [x0], rfl, by go_num, by omega, by omega, by omega, by rw [List.length_take, HL.out]; omega, by simp, Lib.hid HF1.out.symm, HB1, Lib.hid (by rw [HX0.out]; exact HO1.out)⟩
    case round =>
      clear HB1 HO1 hi1 k0 k1
      obtain ⟨i, j, F, T, rfl, rfl, h1, h2, h3, h4, h5, hF, hb, hown⟩ := hrel
      by_cases hlt : j < n
      · have hjl : j < o.length := by rw [HL.out]; exact hlt
        have hXl : j < (F ++ T ++ o.drop j).length := by rw [List.length_append, List.length_append, List.length_drop]; omega
        have hXj : (F ++ T ++ o.drop j)[j] = o[j] := by
          rw [List.getElem_append_right (by rw [List.length_append]; omega), List.getElem_drop]
          congr 1
          rw [List.length_append]; omega
        have f0 := (kfl_at encI_len (F ++ T ++ o.drop j) j hXl 0 (by omega)).trans (by rw [hXj])
        have d0 := hown.out.cellAt (j * 5 + 0) (by omega)
        rw [f0] at d0
        have f1 := (kfl_at encI_len (F ++ T ++ o.drop j) j hXl 1 (by omega)).trans (by rw [hXj])
        have d1 := hown.out.cellAt (j * 5 + 1) (by omega)
        rw [f1] at d1
        have f2 := (kfl_at encI_len (F ++ T ++ o.drop j) j hXl 2 (by omega)).trans (by rw [hXj])
        have d2 := hown.out.cellAt (j * 5 + 2) (by omega)
        rw [f2] at d2
        have f3 := (kfl_at encI_len (F ++ T ++ o.drop j) j hXl 3 (by omega)).trans (by rw [hXj])
        have d3 := hown.out.cellAt (j * 5 + 3) (by omega)
        rw [f3] at d3
        have f4 := (kfl_at encI_len (F ++ T ++ o.drop j) j hXl 4 (by omega)).trans (by rw [hXj])
        have d4 := hown.out.cellAt (j * 5 + 4) (by omega)
        rw [f4] at d4
        have HFN := Lib.hid (show (o.take (j + 1)).filter (fun a => !P a) = F ++ (if P o[j] = true then [] else [o[j]]) from by
          rw [List.take_succ_eq_append_getElem hjl, List.filter_append, ← hF.out]
          cases hp : P o[j] <;> simp [hp])
        have hdr := List.drop_eq_getElem_cons hjl
        have HDR := Lib.hid hdr
        have CKj := Lib.hid fun (W : World) (hW : OnB g w W) => HCK.out o[j] (List.getElem_mem hjl) W hW
        obtain ⟨bv, hbv⟩ : ∃ bv, P o[j] = bv := ⟨_, rfl⟩
        rw [hbv] at CKj HFN
        have HXL := Lib.hid hXl
        clear hbv hXj hdr f0 f1 f2 f3 f4 hXl
        generalize o[j] = a at *
        simp [encI] at d0 d1 d2 d3 d4
        have i1 : (0 : Int) ≤ j := by omega
        have i2 : (j : Int) < n := by omega
        have i3 : (0 : Int) ≤ i := by omega
        have i4 : (i : Int) < n := by omega
        obtain ⟨W3, hW3⟩ : ∃ W3, wr.alloc (.cells #[.int .i64 a.id, .int .i64 a.pl, .int .i64 a.bi, .int .i64 a.ky, .string a.tx] 48) = W3 := ⟨_, rfl⟩
        have x3 : Below wr.heap.size wr W3 := by rw [← hW3]; exact (Below.refl _ _).alloc (Nat.le_refl _) _
        have R3 : RawAt 48 W3 wr.heap.size #[.int .i64 a.id, .int .i64 a.pl, .int .i64 a.bi, .int .i64 a.ky, .string a.tx] := by rw [← hW3]; exact heap_alloc_new wr _
        have e0 := RawAt.cell R3 0
        have e1 := RawAt.cell R3 1
        have e2 := RawAt.cell R3 2
        have e3 := RawAt.cell R3 3
        have e4 := RawAt.cell R3 4
        simp at e0 e1 e2 e3 e4
        have HB3 : Hid (OnB g w W3) := Lib.hid (hb.out.trans ⟨x3.mono (by have := hb.out.below.size; omega), fun k hk _ => x3.block k hk⟩)
        have HO3 := Lib.hid (own_below hown.out x3)
        have CK3 := Lib.hid (CKj.out W3 HB3.out)
        have HR3 := Lib.hid R3
        clear CKj R3 x3 hb hown hF
        cases bv
        · go_wp2_with (refine (CK3.out).mono ?_; rintro e w4 ⟨rfl, hb4⟩; have HB4 : Hid (OnB g w w4) := Lib.hid (HB3.out.trans ⟨hb4.mono (by have := HB3.out.below.size; omega), fun k hk _ => hb4.block k hk⟩); have HO4 := Lib.hid (own_below HO3.out hb4); have R4 := RawAt.below HR3.out hb4 HR3.out.lt; have g0 := RawAt.cell R4 0; have g1 := RawAt.cell R4 1; have g2 := RawAt.cell R4 2; have g3 := RawAt.cell R4 3; have g4 := RawAt.cell R4 4; simp at g0 g1 g2 g3 g4; clear R4 hb4; have q0 := own_freeD HO4.out (i * 5 + 0); have q1 := own_freeD HO4.out (i * 5 + 1); have q2 := own_freeD HO4.out (i * 5 + 2); have q3 := own_freeD HO4.out (i * 5 + 3); have q4 := own_freeD HO4.out (i * 5 + 4); obtain ⟨v0, p0⟩ := own_someD encI_len HO4.out (by omega) (i := i) (by omega) (c := 0) (by omega); obtain ⟨v1, p1⟩ := own_someD encI_len HO4.out (by omega) (i := i) (by omega) (c := 1) (by omega); obtain ⟨v2, p2⟩ := own_someD encI_len HO4.out (by omega) (i := i) (by omega) (c := 2) (by omega); obtain ⟨v3, p3⟩ := own_someD encI_len HO4.out (by omega) (i := i) (by omega) (c := 3) (by omega); obtain ⟨v4, p4⟩ := own_someD encI_len HO4.out (by omega) (i := i) (by omega) (c := 4) (by omega); simp only [Nat.add_zero] at p0 q0)
          obtain ⟨t, T', rfl⟩ : ∃ t T', T = t :: T' := by
            cases T with
            | nil => simp at h5; omega
            | cons t T' => exact ⟨t, T', rfl⟩
          have hset : (F ++ (t :: T') ++ o.drop j).set i a = (F ++ [a]) ++ (T' ++ [a]) ++ o.drop (j + 1) := by
            rw [HDR.out, List.append_assoc, List.set_append_right _ _ (by omega), h4, Nat.sub_self]
            simp
          have ho5 := own_setD (encI a) (i * 5) HO4.out
          rw [kfl_setD encI_len _ i (by have := HXL.out; omega) a, hset] at ho5
          have HO5 := Lib.hid ho5
          have HB5 := Lib.hid (OnB.sets (encI a) (i * 5) HB4.out)
          clear hset ho5
          go_roundg (gk - 1)
          case measure => omega
          case rel => exact ⟨i + 1, j + 1, F ++ [a], T' ++ [a], by go_num, by go_num, by omega, by omega, by omega, by simp; omega, by simp at h5 ⊢; omega, Lib.hid (by rw [HFN.out]; simp), HB5, HO5⟩
        · go_wp2_with (refine (CK3.out).mono ?_; rintro e w4 ⟨rfl, hb4⟩; have HB4 : Hid (OnB g w w4) := Lib.hid (HB3.out.trans ⟨hb4.mono (by have := HB3.out.below.size; omega), fun k hk _ => hb4.block k hk⟩); have HO4 := Lib.hid (own_below HO3.out hb4); clear hb4)
          go_roundg (gk - 1)
          case measure => omega
          case rel => exact ⟨i, j + 1, F, T ++ [a], rfl, by go_num, by omega, by omega, by omega, h4, by simp; omega, Lib.hid (by rw [HFN.out]; simp), HB4, Lib.hid (by have := HO4.out; rw [HDR.out] at this; simpa using this)⟩
      · obtain rfl : j = n := by omega
        have hF2 : F = o.filter (fun a => !P a) := by rw [hF.out, List.take_of_length_le (by rw [HL.out]; omega)]
        have ho2 := hown.out
        rw [List.drop_of_length_le (by rw [HL.out]; omega), List.append_nil] at ho2
        obtain ⟨cur, hraw, hcs, _, _⟩ := own_rawD ho2
        have hne : ¬ cap = i := by omega
        have hs1 : ∀ V, (Instr.slice 22 (.slice (some ⟨g, 0, none⟩) j cap) (some (.int .i64 (i : Int))) none none).run Tryz.prog V = .ok (.slice (some ⟨g, i * 5, none⟩) (j - i) (cap - i)) V := fun V => by
          have := cutK_tl in_slt (some ⟨g, 0, none⟩) j cap i (by omega) V
          have e9 : cutK (some ⟨g, 0, none⟩) cap 5 i = some ⟨g, i * 5, none⟩ := by
            unfold cutK
            rw [if_neg hne]
            show some (Addr.add ⟨g, 0, none⟩ (i * 5)) = _
            rw [Go.WideShapes.add_plain, Nat.zero_add]
          rw [e9] at this
          exact this
        have hs2 : ∀ V, (Instr.slice 22 (.slice (some ⟨g, 0, none⟩) j cap) none (some (.int .i64 (i : Int))) none).run Tryz.prog V = .ok (.slice (some ⟨g, 0, none⟩) i cap) V := fun V => cutK_hd in_slt (some ⟨g, 0, none⟩) j cap i (by omega) V
        have hcl := fun ty => run_clearD in_slt (z := (Value.agg #[.int .i64 0, .int .i64 0, .int .i64 0, .int .i64 0, .string ⟨#[]⟩])) (fun V => by kernel_rfl) rfl (by decide) wr ty g (i * 5) (j - i) (cap - i) cur hraw (by
          rw [hcs, ← Nat.add_mul]
          exact Nat.mul_le_mul_right _ (by omega)) (by omega)
        have ho3 := own_clearD encI_len ho2 h4 (by omega) (Builtin.zeroCells ((Value.agg #[.int .i64 0, .int .i64 0, .int .i64 0, .int .i64 0, .string ⟨#[]⟩])).cells (j - i)).toList
        rw [hF2] at ho3
        have HO3 := Lib.hid ho3
        have HB3 := Lib.hid (OnB.sets (Builtin.zeroCells ((Value.agg #[.int .i64 0, .int .i64 0, .int .i64 0, .int .i64 0, .string ⟨#[]⟩])).cells (j - i)).toList (i * 5) hb.out)
        clear ho2 hraw hcs ho3 hown hF hF2
        generalize (Builtin.zeroCells ((Value.agg #[.int .i64 0, .int .i64 0, .int .i64 0, .int .i64 0, .string ⟨#[]⟩])).cells (j - i)).toList = zs at *
        go_wp2
        go_ret
        exact ⟨i, rfl, HO3.out, HB3.out⟩
  · rw [if_neg hi] at CI
    have hlow2 : o.filter (fun a => !P a) = o := by
      rw [List.filter_eq_self]
      intro a ha
      obtain ⟨j, hj, rfl⟩ := List.mem_iff_getElem.1 ha
      rw [hlow j hj (by omega)]; rfl
    clear hown CK hR0 hraw0 hcs0 hi0 hlow hle hl hi
    go_enter Tryz.func30, Tryz.ntmps30
    go_wp2_with (refine (CI.out).mono ?_; rintro e w1 ⟨rfl, hb1⟩; have HB1 : Hid (OnB g w w1) := Lib.hid ⟨hb1.mono (by omega), fun k hk _ => hb1.block k hk⟩; have HO1 := Lib.hid (own_below HOWN.out hb1); clear hb1)
    go_ret
    exact ⟨n, rfl, by rw [hlow2]; exact HO1.out, HB1.out⟩
end Go.Proofs.YtbeclkhahdcmbaaGreat
