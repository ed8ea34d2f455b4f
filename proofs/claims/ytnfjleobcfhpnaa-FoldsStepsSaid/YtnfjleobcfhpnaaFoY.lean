/- Folds: slices.IndexFunc and DeleteFunc at them. -/
import Derived.Test.YtnfjleobcfhpnaaFoR
import Derived.Test.YtnfjleobcfhpnaaFoD
import Derived.Test.YtnfjleobcfhpnaaDelM
import Derived.Test.YtnfjleobcfhpnaaOnB
namespace Go.Proofs.Ytnfjleobcfhpnaa
open Go.RowKit
set_option linter.unusedVariables false
/-- Has a fold a place in common with a span? -/
def fmeet (x y : Fo) : Bool := decide (y.f ≤ x.t ∧ x.f ≤ y.t)
set_option maxHeartbeats 4000000 in
set_option maxRecDepth 100000 in
theorem fMeet_any (x y : Fo) (b0 : Nat) (w : World) (h : RawAt 33 w b0 #[.int .i64 x.f, .int .i64 x.t]) (r : Bool) (hr : r = fmeet x y) :
    Calls Try.prog 41 #[.agg #[.int .i64 y.f, .int .i64 y.t], .pointer (some ⟨b0, 0, none⟩)] w fun e w' => e = .returned (.bool r) ∧ Below w.heap.size w w' := by
  have x1 : Below w.heap.size w (w.alloc (.cells #[.int .i64 y.f, .int .i64 y.t] 33)) := (Below.refl _ _).alloc (Nat.le_refl _) _
  have R1 : RawAt 33 (w.alloc (.cells #[.int .i64 y.f, .int .i64 y.t] 33)) w.heap.size #[.int .i64 y.f, .int .i64 y.t] := heap_alloc_new w _
  have h1 := h.below x1 h.lt
  have c0 := RawAt.cell R1 0
  have c1 := RawAt.cell R1 1
  have e0 := RawAt.cell h1 0
  have e1 := RawAt.cell h1 1
  have hlt := h.lt
  simp at c0 c1 e0 e1
  have HR := Lib.hid hr
  have X1 := Lib.hid x1
  clear hr x1 R1 h1 h
  by_cases g1 : y.f ≤ x.t
  · have k1 : decide (y.f ≤ x.t) = true := decide_eq_true g1
    by_cases g2 : x.f ≤ y.t
    · have k2 : decide (x.f ≤ y.t) = true := decide_eq_true g2
      have e : r = true := by rw [HR.out]; exact decide_eq_true ⟨g1, g2⟩
      subst e
      clear HR g1 g2
      go_enter Try.func41, Try.ntmps41
      go_wp2
      go_ret
      exact ⟨rfl, X1.out⟩
    · have k2 : decide (x.f ≤ y.t) = false := decide_eq_false g2
      have e : r = false := by rw [HR.out]; exact decide_eq_false fun h => g2 h.2
      subst e
      clear HR g1 g2
      go_enter Try.func41, Try.ntmps41
      go_wp2
      go_ret
      exact ⟨rfl, X1.out⟩
  · have k1 : decide (y.f ≤ x.t) = false := decide_eq_false g1
    have e : r = false := by rw [HR.out]; exact decide_eq_false fun h => g1 h.1
    subst e
    clear HR g1
    go_enter Try.func41, Try.ntmps41
    go_wp2
    go_ret
    exact ⟨rfl, X1.out⟩
set_option maxHeartbeats 4000000 in
set_option maxRecDepth 100000 in
theorem fIndexF_any (K : Value) (cv : Value) (hK : K = .func (.func 41) #[] #[cv]) (P : Fo → Bool) (A : Option Addr) (n c : Nat) (o : List Fo) (w : World) (hA : RowsAt encF 2 w A o) (hl : o.length = n) (hn : n ≤ 100000)
    (CK : ∀ a ∈ o, ∀ W, Below w.heap.size w W → Calls Try.prog 41 #[.agg #[.int .i64 a.f, .int .i64 a.t], cv] W fun e w' => e = .returned (.bool (P a)) ∧ Below W.heap.size W w') (r : Int) (hr : r = if o.findIdx P < o.length then (o.findIdx P : Int) else -1) :
    Calls Try.prog 66 #[.slice A n c, K] w fun e w' => e = .returned (.int .i64 r) ∧ Below w.heap.size w w' := by
  have HA := Lib.hid hA
  have HL := Lib.hid hl
  have HCK := Lib.hid CK
  have HR := Lib.hid hr
  clear hA hl CK hr
  subst hK
  go_enter Try.func66, Try.ntmps66
  go_wp2_with fail
  go_loopg [8] n (fun g i wr => ∃ (j : Nat), i = .int .i64 (j : Int) ∧ j ≤ n ∧ n - j ≤ g ∧ Hid (j ≤ o.findIdx P) ∧ Hid (Below w.heap.size w wr))
  case atStart => exact ⟨0, rfl, by omega, by omega, Lib.hid (Nat.zero_le _), Lib.hid (Below.refl _ _)⟩
  case round =>
    obtain ⟨j, rfl, h1, h2, hs, hb⟩ := hrel
    by_cases hlt : j < n
    · have hjl : j < o.length := by rw [HL.out]; exact hlt
      obtain ⟨bA, off, rfl, hbA, hcell⟩ := (HA.out.below hb.out).at1 hjl
      have d0 := hcell 0 (by omega)
      have d1 := hcell 1 (by omega)
      have CKj := Lib.hid (HCK.out o[j] (List.getElem_mem hjl) wr hb.out)
      obtain ⟨bv, hbv⟩ : ∃ bv, P o[j] = bv := ⟨_, rfl⟩
      rw [hbv] at CKj
      have HBV := Lib.hid hbv
      clear hcell hbv
      have i1 : (0 : Int) ≤ j := by omega
      have i2 : (j : Int) < n := by omega
      cases bv
      · have HS : Hid (j + 1 ≤ o.findIdx P) := Lib.hid (by
          rcases Nat.lt_or_ge (o.findIdx P) (j + 1) with g | g
          · have e : o.findIdx P = j := by have := hs.out; omega
            have h5 := List.findIdx_getElem (p := P) (w := (by rw [e]; exact hjl : o.findIdx P < o.length))
            simp only [e] at h5
            rw [HBV.out] at h5
            cases h5
          · exact g)
        generalize o[j] = a at *
        simp [encF] at d0 d1
        go_wp2_with (refine (CKj.out).mono ?_; rintro e w1 ⟨rfl, hb1⟩; have HB1 := Lib.hid (hb.out.trans (hb1.mono hb.out.size)); clear hb1)
        go_roundg (gk - 1)
        case measure => omega
        case rel => exact ⟨j + 1, by go_num, by omega, by omega, HS, HB1⟩
      · have HE : Hid (r = j) := Lib.hid (by
          have e : o.findIdx P = j := by
            refine Nat.le_antisymm ?_ hs.out
            rcases Nat.lt_or_ge j (o.findIdx P) with g | g
            · have := List.not_of_lt_findIdx g
              rw [HBV.out] at this
              cases this
            · exact g
          rw [HR.out, e, if_pos hjl])
        generalize o[j] = a at *
        simp [encF] at d0 d1
        go_wp2_with (refine (CKj.out).mono ?_; rintro e w1 ⟨rfl, hb1⟩; have HB1 := Lib.hid (hb.out.trans (hb1.mono hb.out.size)); clear hb1)
        go_ret
        exact ⟨by rw [HE.out]; rfl, HB1.out⟩
    · obtain rfl : j = n := by omega
      have HE : Hid (r = -1) := Lib.hid (by rw [HR.out, if_neg (by have := hs.out; rw [HL.out]; omega)])
      go_wp2
      go_ret
      exact ⟨by rw [HE.out]; rfl, hb.out⟩
set_option maxHeartbeats 4000000 in
set_option maxRecDepth 100000 in
theorem fDelF_any (K : Value) (cv : Value) (hK : K = .func (.func 41) #[] #[cv]) (P : Fo → Bool) (g n cap B : Nat) (o : List Fo) (w : World) (hown : w.ownsRow B 33 2 (.slice (some ⟨g, 0, none⟩) n cap) n (kfl encF o)) (hn : n ≤ 100000)
    (CK : ∀ a ∈ o, ∀ W, OnB g w W → Calls Try.prog 41 #[.agg #[.int .i64 a.f, .int .i64 a.t], cv] W fun e w' => e = .returned (.bool (P a)) ∧ Below W.heap.size W w') :
    Calls Try.prog 40 #[.slice (some ⟨g, 0, none⟩) n cap, K] w fun e w' => ∃ i, e = .returned (.slice (some ⟨g, 0, none⟩) i cap) ∧ w'.ownsRow B 33 2 (.slice (some ⟨g, 0, none⟩) i cap) i (kfl encF (o.filter fun a => !P a)) ∧ OnB g w w' := by
  have hl := own_len encF_len (by omega) hown
  obtain ⟨A0, c0, hv0, hR0, _, _⟩ := rows_of_own encF_len (by omega) hown
  injection hv0 with hv1 _ hv2
  subst hv1
  subst hv2
  obtain ⟨cur0, hraw0, hcs0, hncap, hBg⟩ := own_rawD hown
  have hgl := hraw0.lt
  obtain ⟨i0, hi0⟩ : ∃ i0, o.findIdx P = i0 := ⟨_, rfl⟩
  have hle := List.findIdx_le_length (xs := o) (p := P)
  have hlow : ∀ j (h : j < o.length), j < i0 → P o[j] = false := fun j h hj => by
    have h5 := List.not_of_lt_findIdx (xs := o) (p := P) (by rw [hi0]; exact hj : j < o.findIdx P)
    simpa using h5
  rw [hi0] at hle
  have CI := Lib.hid (fIndexF_any K cv hK P (some ⟨g, 0, none⟩) n cap o w hR0 hl hn (fun a ha W hW => CK a ha W ⟨hW.mono (by omega), fun k hk _ => hW.block k hk⟩) (if i0 < o.length then (i0 : Int) else -1) (by rw [hi0]))
  have HCK := Lib.hid CK
  have HOWN := Lib.hid hown
  have HL := Lib.hid hl
  subst hK
  by_cases hi : i0 < o.length
  · rw [if_pos hi] at CI
    have hi1 : i0 < n := by rw [← hl]; exact hi
    have hP : P o[i0] = true := by
      have h5 := List.findIdx_getElem (xs := o) (p := P) (w := by rw [hi0]; exact hi)
      simp only [hi0] at h5
      exact h5
    have hF0 : (o.take i0).filter (fun a => !P a) = o.take i0 := by
      rw [List.filter_eq_self]
      intro a ha
      obtain ⟨j, hj, rfl⟩ := List.mem_take_iff_getElem.1 ha
      rw [hlow j (by omega) (by omega)]; rfl
    have hF1 : (o.take (i0 + 1)).filter (fun a => !P a) = o.take i0 := by
      rw [List.take_succ_eq_append_getElem hi, List.filter_append, hF0, List.filter_cons_of_neg (by rw [hP]; simp)]
      simp
    have HF1 := Lib.hid hF1
    obtain ⟨x0, hX0⟩ : ∃ x0, o.take i0 ++ [x0] ++ o.drop (i0 + 1) = o := ⟨o[i0], by rw [← List.take_succ_eq_append_getElem hi, List.take_append_drop]⟩
    have HX0 := Lib.hid hX0
    have HIO := Lib.hid hi
    have k0 : ((i0 : Int) == -1) = false := by simp
    have k1 : decide ((i0 : Int) = -1) = false := decide_eq_false (by omega)
    clear hown CK hR0 hraw0 hcs0 hi0 hlow hP hF0 hF1 hX0 hle hl hi
    go_enter Try.func40, Try.ntmps40
    go_wp2_with (refine (CI.out).mono ?_; rintro e w1 ⟨rfl, hb1⟩; have HB1 : Hid (OnB g w w1) := Lib.hid ⟨hb1.mono (by omega), fun k hk _ => hb1.block k hk⟩; have HO1 := Lib.hid (own_below HOWN.out hb1); clear hb1)
    go_loopg [5, 6] n (fun gg i j wr => ∃ (a b : Nat) (F T : List Fo), i = .int .i64 (a : Int) ∧ j = .int .i64 (b : Int) ∧ a < b ∧ b ≤ n ∧ n - b ≤ gg ∧ F.length = a ∧ T.length = b - a ∧ Hid (F = (o.take b).filter fun a => !P a) ∧ Hid (OnB g w wr) ∧ Hid (wr.ownsRow B 33 2 (.slice (some ⟨g, 0, none⟩) n cap) n (kfl encF (F ++ T ++ o.drop b))))
    case atStart => exact ⟨i0, i0 + 1, o.take i0, [x0], rfl, by go_num, by omega, by omega, by omega, by rw [List.length_take, HL.out]; omega, by simp, Lib.hid HF1.out.symm, HB1, Lib.hid (by rw [HX0.out]; exact HO1.out)⟩
    case round =>
      clear HB1 HO1 hi1 k0 k1
      obtain ⟨i, j, F, T, rfl, rfl, h1, h2, h3, h4, h5, hF, hb, hown⟩ := hrel
      by_cases hlt : j < n
      · have hjl : j < o.length := by rw [HL.out]; exact hlt
        have hXl : j < (F ++ T ++ o.drop j).length := by rw [List.length_append, List.length_append, List.length_drop]; omega
        have hXj : (F ++ T ++ o.drop j)[j] = o[j] := by
          rw [List.getElem_append_right (by rw [List.length_append]; omega), List.getElem_drop]
          congr 1
          rw [List.length_append]; omega
        have f0 := (kfl_at encF_len (F ++ T ++ o.drop j) j hXl 0 (by omega)).trans (by rw [hXj])
        have d0 := hown.out.cellAt (j * 2 + 0) (by omega)
        rw [f0] at d0
        have f1 := (kfl_at encF_len (F ++ T ++ o.drop j) j hXl 1 (by omega)).trans (by rw [hXj])
        have d1 := hown.out.cellAt (j * 2 + 1) (by omega)
        rw [f1] at d1
        have HFN := Lib.hid (show (o.take (j + 1)).filter (fun a => !P a) = F ++ (if P o[j] = true then [] else [o[j]]) from by
          rw [List.take_succ_eq_append_getElem hjl, List.filter_append, ← hF.out]
          cases hp : P o[j] <;> simp [hp])
        have hdr := List.drop_eq_getElem_cons hjl
        have HDR := Lib.hid hdr
        have CKj := Lib.hid fun (W : World) (hW : OnB g w W) => HCK.out o[j] (List.getElem_mem hjl) W hW
        obtain ⟨bv, hbv⟩ : ∃ bv, P o[j] = bv := ⟨_, rfl⟩
        rw [hbv] at CKj HFN
        have HXL := Lib.hid hXl
        clear hbv hXj hdr f0 f1 hXl
        generalize o[j] = a at *
        simp [encF] at d0 d1
        have i1 : (0 : Int) ≤ j := by omega
        have i2 : (j : Int) < n := by omega
        have i3 : (0 : Int) ≤ i := by omega
        have i4 : (i : Int) < n := by omega
        obtain ⟨W3, hW3⟩ : ∃ W3, wr.alloc (.cells #[.int .i64 a.f, .int .i64 a.t] 33) = W3 := ⟨_, rfl⟩
        have x3 : Below wr.heap.size wr W3 := by rw [← hW3]; exact (Below.refl _ _).alloc (Nat.le_refl _) _
        have R3 : RawAt 33 W3 wr.heap.size #[.int .i64 a.f, .int .i64 a.t] := by rw [← hW3]; exact heap_alloc_new wr _
        have e0 := RawAt.cell R3 0
        have e1 := RawAt.cell R3 1
        simp at e0 e1
        have HB3 : Hid (OnB g w W3) := Lib.hid (hb.out.trans ⟨x3.mono (by have := hb.out.below.size; omega), fun k hk _ => x3.block k hk⟩)
        have HO3 := Lib.hid (own_below hown.out x3)
        have CK3 := Lib.hid (CKj.out W3 HB3.out)
        have HR3 := Lib.hid R3
        clear CKj R3 x3 hb hown hF
        cases bv
        · go_wp2_with (refine (CK3.out).mono ?_; rintro e w4 ⟨rfl, hb4⟩; have HB4 : Hid (OnB g w w4) := Lib.hid (HB3.out.trans ⟨hb4.mono (by have := HB3.out.below.size; omega), fun k hk _ => hb4.block k hk⟩); have HO4 := Lib.hid (own_below HO3.out hb4); have R4 := RawAt.below HR3.out hb4 HR3.out.lt; have g0 := RawAt.cell R4 0; have g1 := RawAt.cell R4 1; simp at g0 g1; clear R4 hb4; have q0 := own_freeD HO4.out (i * 2 + 0); have q1 := own_freeD HO4.out (i * 2 + 1); obtain ⟨v0, p0⟩ := own_someD encF_len HO4.out (by omega) (i := i) (by omega) (c := 0) (by omega); obtain ⟨v1, p1⟩ := own_someD encF_len HO4.out (by omega) (i := i) (by omega) (c := 1) (by omega); simp only [Nat.add_zero] at p0 q0)
          obtain ⟨t, T', rfl⟩ : ∃ t T', T = t :: T' := by
            cases T with
            | nil => simp at h5; omega
            | cons t T' => exact ⟨t, T', rfl⟩
          have hset : (F ++ (t :: T') ++ o.drop j).set i a = (F ++ [a]) ++ (T' ++ [a]) ++ o.drop (j + 1) := by
            rw [HDR.out, List.append_assoc, List.set_append_right _ _ (by omega), h4, Nat.sub_self]
            simp
          have ho5 := own_setD (encF a) (i * 2) HO4.out
          rw [kfl_setD encF_len _ i (by have := HXL.out; omega) a, hset] at ho5
          have HO5 := Lib.hid ho5
          have HB5 := Lib.hid (OnB.sets (encF a) (i * 2) HB4.out)
          clear hset ho5
          go_roundg (gk - 1)
          case measure => omega
          case rel => exact ⟨i + 1, j + 1, F ++ [a], T' ++ [a], by go_num, by go_num, by omega, by omega, by omega, by simp; omega, by simp at h5 ⊢; omega, Lib.hid (by rw [HFN.out]; simp), HB5, HO5⟩
        · go_wp2_with (refine (CK3.out).mono ?_; rintro e w4 ⟨rfl, hb4⟩; have HB4 : Hid (OnB g w w4) := Lib.hid (HB3.out.trans ⟨hb4.mono (by have := HB3.out.below.size; omega), fun k hk _ => hb4.block k hk⟩); have HO4 := Lib.hid (own_below HO3.out hb4); clear hb4)
          go_roundg (gk - 1)
          case measure => omega
          case rel => exact ⟨i, j + 1, F, T ++ [a], rfl, by go_num, by omega, by omega, by omega, h4, by simp; omega, Lib.hid (by rw [HFN.out]; simp), HB4, Lib.hid (by have := HO4.out; rw [HDR.out] at this; simpa using this)⟩
      · obtain rfl : j = n := by omega
        have hF2 : F = o.filter (fun a => !P a) := by rw [hF.out, List.take_of_length_le (by rw [HL.out]; omega)]
        have ho2 := hown.out
        rw [List.drop_of_length_le (by rw [HL.out]; omega), List.append_nil] at ho2
        obtain ⟨cur, hraw, hcs, _, _⟩ := own_rawD ho2
        have hne : ¬ cap = i := by omega
        have hs1 : ∀ V, (Instr.slice 22 (.slice (some ⟨g, 0, none⟩) j cap) (some (.int .i64 (i : Int))) none none).run Try.prog V = .ok (.slice (some ⟨g, i * 2, none⟩) (j - i) (cap - i)) V := fun V => by
          have := cutK_tl fo_slt (some ⟨g, 0, none⟩) j cap i (by omega) V
          have e9 : cutK (some ⟨g, 0, none⟩) cap 2 i = some ⟨g, i * 2, none⟩ := by
            unfold cutK
            rw [if_neg hne]
            show some (Addr.add ⟨g, 0, none⟩ (i * 2)) = _
            rw [Go.WideShapes.add_plain, Nat.zero_add]
          rw [e9] at this
          exact this
        have hs2 : ∀ V, (Instr.slice 22 (.slice (some ⟨g, 0, none⟩) j cap) none (some (.int .i64 (i : Int))) none).run Try.prog V = .ok (.slice (some ⟨g, 0, none⟩) i cap) V := fun V => cutK_hd fo_slt (some ⟨g, 0, none⟩) j cap i (by omega) V
        have hcl := fun ty => run_clearD fo_slt (z := (Value.agg #[.int .i64 0, .int .i64 0])) (fun V => by kernel_rfl) rfl (by decide) wr ty g (i * 2) (j - i) (cap - i) cur hraw (by
          rw [hcs, ← Nat.add_mul]
          exact Nat.mul_le_mul_right _ (by omega)) (by omega)
        have ho3 := own_clearD encF_len ho2 h4 (by omega) (Builtin.zeroCells ((Value.agg #[.int .i64 0, .int .i64 0])).cells (j - i)).toList
        rw [hF2] at ho3
        have HO3 := Lib.hid ho3
        have HB3 := Lib.hid (OnB.sets (Builtin.zeroCells ((Value.agg #[.int .i64 0, .int .i64 0])).cells (j - i)).toList (i * 2) hb.out)
        clear ho2 hraw hcs ho3 hown hF hF2
        generalize (Builtin.zeroCells ((Value.agg #[.int .i64 0, .int .i64 0])).cells (j - i)).toList = zs at *
        go_wp2
        go_ret
        exact ⟨i, rfl, HO3.out, HB3.out⟩
  · rw [if_neg hi] at CI
    have hlow2 : o.filter (fun a => !P a) = o := by
      rw [List.filter_eq_self]
      intro a ha
      obtain ⟨j, hj, rfl⟩ := List.mem_iff_getElem.1 ha
      rw [hlow j hj (by omega)]; rfl
    clear hown CK hR0 hraw0 hcs0 hi0 hlow hle hl hi
    go_enter Try.func40, Try.ntmps40
    go_wp2_with (refine (CI.out).mono ?_; rintro e w1 ⟨rfl, hb1⟩; have HB1 : Hid (OnB g w w1) := Lib.hid ⟨hb1.mono (by omega), fun k hk _ => hb1.block k hk⟩; have HO1 := Lib.hid (own_below HOWN.out hb1); clear hb1)
    go_ret
    exact ⟨n, rfl, by rw [hlow2]; exact HO1.out, HB1.out⟩
end Go.Proofs.Ytnfjleobcfhpnaa
