/- Creases: what Update asks: spans, across, hides, DeleteFunc; the document's Across. Creases: the closures of Update; across of any spans; ahead, behind. Creases: ahead and behind of any crease. Creases: what Update is asked and leaves; DeleteFunc of spans not within. -/
import Derived.Test.YtjkmkobnfhepaaaGreatCrC
import Derived.Test.YtjkmkobnfhepaaaGreatCrE
import Derived.Test.YtjkmkobnfhepaaaGreatCrZ
import Derived.Test.YtjkmkobnfhepaaaGreatDelM
import Derived.Test.YtjkmkobnfhepaaaGreatCrNi
import Derived.Test.YtjkmkobnfhepaaaGreatCrD
namespace Go.Proofs.YtjkmkobnfhepaaaGreat
open Go.RowKit
set_option linter.unusedVariables false
set_option maxHeartbeats 2000000 in
theorem cSpans_any (a b n : Int) (w : World) (r : Bool) (hr : r = true ↔ 0 ≤ a ∧ a ≤ b ∧ b ≤ n) : Calls Tryz.prog 35 #[.agg #[.int .i64 a, .int .i64 b], .int .i64 n] w fun e w' => e = .returned (.bool r) ∧ Below w.heap.size w w' := by
  have HF := Lib.hid hr; clear hr
  have hT : (0 ≤ a ∧ a ≤ b ∧ b ≤ n) → r = true := fun h => HF.out.2 h
  have hN : ¬ (0 ≤ a ∧ a ≤ b ∧ b ≤ n) → r = false := fun h => by cases r; rfl; exact absurd (HF.out.1 rfl) h
  clear HF
  by_cases g1 : 0 ≤ a
  · have k1 : decide (0 ≤ a) = true := decide_eq_true g1
    by_cases g2 : a ≤ b
    · have k2 : decide (a ≤ b) = true := decide_eq_true g2
      by_cases g3 : b ≤ n
      · have k3 : decide (b ≤ n) = true := decide_eq_true g3
        obtain rfl := hT ⟨g1, g2, g3⟩
        clear hT hN
        go_enter Tryz.func35, Tryz.ntmps35
        go_wp2
        go_ret
        exact ⟨by simp, (Below.refl _ _).alloc (Nat.le_refl _) _⟩
      · have k3 : decide (b ≤ n) = false := decide_eq_false g3
        obtain rfl := hN (fun h => g3 h.2.2)
        clear hT hN
        go_enter Tryz.func35, Tryz.ntmps35
        go_wp2
        go_ret
        exact ⟨by simp, (Below.refl _ _).alloc (Nat.le_refl _) _⟩
    · have k2 : decide (a ≤ b) = false := decide_eq_false g2
      obtain rfl := hN (fun h => g2 h.2.1)
      clear hT hN
      go_enter Tryz.func35, Tryz.ntmps35
      go_wp2
      go_ret
      exact ⟨by simp, (Below.refl _ _).alloc (Nat.le_refl _) _⟩
  · have k1 : decide (0 ≤ a) = false := decide_eq_false g1
    obtain rfl := hN (fun h => g1 h.1)
    clear hT hN
    go_enter Tryz.func35, Tryz.ntmps35
    go_wp2
    go_ret
    exact ⟨by simp, (Below.refl _ _).alloc (Nat.le_refl _) _⟩
/-- Is one of some spans on both sides of a place? -/
def acr (l : List (Int × Int)) (p : Int) : Bool := l.any fun x => decide (x.1 < p ∧ p < x.2)
theorem wnt_acr : ∀ (l : List (Int × Int)) (f t p : Int), CrOk f l t → (wnt p p l = p ↔ acr l p = false)
  | [], _, _, p, _ => by simp [wnt, acr]
  | x :: l, f, t, p, h => by
    obtain ⟨h1, h2, h3⟩ := h
    rw [wnt]
    unfold acr
    rw [List.any_cons]
    by_cases g : x.1 < p ∧ p < x.2
    · rw [if_pos g, wnt_ahead p l x.2 t _ h3 (by omega), decide_eq_true g]
      simp
      omega
    · rw [if_neg g, decide_eq_false g, Bool.false_or]
      exact wnt_acr l x.2 t p h3
set_option maxHeartbeats 8000000 in
set_option maxRecDepth 100000 in
theorem cHides_any {p : Option Addr} {L : List (Int × Int)} {z : Int} {h : Nat} {w : World} (ht : CrAt w p (crP 0 L z) h) (hcr : CrOk 0 L z) (v : Int) (h0 : 0 ≤ v) (h1 : v ≤ z) :
    Calls Tryz.prog 36 #[.pointer p, .int .i64 v] w fun e w' => e = .returned (.bool (acr L v)) ∧ Below w.heap.size w w' := by
  obtain ⟨e0, e1⟩ := crP_sums L 0 z hcr
  obtain ⟨⟨q1, q2⟩, q3⟩ := cr_out_in L 0 z v hcr h0 (by omega)
  rw [Int.add_zero, Int.add_zero] at q3
  have CO := Lib.hid (crOut_yes ht v ⟨h0, by rw [e0]; omega⟩)
  have CI := Lib.hid fun (W : World) (hW : Below w.heap.size w W) => crIn_yes (ht.below hW) (coutP (crP 0 L z) v) ⟨q1, by rw [e1]; omega⟩
  rw [q3] at CI
  have hb := wnt_acr L 0 z v hcr
  have HB : Hid ((wnt v v L != v) = acr L v) := Lib.hid (by
    cases ha : acr L v
    · have := hb.2 ha
      simpa using this
    · have : ¬ wnt v v L = v := fun h => by rw [hb.1 h] at ha; cases ha
      simpa using this)
  clear hb q1 q2 q3 e0 e1 ht hcr
  generalize coutP (crP 0 L z) v = x at *
  generalize wnt v v L = y at *
  go_enter Tryz.func36, Tryz.ntmps36
  go_wp2_with fail
  with_reducible refine (CO.out).mono ?_
  rintro e w1 ⟨rfl, b1⟩
  have HB1 := Lib.hid b1
  clear b1
  go_wp2_with fail
  with_reducible refine (CI.out _ HB1.out).mono ?_
  rintro e w2 ⟨rfl, b2⟩
  have HB2 := Lib.hid (HB1.out.trans (b2.mono HB1.out.size))
  clear b2
  go_wp2
  go_ret
  exact ⟨by rw [← HB.out]; rfl, HB2.out⟩
set_option maxHeartbeats 8000000 in
set_option maxRecDepth 100000 in
theorem rAcross16 (A : Option Addr) (m c : Nat) (l : List (Int × Int)) (p : Int) (w : World) (hA : RowsAt wencS 2 w A l) (hl : l.length = m) (hm : m ≤ 1000000) :
    Calls Tryz.prog 16 #[.slice A m c, .int .i64 p] w fun e w' => e = .returned (.bool (acr l p)) ∧ Below w.heap.size w w' := by
  have HA := Lib.hid hA
  have HL := Lib.hid hl
  clear hA hl
  go_enter Tryz.func16, Tryz.ntmps16
  go_wp2_with fail
  go_loopg [9] m (fun g i wr => ∃ (j : Nat), i = .int .i64 j ∧ j ≤ m ∧ m - j ≤ g ∧ Hid (acr (l.take j) p = false) ∧ Hid (Below w.heap.size w wr))
  case atStart => exact ⟨0, rfl, by omega, by omega, Lib.hid rfl, Lib.hid (Below.refl _ _)⟩
  case round =>
    obtain ⟨j, rfl, j1, j2, hn, hb⟩ := hrel
    by_cases hlt : j < m
    · have hjl : j < l.length := by rw [HL.out]; exact hlt
      obtain ⟨bA, off, rfl, hbA, d0, d1⟩ := wrowsS (HA.out.below hb.out) hjl
      have HN : Hid (¬ (l[j].1 < p ∧ p < l[j].2) → acr (l.take (j + 1)) p = false) := Lib.hid (fun g => by
        unfold acr at *
        rw [List.take_succ_eq_append_getElem hjl, List.any_append, hn.out]
        simpa using g)
      have HY : Hid ((l[j].1 < p ∧ p < l[j].2) → acr l p = true) := Lib.hid (fun g => by
        unfold acr
        rw [List.any_eq_true]
        exact ⟨l[j], List.getElem_mem hjl, decide_eq_true g⟩)
      clear hn
      generalize l[j] = x at *
      obtain ⟨x1, x2⟩ := x
      simp only at *
      have i1 : (0 : Int) ≤ j := by omega
      have i2 : (j : Int) < m := by omega
      have HB3 := Lib.hid (hb.out.trans (((Below.refl _ _).alloc (Nat.le_refl _) (.cells #[.int .i64 x1, .int .i64 x2] 27)).mono hb.out.size))
      by_cases g1 : x1 < p
      · have k1 : decide (x1 < p) = true := decide_eq_true g1
        by_cases g2 : p < x2
        · have k2 : decide (p < x2) = true := decide_eq_true g2
          have HR := Lib.hid (HY.out ⟨g1, g2⟩)
          clear HN HY
          go_wp2
          go_ret
          exact ⟨by rw [HR.out]; rfl, HB3.out⟩
        · have k2 : decide (p < x2) = false := decide_eq_false g2
          have HR := Lib.hid (HN.out (fun h => g2 h.2))
          clear HN HY
          go_wp2
          go_roundg (gk - 1)
          case measure => omega
          case rel => exact ⟨j + 1, by go_num, by omega, by omega, HR, HB3⟩
      · have k1 : decide (x1 < p) = false := decide_eq_false g1
        have HR := Lib.hid (HN.out (fun h => g1 h.1))
        clear HN HY
        go_wp2
        go_roundg (gk - 1)
        case measure => omega
        case rel => exact ⟨j + 1, by go_num, by omega, by omega, HR, HB3⟩
    · obtain rfl : j = m := by omega
      have hn2 := hn.out
      rw [List.take_of_length_le (by rw [HL.out]; exact Nat.le_refl _)] at hn2
      have HN := Lib.hid hn2
      clear hn hn2
      go_wp2
      go_ret
      exact ⟨by rw [HN.out]; rfl, hb.out⟩
set_option maxHeartbeats 4000000 in
set_option maxRecDepth 100000 in
theorem caIndex_any (K : Value) (cv : Value) (hK : K = .func (.func 71) #[] #[cv]) (P : (Int × Int) → Bool) (A : Option Addr) (n c : Nat) (o : List (Int × Int)) (w : World) (hA : RowsAt wencS 2 w A o) (hl : o.length = n) (hn : n ≤ 100000)
    (CK : ∀ a ∈ o, ∀ W, Below w.heap.size w W → Calls Tryz.prog 71 #[.agg #[.int .i64 a.1, .int .i64 a.2], cv] W fun e w' => e = .returned (.bool (P a)) ∧ Below W.heap.size W w') (r : Int) (hr : r = if o.findIdx P < o.length then (o.findIdx P : Int) else -1) :
    Calls Tryz.prog 72 #[.slice A n c, K] w fun e w' => e = .returned (.int .i64 r) ∧ Below w.heap.size w w' := by
  have HA := Lib.hid hA
  have HL := Lib.hid hl
  have HCK := Lib.hid CK
  have HR := Lib.hid hr
  clear hA hl CK hr
  subst hK
  go_enter Tryz.func72, Tryz.ntmps72
  go_wp2_with fail
  go_loopg [8] n (fun g i wr => ∃ (j : Nat), i = .int .i64 (j : Int) ∧ j ≤ n ∧ n - j ≤ g ∧ Hid (j ≤ o.findIdx P) ∧ Hid (Below w.heap.size w wr))
  case atStart => exact ⟨0, rfl, by omega, by omega, Lib.hid (Nat.zero_le _), Lib.hid (Below.refl _ _)⟩
  case round =>
    obtain ⟨j, rfl, h1, h2, hs, hb⟩ := hrel
    by_cases hlt : j < n
    · have hjl : j < o.length := by rw [HL.out]; exact hlt
      obtain ⟨bA, off, rfl, hbA, hcell⟩ := (HA.out.below hb.out).at1 hjl
      have d0 := hcell 0 (by omega)
      have d1 := hcell 1 (by omega)
      have CKj := Lib.hid (HCK.out o[j] (List.getElem_mem hjl) wr hb.out)
      obtain ⟨bv, hbv⟩ : ∃ bv, P o[j] = bv := ⟨_, rfl⟩
      rw [hbv] at CKj
      have HBV := Lib.hid hbv
      clear hcell hbv
      have i1 : (0 : Int) ≤ j := by omega
      have i2 : (j : Int) < n := by omega
      cases bv
      · have HS : Hid (j + 1 ≤ o.findIdx P) := Lib.hid (by
          rcases Nat.lt_or_ge (o.findIdx P) (j + 1) with g | g
          · have e : o.findIdx P = j := by have := hs.out; omega
            have h5 := List.findIdx_getElem (p := P) (w := (by rw [e]; exact hjl : o.findIdx P < o.length))
            simp only [e] at h5
            rw [HBV.out] at h5
            cases h5
          · exact g)
        generalize o[j] = a at *
        simp [wencS] at d0 d1
        go_wp2_with (refine (CKj.out).mono ?_; rintro e w1 ⟨rfl, hb1⟩; have HB1 := Lib.hid (hb.out.trans (hb1.mono hb.out.size)); clear hb1)
        go_roundg (gk - 1)
        case measure => omega
        case rel => exact ⟨j + 1, by go_num, by omega, by omega, HS, HB1⟩
      · have HE : Hid (r = j) := Lib.hid (by
          have e : o.findIdx P = j := by
            refine Nat.le_antisymm ?_ hs.out
            rcases Nat.lt_or_ge j (o.findIdx P) with g | g
            · have := List.not_of_lt_findIdx g
              rw [HBV.out] at this
              cases this
            · exact g
          rw [HR.out, e, if_pos hjl])
        generalize o[j] = a at *
        simp [wencS] at d0 d1
        go_wp2_with (refine (CKj.out).mono ?_; rintro e w1 ⟨rfl, hb1⟩; have HB1 := Lib.hid (hb.out.trans (hb1.mono hb.out.size)); clear hb1)
        go_ret
        exact ⟨by rw [HE.out]; rfl, HB1.out⟩
    · obtain rfl : j = n := by omega
      have HE : Hid (r = -1) := Lib.hid (by rw [HR.out, if_neg (by have := hs.out; rw [HL.out]; omega)])
      go_wp2
      go_ret
      exact ⟨by rw [HE.out]; rfl, hb.out⟩
set_option maxHeartbeats 4000000 in
set_option maxRecDepth 100000 in
theorem cuIndex_any (K : Value) (cv : Value) (hK : K = .func (.func 39) #[] #[cv]) (P : (Int × Int) → Bool) (A : Option Addr) (n c : Nat) (o : List (Int × Int)) (w : World) (hA : RowsAt wencS 2 w A o) (hl : o.length = n) (hn : n ≤ 100000)
    (CK : ∀ a ∈ o, ∀ W, Below w.heap.size w W → Calls Tryz.prog 39 #[.agg #[.int .i64 a.1, .int .i64 a.2], cv] W fun e w' => e = .returned (.bool (P a)) ∧ Below W.heap.size W w') (r : Int) (hr : r = if o.findIdx P < o.length then (o.findIdx P : Int) else -1) :
    Calls Tryz.prog 72 #[.slice A n c, K] w fun e w' => e = .returned (.int .i64 r) ∧ Below w.heap.size w w' := by
  have HA := Lib.hid hA
  have HL := Lib.hid hl
  have HCK := Lib.hid CK
  have HR := Lib.hid hr
  clear hA hl CK hr
  subst hK
  go_enter Tryz.func72, Tryz.ntmps72
  go_wp2_with fail
  go_loopg [8] n (fun g i wr => ∃ (j : Nat), i = .int .i64 (j : Int) ∧ j ≤ n ∧ n - j ≤ g ∧ Hid (j ≤ o.findIdx P) ∧ Hid (Below w.heap.size w wr))
  case atStart => exact ⟨0, rfl, by omega, by omega, Lib.hid (Nat.zero_le _), Lib.hid (Below.refl _ _)⟩
  case round =>
    obtain ⟨j, rfl, h1, h2, hs, hb⟩ := hrel
    by_cases hlt : j < n
    · have hjl : j < o.length := by rw [HL.out]; exact hlt
      obtain ⟨bA, off, rfl, hbA, hcell⟩ := (HA.out.below hb.out).at1 hjl
      have d0 := hcell 0 (by omega)
      have d1 := hcell 1 (by omega)
      have CKj := Lib.hid (HCK.out o[j] (List.getElem_mem hjl) wr hb.out)
      obtain ⟨bv, hbv⟩ : ∃ bv, P o[j] = bv := ⟨_, rfl⟩
      rw [hbv] at CKj
      have HBV := Lib.hid hbv
      clear hcell hbv
      have i1 : (0 : Int) ≤ j := by omega
      have i2 : (j : Int) < n := by omega
      cases bv
      · have HS : Hid (j + 1 ≤ o.findIdx P) := Lib.hid (by
          rcases Nat.lt_or_ge (o.findIdx P) (j + 1) with g | g
          · have e : o.findIdx P = j := by have := hs.out; omega
            have h5 := List.findIdx_getElem (p := P) (w := (by rw [e]; exact hjl : o.findIdx P < o.length))
            simp only [e] at h5
            rw [HBV.out] at h5
            cases h5
          · exact g)
        generalize o[j] = a at *
        simp [wencS] at d0 d1
        go_wp2_with (refine (CKj.out).mono ?_; rintro e w1 ⟨rfl, hb1⟩; have HB1 := Lib.hid (hb.out.trans (hb1.mono hb.out.size)); clear hb1)
        go_roundg (gk - 1)
        case measure => omega
        case rel => exact ⟨j + 1, by go_num, by omega, by omega, HS, HB1⟩
      · have HE : Hid (r = j) := Lib.hid (by
          have e : o.findIdx P = j := by
            refine Nat.le_antisymm ?_ hs.out
            rcases Nat.lt_or_ge j (o.findIdx P) with g | g
            · have := List.not_of_lt_findIdx g
              rw [HBV.out] at this
              cases this
            · exact g
          rw [HR.out, e, if_pos hjl])
        generalize o[j] = a at *
        simp [wencS] at d0 d1
        go_wp2_with (refine (CKj.out).mono ?_; rintro e w1 ⟨rfl, hb1⟩; have HB1 := Lib.hid (hb.out.trans (hb1.mono hb.out.size)); clear hb1)
        go_ret
        exact ⟨by rw [HE.out]; rfl, HB1.out⟩
    · obtain rfl : j = n := by omega
      have HE : Hid (r = -1) := Lib.hid (by rw [HR.out, if_neg (by have := hs.out; rw [HL.out]; omega)])
      go_wp2
      go_ret
      exact ⟨by rw [HE.out]; rfl, hb.out⟩
set_option maxHeartbeats 4000000 in
set_option maxRecDepth 100000 in
theorem cuDel_any (K : Value) (cv : Value) (hK : K = .func (.func 39) #[] #[cv]) (P : (Int × Int) → Bool) (g n cap B : Nat) (o : List (Int × Int)) (w : World) (hown : w.ownsRow B 27 2 (.slice (some ⟨g, 0, none⟩) n cap) n (kfl wencS o)) (hn : n ≤ 100000)
    (CK : ∀ a ∈ o, ∀ W, OnB g w W → Calls Tryz.prog 39 #[.agg #[.int .i64 a.1, .int .i64 a.2], cv] W fun e w' => e = .returned (.bool (P a)) ∧ Below W.heap.size W w') :
    Calls Tryz.prog 38 #[.slice (some ⟨g, 0, none⟩) n cap, K] w fun e w' => ∃ i, e = .returned (.slice (some ⟨g, 0, none⟩) i cap) ∧ w'.ownsRow B 27 2 (.slice (some ⟨g, 0, none⟩) i cap) i (kfl wencS (o.filter fun a => !P a)) ∧ OnB g w w' := by
  have hl := own_len wencS_len (by omega) hown
  obtain ⟨A0, c0, hv0, hR0, _, _⟩ := rows_of_own wencS_len (by omega) hown
  injection hv0 with hv1 _ hv2
  subst hv1
  subst hv2
  obtain ⟨cur0, hraw0, hcs0, hncap, hBg⟩ := own_rawD hown
  have hgl := hraw0.lt
  obtain ⟨i0, hi0⟩ : ∃ i0, o.findIdx P = i0 := ⟨_, rfl⟩
  have hle := List.findIdx_le_length (xs := o) (p := P)
  have hlow : ∀ j (h : j < o.length), j < i0 → P o[j] = false := fun j h hj => by
    have h5 := List.not_of_lt_findIdx (xs := o) (p := P) (by rw [hi0]; exact hj : j < o.findIdx P)
    simpa using h5
  rw [hi0] at hle
  have CI := Lib.hid (cuIndex_any K cv hK P (some ⟨g, 0, none⟩) n cap o w hR0 hl hn (fun a ha W hW => CK a ha W ⟨hW.mono (by omega), fun k hk _ => hW.block k hk⟩) (if i0 < o.length then (i0 : Int) else -1) (by rw [hi0]))
  have HCK := Lib.hid CK
  have HOWN := Lib.hid hown
  have HL := Lib.hid hl
  subst hK
  by_cases hi : i0 < o.length
  · rw [if_pos hi] at CI
    have hi1 : i0 < n := by rw [← hl]; exact hi
    have hP : P o[i0] = true := by
      have h5 := List.findIdx_getElem (xs := o) (p := P) (w := by rw [hi0]; exact hi)
      simp only [hi0] at h5
      exact h5
    have hF0 : (o.take i0).filter (fun a => !P a) = o.take i0 := by
      rw [List.filter_eq_self]
      intro a ha
      obtain ⟨j, hj, rfl⟩ := List.mem_take_iff_getElem.1 ha
      rw [hlow j (by omega) (by omega)]; rfl
    have hF1 : (o.take (i0 + 1)).filter (fun a => !P a) = o.take i0 := by
      rw [List.take_succ_eq_append_getElem hi, List.filter_append, hF0, List.filter_cons_of_neg (by rw [hP]; simp)]
      simp
    have HF1 := Lib.hid hF1
    obtain ⟨x0, hX0⟩ : ∃ x0, o.take i0 ++ [x0] ++ o.drop (i0 + 1) = o := ⟨o[i0], by rw [← List.take_succ_eq_append_getElem hi, List.take_append_drop]⟩
    have HX0 := Lib.hid hX0
    have HIO := Lib.hid hi
    have k0 : ((i0 : Int) == -1) = false := by simp
    have k1 : decide ((i0 : Int) = -1) = false := decide_eq_false (by omega)
    clear hown CK hR0 hraw0 hcs0 hi0 hlow hP hF0 hF1 hX0 hle hl hi
    go_enter Tryz.func38, Tryz.ntmps38
    go_wp2_with (refine (CI.out).mono ?_; rintro e w1 ⟨rfl, hb1⟩; have HB1 : Hid (OnB g w w1) := Lib.hid ⟨hb1.mono (by omega), fun k hk _ => hb1.block k hk⟩; have HO1 := Lib.hid (own_below HOWN.out hb1); clear hb1)
    go_loopg [5, 6] n (fun gg i j wr => ∃ (a b : Nat) (F T : List (Int × Int)), i = .int .i64 (a : Int) ∧ j = .int .i64 (b : Int) ∧ a < b ∧ b ≤ n ∧ n - b ≤ gg ∧ F.length = a ∧ T.length = b - a ∧ Hid (F = (o.take b).filter fun a => !P a) ∧ Hid (OnB g w wr) ∧ Hid (wr.ownsRow B 27 2 (.slice (some ⟨g, 0, none⟩) n cap) n (kfl wencS (F ++ T ++ o.drop b))))
    case atStart => exact ⟨i0, i0 + 1, o.take i0, [x0], rfl, by go_num, by omega, by omega, by omega, by rw [List.length_take, HL.out]; omega, by simp, Lib.hid HF1.out.symm, HB1, Lib.hid (by rw [HX0.out]; exact HO1.out)⟩
    case round =>
      clear HB1 HO1 hi1 k0 k1
      obtain ⟨i, j, F, T, rfl, rfl, h1, h2, h3, h4, h5, hF, hb, hown⟩ := hrel
      by_cases hlt : j < n
      · have hjl : j < o.length := by rw [HL.out]; exact hlt
        have hXl : j < (F ++ T ++ o.drop j).length := by rw [List.length_append, List.length_append, List.length_drop]; omega
        have hXj : (F ++ T ++ o.drop j)[j] = o[j] := by
          rw [List.getElem_append_right (by rw [List.length_append]; omega), List.getElem_drop]
          congr 1
          rw [List.length_append]; omega
        have f0 := (kfl_at wencS_len (F ++ T ++ o.drop j) j hXl 0 (by omega)).trans (by rw [hXj])
        have d0 := hown.out.cellAt (j * 2 + 0) (by omega)
        rw [f0] at d0
        have f1 := (kfl_at wencS_len (F ++ T ++ o.drop j) j hXl 1 (by omega)).trans (by rw [hXj])
        have d1 := hown.out.cellAt (j * 2 + 1) (by omega)
        rw [f1] at d1
        have HFN := Lib.hid (show (o.take (j + 1)).filter (fun a => !P a) = F ++ (if P o[j] = true then [] else [o[j]]) from by
          rw [List.take_succ_eq_append_getElem hjl, List.filter_append, ← hF.out]
          cases hp : P o[j] <;> simp [hp])
        have hdr := List.drop_eq_getElem_cons hjl
        have HDR := Lib.hid hdr
        have CKj := Lib.hid fun (W : World) (hW : OnB g w W) => HCK.out o[j] (List.getElem_mem hjl) W hW
        obtain ⟨bv, hbv⟩ : ∃ bv, P o[j] = bv := ⟨_, rfl⟩
        rw [hbv] at CKj HFN
        have HXL := Lib.hid hXl
        clear hbv hXj hdr f0 f1 hXl
        generalize o[j] = a at *
        simp [wencS] at d0 d1
        have i1 : (0 : Int) ≤ j := by omega
        have i2 : (j : Int) < n := by omega
        have i3 : (0 : Int) ≤ i := by omega
        have i4 : (i : Int) < n := by omega
        obtain ⟨W3, hW3⟩ : ∃ W3, wr.alloc (.cells #[.int .i64 a.1, .int .i64 a.2] 27) = W3 := ⟨_, rfl⟩
        have x3 : Below wr.heap.size wr W3 := by rw [← hW3]; exact (Below.refl _ _).alloc (Nat.le_refl _) _
        have R3 : RawAt 27 W3 wr.heap.size #[.int .i64 a.1, .int .i64 a.2] := by rw [← hW3]; exact heap_alloc_new wr _
        have e0 := RawAt.cell R3 0
        have e1 := RawAt.cell R3 1
        simp at e0 e1
        have HB3 : Hid (OnB g w W3) := Lib.hid (hb.out.trans ⟨x3.mono (by have := hb.out.below.size; omega), fun k hk _ => x3.block k hk⟩)
        have HO3 := Lib.hid (own_below hown.out x3)
        have CK3 := Lib.hid (CKj.out W3 HB3.out)
        have HR3 := Lib.hid R3
        clear CKj R3 x3 hb hown hF
        cases bv
        · go_wp2_with (refine (CK3.out).mono ?_; rintro e w4 ⟨rfl, hb4⟩; have HB4 : Hid (OnB g w w4) := Lib.hid (HB3.out.trans ⟨hb4.mono (by have := HB3.out.below.size; omega), fun k hk _ => hb4.block k hk⟩); have HO4 := Lib.hid (own_below HO3.out hb4); have R4 := RawAt.below HR3.out hb4 HR3.out.lt; have g0 := RawAt.cell R4 0; have g1 := RawAt.cell R4 1; simp at g0 g1; clear R4 hb4; have q0 := own_freeD HO4.out (i * 2 + 0); have q1 := own_freeD HO4.out (i * 2 + 1); obtain ⟨v0, p0⟩ := own_someD wencS_len HO4.out (by omega) (i := i) (by omega) (c := 0) (by omega); obtain ⟨v1, p1⟩ := own_someD wencS_len HO4.out (by omega) (i := i) (by omega) (c := 1) (by omega); simp only [Nat.add_zero] at p0 q0)
          obtain ⟨t, T', rfl⟩ : ∃ t T', T = t :: T' := by
            cases T with
            | nil => simp at h5; omega
            | cons t T' => exact ⟨t, T', rfl⟩
          have hset : (F ++ (t :: T') ++ o.drop j).set i a = (F ++ [a]) ++ (T' ++ [a]) ++ o.drop (j + 1) := by
            rw [HDR.out, List.append_assoc, List.set_append_right _ _ (by omega), h4, Nat.sub_self]
            simp
          have ho5 := own_setD (wencS a) (i * 2) HO4.out
          rw [kfl_setD wencS_len _ i (by have := HXL.out; omega) a, hset] at ho5
          have HO5 := Lib.hid ho5
          have HB5 := Lib.hid (OnB.sets (wencS a) (i * 2) HB4.out)
          clear hset ho5
          go_roundg (gk - 1)
          case measure => omega
          case rel => exact ⟨i + 1, j + 1, F ++ [a], T' ++ [a], by go_num, by go_num, by omega, by omega, by omega, by simp; omega, by simp at h5 ⊢; omega, Lib.hid (by rw [HFN.out]; simp), HB5, HO5⟩
        · go_wp2_with (refine (CK3.out).mono ?_; rintro e w4 ⟨rfl, hb4⟩; have HB4 : Hid (OnB g w w4) := Lib.hid (HB3.out.trans ⟨hb4.mono (by have := HB3.out.below.size; omega), fun k hk _ => hb4.block k hk⟩); have HO4 := Lib.hid (own_below HO3.out hb4); clear hb4)
          go_roundg (gk - 1)
          case measure => omega
          case rel => exact ⟨i, j + 1, F, T ++ [a], rfl, by go_num, by omega, by omega, by omega, h4, by simp; omega, Lib.hid (by rw [HFN.out]; simp), HB4, Lib.hid (by have := HO4.out; rw [HDR.out] at this; simpa using this)⟩
      · obtain rfl : j = n := by omega
        have hF2 : F = o.filter (fun a => !P a) := by rw [hF.out, List.take_of_length_le (by rw [HL.out]; omega)]
        have ho2 := hown.out
        rw [List.drop_of_length_le (by rw [HL.out]; omega), List.append_nil] at ho2
        obtain ⟨cur, hraw, hcs, _, _⟩ := own_rawD ho2
        have hne : ¬ cap = i := by omega
        have hs1 : ∀ V, (Instr.slice 23 (.slice (some ⟨g, 0, none⟩) j cap) (some (.int .i64 (i : Int))) none none).run Tryz.prog V = .ok (.slice (some ⟨g, i * 2, none⟩) (j - i) (cap - i)) V := fun V => by
          have := cutK_tl cspan_slt (some ⟨g, 0, none⟩) j cap i (by omega) V
          have e9 : cutK (some ⟨g, 0, none⟩) cap 2 i = some ⟨g, i * 2, none⟩ := by
            unfold cutK
            rw [if_neg hne]
            show some (Addr.add ⟨g, 0, none⟩ (i * 2)) = _
            rw [Go.WideShapes.add_plain, Nat.zero_add]
          rw [e9] at this
          exact this
        have hs2 : ∀ V, (Instr.slice 23 (.slice (some ⟨g, 0, none⟩) j cap) none (some (.int .i64 (i : Int))) none).run Tryz.prog V = .ok (.slice (some ⟨g, 0, none⟩) i cap) V := fun V => cutK_hd cspan_slt (some ⟨g, 0, none⟩) j cap i (by omega) V
        have hcl := fun ty => run_clearD cspan_slt (z := (Value.agg #[.int .i64 0, .int .i64 0])) (fun V => by kernel_rfl) rfl (by decide) wr ty g (i * 2) (j - i) (cap - i) cur hraw (by
          rw [hcs, ← Nat.add_mul]
          exact Nat.mul_le_mul_right _ (by omega)) (by omega)
        have ho3 := own_clearD wencS_len ho2 h4 (by omega) (Builtin.zeroCells ((Value.agg #[.int .i64 0, .int .i64 0])).cells (j - i)).toList
        rw [hF2] at ho3
        have HO3 := Lib.hid ho3
        have HB3 := Lib.hid (OnB.sets (Builtin.zeroCells ((Value.agg #[.int .i64 0, .int .i64 0])).cells (j - i)).toList (i * 2) hb.out)
        clear ho2 hraw hcs ho3 hown hF hF2
        generalize (Builtin.zeroCells ((Value.agg #[.int .i64 0, .int .i64 0])).cells (j - i)).toList = zs at *
        go_wp2
        go_ret
        exact ⟨i, rfl, HO3.out, HB3.out⟩
  · rw [if_neg hi] at CI
    have hlow2 : o.filter (fun a => !P a) = o := by
      rw [List.filter_eq_self]
      intro a ha
      obtain ⟨j, hj, rfl⟩ := List.mem_iff_getElem.1 ha
      rw [hlow j hj (by omega)]; rfl
    clear hown CK hR0 hraw0 hcs0 hi0 hlow hle hl hi
    go_enter Tryz.func38, Tryz.ntmps38
    go_wp2_with (refine (CI.out).mono ?_; rintro e w1 ⟨rfl, hb1⟩; have HB1 : Hid (OnB g w w1) := Lib.hid ⟨hb1.mono (by omega), fun k hk _ => hb1.block k hk⟩; have HO1 := Lib.hid (own_below HOWN.out hb1); clear hb1)
    go_ret
    exact ⟨n, rfl, by rw [hlow2]; exact HO1.out, HB1.out⟩
set_option linter.unusedVariables false
set_option maxHeartbeats 4000000 in
set_option maxRecDepth 100000 in
theorem cAcr1_any (p : Int) (y : Int × Int) (b0 : Nat) (w : World) (h : RawAt 3 w b0 #[.int .i64 p]) :
    Calls Tryz.prog 71 #[.agg #[.int .i64 y.1, .int .i64 y.2], .pointer (some ⟨b0, 0, none⟩)] w fun e w' => e = .returned (.bool (decide (y.1 < p ∧ p < y.2))) ∧ Below w.heap.size w w' := by
  obtain ⟨y1, y2⟩ := y
  simp only
  have x1 : Below w.heap.size w (w.alloc (.cells #[.int .i64 y1, .int .i64 y2] 27)) := (Below.refl _ _).alloc (Nat.le_refl _) _
  have R1 : RawAt 27 (w.alloc (.cells #[.int .i64 y1, .int .i64 y2] 27)) w.heap.size #[.int .i64 y1, .int .i64 y2] := heap_alloc_new w _
  have h1 := h.below x1 h.lt
  have c0 := RawAt.cell R1 0
  have c1 := RawAt.cell R1 1
  have e0 := RawAt.cell h1 0
  have hlt := h.lt
  simp at c0 c1 e0
  have X1 := Lib.hid x1
  clear x1 R1 h1 h
  by_cases g1 : y1 < p
  · have k1 : decide (y1 < p) = true := decide_eq_true g1
    by_cases g2 : p < y2
    · have k2 : decide (p < y2) = true := decide_eq_true g2
      rw [decide_eq_true (⟨g1, g2⟩ : y1 < p ∧ p < y2)]
      clear g1 g2
      go_enter Tryz.func71, Tryz.ntmps71
      go_wp2
      go_ret
      exact ⟨by first | rfl | simp, X1.out⟩
    · have k2 : decide (p < y2) = false := decide_eq_false g2
      rw [decide_eq_false (fun h : y1 < p ∧ p < y2 => g2 h.2)]
      clear g1 g2
      go_enter Tryz.func71, Tryz.ntmps71
      go_wp2
      go_ret
      exact ⟨by first | rfl | simp, X1.out⟩
  · have k1 : decide (y1 < p) = false := decide_eq_false g1
    rw [decide_eq_false (fun h : y1 < p ∧ p < y2 => g1 h.1)]
    clear g1
    go_enter Tryz.func71, Tryz.ntmps71
    go_wp2
    go_ret
    exact ⟨by first | rfl | simp, X1.out⟩
/-- Is a span not within another one? -/
def outs (f t : Int) (y : Int × Int) : Bool := decide (y.1 < f ∨ t < y.2)
set_option maxHeartbeats 4000000 in
set_option maxRecDepth 100000 in
theorem cUpd1_any (f t : Int) (y : Int × Int) (b0 : Nat) (w : World) (h : RawAt 27 w b0 #[.int .i64 f, .int .i64 t]) :
    Calls Tryz.prog 39 #[.agg #[.int .i64 y.1, .int .i64 y.2], .pointer (some ⟨b0, 0, none⟩)] w fun e w' => e = .returned (.bool (outs f t y)) ∧ Below w.heap.size w w' := by
  obtain ⟨y1, y2⟩ := y
  unfold outs
  simp only
  have x1 : Below w.heap.size w (w.alloc (.cells #[.int .i64 y1, .int .i64 y2] 27)) := (Below.refl _ _).alloc (Nat.le_refl _) _
  have R1 : RawAt 27 (w.alloc (.cells #[.int .i64 y1, .int .i64 y2] 27)) w.heap.size #[.int .i64 y1, .int .i64 y2] := heap_alloc_new w _
  have h1 := h.below x1 h.lt
  have c0 := RawAt.cell R1 0
  have c1 := RawAt.cell R1 1
  have e0 := RawAt.cell h1 0
  have e1 := RawAt.cell h1 1
  have hlt := h.lt
  simp at c0 c1 e0 e1
  have X1 := Lib.hid x1
  clear x1 R1 h1 h
  by_cases g1 : y1 < f
  · have k1 : decide (y1 < f) = true := decide_eq_true g1
    rw [decide_eq_true (.inl g1 : y1 < f ∨ t < y2)]
    clear g1
    go_enter Tryz.func39, Tryz.ntmps39
    go_wp2
    go_ret
    exact ⟨by first | rfl | simp, X1.out⟩
  · have k1 : decide (y1 < f) = false := decide_eq_false g1
    by_cases g2 : t < y2
    · have k2 : decide (t < y2) = true := decide_eq_true g2
      rw [decide_eq_true (.inr g2 : y1 < f ∨ t < y2)]
      clear g1 g2
      go_enter Tryz.func39, Tryz.ntmps39
      go_wp2
      go_ret
      exact ⟨by first | rfl | simp, X1.out⟩
    · have k2 : decide (t < y2) = false := decide_eq_false g2
      rw [decide_eq_false (fun h : y1 < f ∨ t < y2 => h.elim g1 g2)]
      clear g1 g2
      go_enter Tryz.func39, Tryz.ntmps39
      go_wp2
      go_ret
      exact ⟨by first | rfl | simp, X1.out⟩
theorem acr_idx (l : List (Int × Int)) (p : Int) : acr l p = decide (0 ≤ (if l.findIdx (fun x => decide (x.1 < p ∧ p < x.2)) < l.length then ((l.findIdx (fun x => decide (x.1 < p ∧ p < x.2)) : Nat) : Int) else -1)) := by
  unfold acr
  by_cases h : l.findIdx (fun x => decide (x.1 < p ∧ p < x.2)) < l.length
  · rw [if_pos h, decide_eq_true (by omega)]
    rw [List.findIdx_lt_length] at h
    rw [List.any_eq_true]
    exact h
  · rw [if_neg h, decide_eq_false (by omega)]
    rw [← Bool.not_eq_true, List.any_eq_true]
    intro g
    exact h (List.findIdx_lt_length.2 g)
set_option maxHeartbeats 4000000 in
set_option maxRecDepth 100000 in
theorem cAcross_any (A : Option Addr) (n c : Nat) (o : List (Int × Int)) (p : Int) (w : World) (hA : RowsAt wencS 2 w A o) (hl : o.length = n) (hn : n ≤ 100000) :
    Calls Tryz.prog 37 #[.slice A n c, .int .i64 p] w fun e w' => e = .returned (.bool (acr o p)) ∧ Below w.heap.size w w' := by
  have x1 : Below w.heap.size w (w.alloc (.cells #[.int .i64 p] 3)) := (Below.refl _ _).alloc (Nat.le_refl _) _
  have r1 : RawAt 3 (w.alloc (.cells #[.int .i64 p] 3)) w.heap.size #[.int .i64 p] := heap_alloc_new w _
  obtain ⟨W1, hW1⟩ : ∃ W1, W1 = w.alloc (.cells #[.int .i64 p] 3) := ⟨_, rfl⟩
  rw [← hW1] at x1 r1
  have HW1 := Lib.hid hW1
  have X1 := Lib.hid x1
  have R1 := Lib.hid r1
  obtain ⟨r, hr⟩ : ∃ r : Int, r = if o.findIdx (fun x => decide (x.1 < p ∧ p < x.2)) < o.length then ((o.findIdx (fun x => decide (x.1 < p ∧ p < x.2)) : Nat) : Int) else -1 := ⟨_, rfl⟩
  have CI := Lib.hid (caIndex_any (.func (.func 71) #[] #[.pointer (some ⟨w.heap.size, 0, none⟩)]) (.pointer (some ⟨w.heap.size, 0, none⟩)) rfl (fun x => decide (x.1 < p ∧ p < x.2)) A n c o W1 (hA.below x1) hl hn (fun a _ W hW => cAcr1_any p a w.heap.size W (r1.below hW r1.lt)) r hr)
  have HE : Hid (acr o p = decide (0 ≤ r)) := Lib.hid (by rw [acr_idx, hr])
  clear hA hl hr hW1 x1 r1
  have CC : Hid (Calls Tryz.prog 70 #[.slice A n c, .func (.func 71) #[] #[.pointer (some ⟨w.heap.size, 0, none⟩)]] W1 fun e w' => e = .returned (.bool (acr o p)) ∧ Below W1.heap.size W1 w') := Lib.hid (by
    go_enter Tryz.func70, Tryz.ntmps70
    go_wp2_with fail
    with_reducible refine (CI.out).mono ?_
    rintro e w2 ⟨rfl, b2⟩
    have HB2 := Lib.hid b2
    clear b2
    go_wp2
    go_ret
    exact ⟨by rw [HE.out]; rfl, HB2.out⟩)
  go_enter Tryz.func37, Tryz.ntmps37
  go_wp2_with fail
  rw [← HW1.out]
  with_reducible refine (CC.out).mono ?_
  rintro e w2 ⟨rfl, b2⟩
  have HB2 := Lib.hid (X1.out.trans (b2.mono X1.out.size))
  clear b2
  go_wp2
  go_ret
  exact ⟨rfl, HB2.out⟩
set_option linter.unusedVariables false
/-- The first of the plain items that end at one; how many plain items begin a list. -/
def ahd (P : List I7) : Nat → Nat
  | 0 => 0
  | k + 1 => if (ith P k).tag = 0 then ahd P k else k + 1
def lead : List I7 → Nat
  | [] => 0
  | x :: l => if x.tag = 0 then lead l + 1 else 0
theorem ahd_le (P : List I7) : ∀ k, ahd P k ≤ k
  | 0 => Nat.le_refl _
  | k + 1 => by
    have := ahd_le P k
    unfold ahd
    split <;> omega
theorem lead_le : ∀ l : List I7, lead l ≤ l.length
  | [] => Nat.le_refl _
  | x :: l => by
    have := lead_le l
    unfold lead
    rw [List.length_cons]
    split <;> omega
theorem lead_drop (P : List I7) {k : Nat} (h : k < P.length) : lead (P.drop k) = if (ith P k).tag = 0 then lead (P.drop (k + 1)) + 1 else 0 := by
  rw [List.drop_eq_getElem_cons h, lead, show ith P k = P[k] from by simp [ith, List.getD, h]]
theorem wdsum_step (P : List I7) {k : Nat} (h : k < P.length) : wdsum 0 (P.take (k + 1)) = wdsum 0 (P.take k) + (ith P k).d0 := by
  rw [List.take_succ_eq_append_getElem h, wdsum_append, show ith P k = P[k] from by simp [ith, List.getD, h]]
  show _ + (P[k].d0 + 0) = _
  omega
set_option maxHeartbeats 16000000 in
set_option maxRecDepth 100000 in
theorem cAhead_any {p : Option Addr} {l : List I7} {h : Nat} {w : World} (ht : CrAt w p l h) (v : Int) (hv : WvAsk 0 l v) :
    Calls Tryz.prog 40 #[.pointer p, .int .i64 v] w fun e w' => e = .returned (.tuple #[.int .i64 (((ahd l (wfnd 0 l v 1)) : Nat) : Int), .int .i64 (wdsum 0 (l.take (ahd l (wfnd 0 l v 1))))]) ∧ Below w.heap.size w w' := by
  obtain ⟨q, hq, hk⟩ := crkept ht
  obtain ⟨hol, hll⟩ := hq.okl
  have CK := Lib.hid hk
  have CS := Lib.hid (tfind_any q l h ((0 : Nat) : Int) v 1 w hq ((wv_ask hol (by omega) v 1).2 ⟨hv, .inr rfl⟩))
  have CA := Lib.hid fun (k : Nat) (W : World) (hW : Below w.heap.size w W) (hk : k < l.length) => tat_any q l h k W (hq.below hW) hk
  have CB := Lib.hid fun (i : Int) (W : World) (hW : Below w.heap.size w W) (hi : ¬ (0 ≤ i ∧ i < l.length)) => tat_bad q l h i W (hq.below hW) hi
  rw [show ics ⟨0, 0, 0, 0, 0, 0, ⟨#[]⟩⟩ = #[.int .i64 0, .int .i64 0, .int .i64 0, .int .i64 0, .int .i64 0, .int .i64 0, .string ⟨#[]⟩] from rfl] at CB
  have HFI := Lib.hid (wfnd_is hol (show 0 < 2 by omega) v 1)
  have HTS := Lib.hid (wtake_sums hol hll)
  have HLE := Lib.hid (wfnd_le 0 l v 1)
  clear hk hq ht hv hol
  generalize wfnd 0 l v 1 = k at HFI HLE ⊢
  go_enter Tryz.func40, Tryz.ntmps40
  go_wp2_with fail
  refine (CK.out _ (Below.refl _ _)).mono ?_
  rintro e w1 ⟨rfl, hw1⟩
  have hw1 := hw1.symm
  subst hw1
  go_wp2_with fail
  refine CS.out.mono ?_
  rintro e w2 ⟨kk, z, hf, hz1, hz2, rfl, b2⟩
  have hkk := (hf.unique HFI.out).symm
  subst hkk
  obtain ⟨t1, t2, t3, t4, t5, t6⟩ := HTS.out k
  have T1 := Lib.hid t1
  rw [← t1] at t3 t4
  clear t1 t2 t5 t6 hf HFI CS
  generalize sall (l.take k) = s at *
  have R3 : RawAt 116 (w2.alloc (.cells #[.int .i64 k, .int .i64 s.n, .int .i64 s.d0, .int .i64 s.d1, .int .i64 s.d2, .int .i64 s.mx, .int .i64 s.pl, .int .i64 z] 116)) w2.heap.size #[.int .i64 k, .int .i64 s.n, .int .i64 s.d0, .int .i64 s.d1, .int .i64 s.d2, .int .i64 s.mx, .int .i64 s.pl, .int .i64 z] := heap_alloc_new w2 _
  have x3 : Below w2.heap.size w2 (w2.alloc (.cells #[.int .i64 k, .int .i64 s.n, .int .i64 s.d0, .int .i64 s.d1, .int .i64 s.d2, .int .i64 s.mx, .int .i64 s.pl, .int .i64 z] 116)) := (Below.refl _ _).alloc (Nat.le_refl _) _
  have HB3 := Lib.hid (b2.trans (x3.mono b2.size))
  have g0 := RawAt.cell R3 0
  have g2 := RawAt.cell R3 2
  simp at g0 g2
  unfold vcs
  clear b2 R3 x3
  go_wp2_with fail
  go_quiet (fail)
  have HB4 := Lib.hid (drewN_below HB3.out nq)
  clear g0 g2
  generalize World.drewN _ nq = W4 at *
  generalize s.d0 = sd at *
  go_wp2_with fail
  go_loopg [8, 9] (k + 1) (fun g a b wr => ∃ (i : Nat) (u : Int), a = .int .i64 i ∧ b = .int .i64 u ∧ i ≤ l.length ∧ i + 1 ≤ g ∧ Hid (u = wdsum 0 (l.take i)) ∧ Hid (ahd l i = ahd l k) ∧ Hid (Below w.heap.size w wr))
  case atStart => exact ⟨k, sd, rfl, rfl, HLE.out, by omega, T1, Lib.hid rfl, HB4⟩
  case round =>
    clear HB4
    obtain ⟨i, u, rfl, rfl, i1, i2, hu, hi, hb⟩ := hrel
    obtain ⟨u1, u2, u3, u4, _, _⟩ := HTS.out i
    rw [← hu.out] at u1 u3 u4
    clear u2
    have wi : IntKind.i64.wrap ((i : Int) - 1) = (i : Int) - 1 := IntWalk.i64_in _ (by omega)
    have wi2 : IntKind.i64.wrap ((i : Int) + 1) = (i : Int) + 1 := IntWalk.i64_in _ (by omega)
    by_cases hend : i = 0
    · subst hend
      have CB1 := Lib.hid fun (W : World) (hW : Below w.heap.size w W) => CB.out (-1) W hW (by omega)
      have w0m : IntKind.i64.wrap ((0 : Int) - 1) = -1 := by decide
      have HRI : Hid ((ahd l (k)) = 0) := Lib.hid (by rw [← hi.out]; rfl)
      have HRU : Hid (wdsum 0 (l.take (ahd l (k))) = u) := Lib.hid (by rw [HRI.out, hu.out])
      clear hi hu u1
      go_wp2_with fail
      refine (CK.out _ hb.out).mono ?_
      rintro e w5 ⟨rfl, hw5⟩
      have hw5 := hw5.symm
      subst hw5
      go_wp2_with fail
      with_reducible refine (CB1.out _ hb.out).mono ?_
      rintro e w6 ⟨rfl, b6⟩
      have x7 := (Below.refl w6.heap.size w6).alloc (Nat.le_refl _) (.cells #[.int .i64 0, .int .i64 0, .int .i64 0, .int .i64 0, .int .i64 0, .int .i64 0, .string ⟨#[]⟩] 120)
      have HB6 := Lib.hid (hb.out.trans (b6.mono hb.out.size))
      have HB7 := Lib.hid (HB6.out.trans (x7.mono HB6.out.size))
      clear b6 x7
      go_wp2
      go_ret2
      exact ⟨by rw [HRU.out, HRI.out]; rfl, HB7.out⟩
    · obtain ⟨j, hj, hjl⟩ : ∃ j : Nat, i = j + 1 ∧ j < l.length := ⟨i - 1, by omega, by omega⟩
      have CA1 := Lib.hid fun (W : World) (hW : Below w.heap.size w W) => CA.out j W hW hjl
      obtain ⟨y1, y2, y3, y4, _, _⟩ := HTS.out j
      have HST := Lib.hid (wdsum_step l hjl)
      have HAH : Hid (ahd l (j + 1) = if (ith l j).tag = 0 then ahd l j else j + 1) := Lib.hid (by rfl)
      generalize hown : ith l j = own at *
      obtain ⟨tg, id, o0, o1, o2, omx, otx⟩ := own
      rw [show ics ⟨tg, id, o0, o1, o2, omx, otx⟩ = #[.int .i64 tg, .int .i64 id, .int .i64 o0, .int .i64 o1, .int .i64 o2, .int .i64 omx, .string otx] from rfl] at CA1
      simp only at HST HAH
      clear hown y1 y2
      subst hj
      go_wp2_with fail
      refine (CK.out _ hb.out).mono ?_
      rintro e w5 ⟨rfl, hw5⟩
      have hw5 := hw5.symm
      subst hw5
      go_wp2_with fail
      with_reducible refine (CA1.out _ hb.out).mono ?_
      rintro e w6 ⟨rfl, b6⟩
      have x7 := (Below.refl w6.heap.size w6).alloc (Nat.le_refl _) (.cells #[.int .i64 tg, .int .i64 id, .int .i64 o0, .int .i64 o1, .int .i64 o2, .int .i64 omx, .string otx] 120)
      have R7 : RawAt 120 (w6.alloc (.cells #[.int .i64 tg, .int .i64 id, .int .i64 o0, .int .i64 o1, .int .i64 o2, .int .i64 omx, .string otx] 120)) w6.heap.size #[.int .i64 tg, .int .i64 id, .int .i64 o0, .int .i64 o1, .int .i64 o2, .int .i64 omx, .string otx] := heap_alloc_new w6 _
      have q0 := RawAt.cell R7 0
      have q2 := RawAt.cell R7 2
      simp at q0 q2
      have HB6 := Lib.hid (hb.out.trans (b6.mono hb.out.size))
      have HB7 := Lib.hid (HB6.out.trans (x7.mono HB6.out.size))
      clear b6 x7 R7 hb
      by_cases htg : tg = 0
      · have kt : (tg != 0) = false := by simpa using htg
        have hah := HAH.out
        rw [if_pos htg] at hah
        have wu : IntKind.i64.wrap (u - o0) = u - o0 := IntWalk.i64_in _ (by have e1 := HST.out; have e2 := hu.out; omega)
        have HU2 : Hid (u - o0 = wdsum 0 (l.take j)) := Lib.hid (by rw [hu.out, HST.out]; omega)
        have HI2 : Hid (ahd l j = ahd l k) := Lib.hid (by rw [← hi.out, hah])
        clear hah HAH hi hu HST u1 htg
        go_wp2_with fail
        go_quiet (fail)
        have HB8 := Lib.hid (drewN_below HB7.out nq)
        clear q0 q2 HB7
        generalize World.drewN _ nq = W8 at *
        go_wp2
        go_roundg (gk - 1)
        case measure => omega
        case rel => exact ⟨j, u - o0, by go_num, rfl, by omega, by omega, HU2, HI2, HB8⟩
      · have kt : (tg != 0) = true := by simpa using htg
        have hah := HAH.out
        rw [if_neg htg] at hah
        have HRI : Hid ((ahd l (k)) = j + 1) := Lib.hid (by rw [← hi.out, hah])
        have HRU : Hid (wdsum 0 (l.take (ahd l (k))) = u) := Lib.hid (by rw [HRI.out, hu.out])
        clear hah HAH hi hu HST u1 htg
        go_wp2
        go_ret2
        exact ⟨by rw [HRU.out, HRI.out]; rfl, HB7.out⟩
set_option maxHeartbeats 16000000 in
set_option maxRecDepth 100000 in
theorem cBehind_any {p : Option Addr} {l : List I7} {h : Nat} {w : World} (ht : CrAt w p l h) (v : Int) (hv : WvAsk 0 l v) :
    Calls Tryz.prog 41 #[.pointer p, .int .i64 v] w fun e w' => e = .returned (.tuple #[.int .i64 (((wfnd 0 l v 1 + lead (l.drop (wfnd 0 l v 1))) : Nat) : Int), .int .i64 (wdsum 0 (l.take (wfnd 0 l v 1 + lead (l.drop (wfnd 0 l v 1)))))]) ∧ Below w.heap.size w w' := by
  obtain ⟨q, hq, hk⟩ := crkept ht
  obtain ⟨hol, hll⟩ := hq.okl
  have CK := Lib.hid hk
  have CS := Lib.hid (tfind_any q l h ((0 : Nat) : Int) v 1 w hq ((wv_ask hol (by omega) v 1).2 ⟨hv, .inr rfl⟩))
  have CA := Lib.hid fun (k : Nat) (W : World) (hW : Below w.heap.size w W) (hk : k < l.length) => tat_any q l h k W (hq.below hW) hk
  have CB := Lib.hid fun (i : Int) (W : World) (hW : Below w.heap.size w W) (hi : ¬ (0 ≤ i ∧ i < l.length)) => tat_bad q l h i W (hq.below hW) hi
  rw [show ics ⟨0, 0, 0, 0, 0, 0, ⟨#[]⟩⟩ = #[.int .i64 0, .int .i64 0, .int .i64 0, .int .i64 0, .int .i64 0, .int .i64 0, .string ⟨#[]⟩] from rfl] at CB
  have HFI := Lib.hid (wfnd_is hol (show 0 < 2 by omega) v 1)
  have HTS := Lib.hid (wtake_sums hol hll)
  have HLE := Lib.hid (wfnd_le 0 l v 1)
  clear hk hq ht hv hol
  generalize wfnd 0 l v 1 = k at HFI HLE ⊢
  go_enter Tryz.func41, Tryz.ntmps41
  go_wp2_with fail
  refine (CK.out _ (Below.refl _ _)).mono ?_
  rintro e w1 ⟨rfl, hw1⟩
  have hw1 := hw1.symm
  subst hw1
  go_wp2_with fail
  refine CS.out.mono ?_
  rintro e w2 ⟨kk, z, hf, hz1, hz2, rfl, b2⟩
  have hkk := (hf.unique HFI.out).symm
  subst hkk
  obtain ⟨t1, t2, t3, t4, t5, t6⟩ := HTS.out k
  have T1 := Lib.hid t1
  rw [← t1] at t3 t4
  clear t1 t2 t5 t6 hf HFI CS
  generalize sall (l.take k) = s at *
  have R3 : RawAt 116 (w2.alloc (.cells #[.int .i64 k, .int .i64 s.n, .int .i64 s.d0, .int .i64 s.d1, .int .i64 s.d2, .int .i64 s.mx, .int .i64 s.pl, .int .i64 z] 116)) w2.heap.size #[.int .i64 k, .int .i64 s.n, .int .i64 s.d0, .int .i64 s.d1, .int .i64 s.d2, .int .i64 s.mx, .int .i64 s.pl, .int .i64 z] := heap_alloc_new w2 _
  have x3 : Below w2.heap.size w2 (w2.alloc (.cells #[.int .i64 k, .int .i64 s.n, .int .i64 s.d0, .int .i64 s.d1, .int .i64 s.d2, .int .i64 s.mx, .int .i64 s.pl, .int .i64 z] 116)) := (Below.refl _ _).alloc (Nat.le_refl _) _
  have HB3 := Lib.hid (b2.trans (x3.mono b2.size))
  have g0 := RawAt.cell R3 0
  have g2 := RawAt.cell R3 2
  simp at g0 g2
  unfold vcs
  clear b2 R3 x3
  go_wp2_with fail
  go_quiet (fail)
  have HB4 := Lib.hid (drewN_below HB3.out nq)
  clear g0 g2
  generalize World.drewN _ nq = W4 at *
  generalize s.d0 = sd at *
  go_wp2_with fail
  go_loopg [8, 9] (l.length - k + 1) (fun g a b wr => ∃ (i : Nat) (u : Int), a = .int .i64 i ∧ b = .int .i64 u ∧ i ≤ l.length ∧ l.length - i + 1 ≤ g ∧ Hid (u = wdsum 0 (l.take i)) ∧ Hid (i + lead (l.drop i) = k + lead (l.drop k)) ∧ Hid (Below w.heap.size w wr))
  case atStart => exact ⟨k, sd, rfl, rfl, HLE.out, by omega, T1, Lib.hid rfl, HB4⟩
  case round =>
    clear HB4
    obtain ⟨i, u, rfl, rfl, i1, i2, hu, hi, hb⟩ := hrel
    obtain ⟨u1, u2, u3, u4, _, _⟩ := HTS.out i
    rw [← hu.out] at u1 u3 u4
    clear u2
    have wi : IntKind.i64.wrap ((i : Int) - 1) = (i : Int) - 1 := IntWalk.i64_in _ (by omega)
    have wi2 : IntKind.i64.wrap ((i : Int) + 1) = (i : Int) + 1 := IntWalk.i64_in _ (by omega)
    by_cases hend : i = l.length
    · subst hend
      have CB1 := Lib.hid fun (W : World) (hW : Below w.heap.size w W) => CB.out ((l.length : Int)) W hW (by omega)
      have w0m : IntKind.i64.wrap ((0 : Int) - 1) = -1 := by decide
      have HRI : Hid ((k + lead (l.drop (k))) = l.length) := Lib.hid (by rw [← hi.out, List.drop_length]; rfl)
      have HRU : Hid (wdsum 0 (l.take (k + lead (l.drop (k)))) = u) := Lib.hid (by rw [HRI.out, hu.out])
      clear hi hu u1
      go_wp2_with fail
      refine (CK.out _ hb.out).mono ?_
      rintro e w5 ⟨rfl, hw5⟩
      have hw5 := hw5.symm
      subst hw5
      go_wp2_with fail
      with_reducible refine (CB1.out _ hb.out).mono ?_
      rintro e w6 ⟨rfl, b6⟩
      have x7 := (Below.refl w6.heap.size w6).alloc (Nat.le_refl _) (.cells #[.int .i64 0, .int .i64 0, .int .i64 0, .int .i64 0, .int .i64 0, .int .i64 0, .string ⟨#[]⟩] 120)
      have HB6 := Lib.hid (hb.out.trans (b6.mono hb.out.size))
      have HB7 := Lib.hid (HB6.out.trans (x7.mono HB6.out.size))
      clear b6 x7
      go_wp2
      go_ret2
      exact ⟨by rw [HRU.out, HRI.out]; rfl, HB7.out⟩
    · obtain ⟨j, hj, hjl⟩ : ∃ j : Nat, j = i ∧ j < l.length := ⟨i, by omega, by omega⟩
      have CA1 := Lib.hid fun (W : World) (hW : Below w.heap.size w W) => CA.out j W hW hjl
      obtain ⟨y1, y2, y3, y4, _, _⟩ := HTS.out (j + 1)
      have HST := Lib.hid (wdsum_step l hjl)
      have HAH : Hid (lead (l.drop j) = if (ith l j).tag = 0 then lead (l.drop (j + 1)) + 1 else 0) := Lib.hid (by exact lead_drop l hjl)
      generalize hown : ith l j = own at *
      obtain ⟨tg, id, o0, o1, o2, omx, otx⟩ := own
      rw [show ics ⟨tg, id, o0, o1, o2, omx, otx⟩ = #[.int .i64 tg, .int .i64 id, .int .i64 o0, .int .i64 o1, .int .i64 o2, .int .i64 omx, .string otx] from rfl] at CA1
      simp only at HST HAH
      clear hown y1 y2
      subst hj
      go_wp2_with fail
      refine (CK.out _ hb.out).mono ?_
      rintro e w5 ⟨rfl, hw5⟩
      have hw5 := hw5.symm
      subst hw5
      go_wp2_with fail
      with_reducible refine (CA1.out _ hb.out).mono ?_
      rintro e w6 ⟨rfl, b6⟩
      have x7 := (Below.refl w6.heap.size w6).alloc (Nat.le_refl _) (.cells #[.int .i64 tg, .int .i64 id, .int .i64 o0, .int .i64 o1, .int .i64 o2, .int .i64 omx, .string otx] 120)
      have R7 : RawAt 120 (w6.alloc (.cells #[.int .i64 tg, .int .i64 id, .int .i64 o0, .int .i64 o1, .int .i64 o2, .int .i64 omx, .string otx] 120)) w6.heap.size #[.int .i64 tg, .int .i64 id, .int .i64 o0, .int .i64 o1, .int .i64 o2, .int .i64 omx, .string otx] := heap_alloc_new w6 _
      have q0 := RawAt.cell R7 0
      have q2 := RawAt.cell R7 2
      simp at q0 q2
      have HB6 := Lib.hid (hb.out.trans (b6.mono hb.out.size))
      have HB7 := Lib.hid (HB6.out.trans (x7.mono HB6.out.size))
      clear b6 x7 R7 hb
      by_cases htg : tg = 0
      · have kt : (tg != 0) = false := by simpa using htg
        have hah := HAH.out
        rw [if_pos htg] at hah
        have wu : IntKind.i64.wrap (u + o0) = u + o0 := IntWalk.i64_in _ (by have e1 := HST.out; have e2 := hu.out; omega)
        have HU2 : Hid (u + o0 = wdsum 0 (l.take (j + 1))) := Lib.hid (by rw [hu.out, HST.out])
        have HI2 : Hid (j + 1 + lead (l.drop (j + 1)) = k + lead (l.drop k)) := Lib.hid (by rw [← hi.out, hah]; omega)
        clear hah HAH hi hu HST u1 htg
        go_wp2_with fail
        go_quiet (fail)
        have HB8 := Lib.hid (drewN_below HB7.out nq)
        clear q0 q2 HB7
        generalize World.drewN _ nq = W8 at *
        go_wp2
        go_roundg (gk - 1)
        case measure => omega
        case rel => exact ⟨(j + 1), u + o0, by go_num, rfl, by omega, by omega, HU2, HI2, HB8⟩
      · have kt : (tg != 0) = true := by simpa using htg
        have hah := HAH.out
        rw [if_neg htg] at hah
        have HRI : Hid ((k + lead (l.drop (k))) = j) := Lib.hid (by have e1 := hi.out; rw [hah] at e1; omega)
        have HRU : Hid (wdsum 0 (l.take (k + lead (l.drop (k)))) = u) := Lib.hid (by rw [HRI.out, hu.out])
        clear hah HAH hi hu HST u1 htg
        go_wp2
        go_ret2
        exact ⟨by rw [HRU.out, HRI.out]; rfl, HB7.out⟩
set_option linter.unusedVariables false
structure UGood (L hh : List (Int × Int)) (o : List In) (f t f' t' n1 : Int) (N : Nat) : Prop where
  rt : RtOk 0 hh N
  s1 : 0 ≤ f ∧ f ≤ t ∧ t ≤ n1
  s2 : 0 ≤ f' ∧ f' ≤ t' ∧ t' ≤ N + wosum N 1 o
  e1 : f = f'
  e2 : n1 - t = N + wosum N 1 o - t'
  a1 : acr L f = false
  a2 : acr L t = false
  a3 : acr (hh.map (cpl o)) f' = false
  a4 : acr (hh.map (cpl o)) t' = false
/-- The first item that is made anew, and what is behind the last. -/
def ufst (P : List I7) (f : Int) : Nat := ahd P (wfnd 0 P f 1)
def ulst (P : List I7) (t : Int) : Nat := wfnd 0 P t 1 + lead (P.drop (wfnd 0 P t 1))
/-- The items that Update leaves. -/
def uitems (P : List I7) (L2 : List (Int × Int)) (f t f' t' : Int) : List I7 :=
  P.take (ufst P f) ++ crP (wdsum 0 (P.take (ufst P f))) (L2.filter fun y => !outs f' t' y) (wdsum 0 (P.take (ulst P t)) - t + t') ++ P.drop (ulst P t)
theorem wfnd_mono (k : Nat) : ∀ (l : List I7) (v v' : Int), v ≤ v' → wfnd k l v 1 ≤ wfnd k l v' 1
  | [], _, _, _ => Nat.le_refl _
  | i :: l, v, v', h => by
    unfold wfnd
    by_cases g : v < wdz k i
    · rw [if_pos (.inl g)]; exact Nat.zero_le _
    · rw [if_neg (by omega), if_neg (by omega)]
      have := wfnd_mono k l (v - wdz k i) (v' - wdz k i) (by omega)
      omega
set_option maxHeartbeats 4000000 in
set_option maxRecDepth 100000 in
theorem cDel_own (f' t' : Int) (b0 base : Nat) (A : Option Addr) (n c : Nat) (o : List (Int × Int)) (w : World) (hown : w.ownsRow base 27 2 (.slice A n c) n (kfl wencS o)) (hn : n ≤ 100000) (hb : RawAt 27 w b0 #[.int .i64 f', .int .i64 t']) (hb0 : b0 < base) (hbw : base ≤ w.heap.size) :
    Calls Tryz.prog 38 #[.slice A n c, .func (.func 39) #[] #[.pointer (some ⟨b0, 0, none⟩)]] w fun e w' => ∃ A' i c', e = .returned (.slice A' i c') ∧ w'.ownsRow base 27 2 (.slice A' i c') i (kfl wencS (o.filter fun y => !outs f' t' y)) ∧ Below base w w' := by
  by_cases h0 : n = 0
  · subst h0
    have hl := own_len wencS_len (by omega) hown
    obtain rfl := List.eq_nil_of_length_eq_zero hl
    exact (cDelete0 A c _ w).mono fun e w' ⟨h1, h2⟩ => by
      subst h2
      exact ⟨A, 0, c, h1, hown, Below.refl _ _⟩
  · obtain ⟨g, cap, e⟩ := own_slice hown (by omega)
    cases e
    have hg := (hown.lt g rfl).1
    exact (cuDel_any _ (.pointer (some ⟨b0, 0, none⟩)) rfl (outs f' t') g n c base o w hown hn (fun a _ W hW => cUpd1_any f' t' a b0 W ((hW.rest b0 hb.lt (by omega)).trans hb))).mono fun e w' ⟨i, h1, h2, h3⟩ => ⟨_, i, _, h1, h2, h3.below.mono hg⟩
end Go.Proofs.YtjkmkobnfhepaaaGreat
