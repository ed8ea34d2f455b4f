/- Anchors: the contract of Shift. -/
import Derived.Test.YtncbhbjhfmbbkaaAnE
import Derived.Test.YtncbhbjhfmbbkaaAnC
import Derived.Test.YtncbhbjhfmbbkaaPtB
import Derived.Test.YtncbhbjhfmbbkaaPtE
namespace Go.Proofs.Ytncbhbjhfmbbkaa
open Go.RowKit Go.Sort
set_option linter.unusedVariables false
theorem own_setK {w : World} {base : Nat} {e : TypeId} {size g cap n : Nat} {xs : List Value} (h : w.ownsRow base e size (.slice (some ⟨g, 0, none⟩) n cap) n xs) (i : Nat) (u : Value) : (w.setCell ⟨g, i, none⟩ u).ownsRow base e size (.slice (some ⟨g, 0, none⟩) n cap) n (xs.set i u) := by
  refine ⟨by rw [List.length_set]; exact h.1, .inr ?_⟩
  rcases h.2 with ⟨h2, _⟩ | ⟨g', cap', cur, hv, hB, c, h3, h4, h5, h6⟩
  · cases h2
  · injection hv with hv1 hv2 hv3
    injection hv1 with hv1
    injection hv1 with hv1
    subst hv1
    subst hv3
    refine ⟨g, cap, cur.setIfInBounds i u, rfl, hB, RawAt.set_ (t := e) c i u, h3, h4, by rw [Array.size_setIfInBounds]; exact h5, ?_⟩
    rw [Array.toList_setIfInBounds, List.take_set, h6]
theorem own_free {w : World} {base : Nat} {e : TypeId} {size g cap n : Nat} {xs : List Value} (h : w.ownsRow base e size (.slice (some ⟨g, 0, none⟩) n cap) n xs) (i : Nat) : w.frozen? ⟨g, i, none⟩ = false := by
  rcases h.2 with ⟨h2, _⟩ | ⟨g', cap', cur, hv, hB, c, h3, h4, h5, h6⟩
  · cases h2
  · injection hv with hv1 hv2 hv3
    injection hv1 with hv1
    injection hv1 with hv1
    subst hv1
    exact RawAt.free (t := e) c i
theorem akfl_set : ∀ (L : List An) (k : Nat) (h : k < L.length) (z : Int), (kfl encA L).set (k * 3 + 1) (.int .i64 z) = kfl encA (L.set k ⟨L[k].id, z, L[k].bi⟩)
  | x :: L, 0, _, z => rfl
  | x :: L, k + 1, h, z => by
    have ih := akfl_set L k (by simpa using h) z
    rw [List.set_cons_succ, kfl_cons, kfl_cons, List.set_append_right _ _ (by rw [encA_len]; omega), encA_len, show (k + 1) * 3 + 1 - 3 = k * 3 + 1 by omega, ih]
    rfl
/-- Anchors shifted by a patch. -/
def ashift (p : List Ch) (o : List An) : List An := o.map fun a => ⟨a.id, mp 0 0 p a.pl a.bi, a.bi⟩
theorem ashift_len (p : List Ch) (o : List An) : (ashift p o).length = o.length := by simp [ashift]
theorem ashift_step (p : List Ch) (o : List An) (k : Nat) (h : k < o.length) : (ashift p (o.take k) ++ o.drop k).set k ⟨o[k].id, mp 0 0 p o[k].pl o[k].bi, o[k].bi⟩ = ashift p (o.take (k + 1)) ++ o.drop (k + 1) := by
  have hl : (ashift p (o.take k)).length = k := by rw [ashift_len, List.length_take]; omega
  rw [List.set_append_right _ _ (by omega), hl, Nat.sub_self, List.drop_eq_getElem_cons h, List.set_cons_zero, List.take_succ_eq_append_getElem h]
  unfold ashift
  rw [List.map_append, List.append_assoc]
  rfl
theorem ashift_at (p : List Ch) (o : List An) (k : Nat) (h : k < o.length) : ∃ h2 : k < (ashift p (o.take k) ++ o.drop k).length, (ashift p (o.take k) ++ o.drop k)[k] = o[k] := by
  have hl : (ashift p (o.take k)).length = k := by rw [ashift_len, List.length_take]; omega
  refine ⟨by rw [List.length_append, hl, List.length_drop]; omega, ?_⟩
  rw [List.getElem_append_right (by omega)]
  simp [hl]
/-- What Shift tells. -/
def ShIs (n : Int) (p : List Ch) (o : List An) (r : Int) : Prop := (¬ nrm M40 0 0 true p → r = 4) ∧ (nrm M40 0 0 true p → n < olast p → r = 1) ∧ (nrm M40 0 0 true p → ¬ n < olast p → r = awrong (n + dlt p) (ashift p o))
set_option maxHeartbeats 16000000 in
set_option maxRecDepth 100000 in
theorem aShift_rows {w : World} {o : List An} (q : Value) (n : Int) (PA : Option Addr) (m c : Nat) (p : List Ch) (hP : ChsAt w PA p) (hp : p.length = m) (hm : m ≤ 1000) (h0 : 0 ≤ n) (h40 : n ≤ 1099511627776) (hok : ∀ a ∈ o, aOk n a) (hwf : ∀ a ∈ o, (Lit.int .i64 a.id).wf = true) (ho : o.length ≤ 100000)
    (CK0 : ∀ W, Below w.heap.size w W → ∃ (A : Option Addr) (c : Nat) (mb : Option Nat), Calls Try.prog 59 #[q] W fun e w' => e = .returned (.agg #[.int .i64 n, .slice A o.length c, .map mb]) ∧ Below W.heap.size W w')
    (CA0 : ∀ W, Below w.heap.size w W → Calls Try.prog 23 #[q] W fun e w' => ∃ v, e = .returned v ∧ w'.ownsRow W.heap.size 36 3 v o.length (kfl encA o) ∧ Below W.heap.size W w')
    (r : Int) (hr : ShIs n p o r) (nd : Int) (hnd : nd = n + dlt p) :
    Calls Try.prog 25 #[q, .slice PA m c] w fun e w' => ∃ ptr, e = .returned (.tuple #[ptr, .int .i64 r]) ∧ (r ≠ 0 → ptr = .pointer none) ∧ (r = 0 → ∃ sb, ptr = .pointer (some ⟨sb, 0, none⟩) ∧ ASet w' sb nd (ord alt (ashift p o))) ∧ Below w.heap.size w w' := by
  have HR := Lib.hid hr
  have HP := Lib.hid hP
  have HPL := Lib.hid hp
  clear hr hP hp
  by_cases hn : nrm M40 0 0 true p
  · have CN := Lib.hid (pNormal_any PA m c p w true HP.out HPL.out (by omega) ⟨fun _ => hn, fun _ => rfl⟩)
    have hbd := dlt_bd (K := 1099511627776) (by decide) (l := p) (fun x hx => by
      obtain ⟨⟨a1, a2, a3⟩, a4, a5, a6⟩ := nrm_mem hn x hx
      unfold M40 at a3 a6
      omega)
    have hbd2 := HPL.out
    have w1 : IntKind.i64.wrap (n + dlt p) = nd := by rw [← hnd]; exact IntWalk.i64_in _ (by omega)
    by_cases hb : n < olast p
    · have e : r = 1 := HR.out.2.1 hn hb
      subst e
      clear HR
      have CB := Lib.hid fun (W : World) (hW : Below w.heap.size w W) => aBehind_any PA m c p n W (HP.out.below hW) HPL.out (by omega) h0 true ⟨fun _ => hb, fun _ => rfl⟩
      clear hn hb hbd hbd2 hnd w1
      go_enter Try.func25, Try.ntmps25
      have tf0 := fld_s0
      go_wp2_with fail
      with_reducible refine (CN.out).mono ?_
      rintro e1 w1 ⟨rfl, b1⟩
      obtain ⟨A2, c2, mb2, CK⟩ := CK0 w1 b1
      have CK := Lib.hid CK
      go_wp2_with fail
      with_reducible refine (CK.out).mono ?_
      rintro e2 w2 ⟨rfl, b2⟩
      have q2 := b1.trans (b2.mono b1.size)
      go_wp2_with fail
      with_reducible refine (CB.out _ q2).mono ?_
      rintro e3 w3 ⟨rfl, b3⟩
      have q3 := q2.trans (b3.mono q2.size)
      go_wp2
      go_ret2
      first | exact ⟨_, rfl, rfl, q3⟩ | exact ⟨_, rfl, fun _ => rfl, fun h => absurd h (by decide), q3⟩
    · have HE : Hid (r = awrong nd (ashift p o)) := Lib.hid (by rw [hnd]; exact HR.out.2.2 hn hb)
      have CB := Lib.hid fun (W : World) (hW : Below w.heap.size w W) => aBehind_any PA m c p n W (HP.out.below hW) HPL.out (by omega) h0 false ⟨fun h => absurd h (by decide), fun h => absurd h hb⟩
      have CD := Lib.hid fun (W : World) (hW : Below w.heap.size w W) => pDelta_any PA m c p W (HP.out.below hW) HPL.out (by omega) (nrm_mem hn)
      have CM := Lib.hid fun (x y : Int) (W : World) (hW : Below w.heap.size w W) (g1 : 0 ≤ x) (g2 : x ≤ 1099511627776) (g3 : y = 0 ∨ y = 1) => pMap_yes PA m c p x y W (HP.out.below hW) HPL.out (by omega) hn g1 g2 g3
      have HOK := Lib.hid hok
      have HWF := Lib.hid hwf
      have HAS : Hid (ashift p o = ashift p (o.take 0) ++ o.drop 0) → True := fun _ => trivial
      clear HR hn hb hbd hbd2 hnd HAS hok hwf
      generalize hdl : dlt p = dl at *
      clear hdl
      go_enter Try.func25, Try.ntmps25
      have tf0 := fld_s0
      go_wp2_with fail
      with_reducible refine (CN.out).mono ?_
      rintro e1 w1 ⟨rfl, b1⟩
      obtain ⟨A2, c2, mb2, CK⟩ := CK0 w1 b1
      have CK := Lib.hid CK
      go_wp2_with fail
      with_reducible refine (CK.out).mono ?_
      rintro e2 w2 ⟨rfl, b2⟩
      have q2 := b1.trans (b2.mono b1.size)
      go_wp2_with fail
      with_reducible refine (CB.out _ q2).mono ?_
      rintro e3 w3 ⟨rfl, b3⟩
      have q3 := q2.trans (b3.mono q2.size)
      have CA := Lib.hid (CA0 w3 q3)
      go_wp2_with fail
      with_reducible refine (CA.out).mono ?_
      rintro e4 w4 ⟨v4, rfl, o4, b4⟩
      have q4 := q3.trans (b4.mono q3.size)
      obtain ⟨A4, c4, rfl⟩ := own_form o4
      obtain ⟨B, hBB⟩ : ∃ B, B = w3.heap.size := ⟨_, rfl⟩
      rw [← hBB] at o4
      have hwB : w.heap.size ≤ B := by rw [hBB]; exact q3.size
      have O4 := Lib.hid o4
      have Q4 := Lib.hid q4
      obtain ⟨k0, hk0⟩ : ∃ k0, k0 = o.length := ⟨_, rfl⟩
      have HK0 := Lib.hid hk0
      rw [← hk0] at O4 ho
      clear o4 q4 hk0 hBB CK CA CB CN CK0 CA0 b1 b2 b3 b4 q2 q3
      rw [← HK0.out]
      go_wp2_with fail
      go_loopg [23] k0 (fun g i wr => ∃ (k : Nat), i = .int .i64 k ∧ k ≤ k0 ∧ k0 - k ≤ g ∧ Hid (Below w.heap.size w wr) ∧ Hid (wr.ownsRow B 36 3 (.slice A4 k0 c4) k0 (kfl encA (ashift p (o.take k) ++ o.drop k))))
      case atStart => exact ⟨0, rfl, by omega, by omega, Q4, Lib.hid (by simpa [ashift] using O4.out)⟩
      case round =>
        obtain ⟨k, rfl, h1, h2, hb, hown⟩ := hrel
        clear O4 Q4
        by_cases hlt : k < k0
        · have hkl : k < o.length := by rw [← HK0.out]; exact hlt
          obtain ⟨g, cap, hv⟩ := own_slice hown.out (by omega)
          injection hv with hv1 _ hv2
          subst hv1
          subst hv2
          obtain ⟨hk2, hel⟩ := ashift_at p o k hkl
          have hst := ashift_step p o k hkl
          have hset := akfl_set (ashift p (o.take k) ++ o.drop k) k hk2 (mp 0 0 p o[k].pl o[k].bi)
          rw [hel, hst] at hset
          have hoa := HOK.out _ (List.getElem_mem hkl)
          have z0 := kfl_at encA_len (ashift p (o.take k) ++ o.drop k) k hk2 0 (by omega)
          have z1 := kfl_at encA_len (ashift p (o.take k) ++ o.drop k) k hk2 1 (by omega)
          have z2 := kfl_at encA_len (ashift p (o.take k) ++ o.drop k) k hk2 2 (by omega)
          rw [hel] at z0 z1 z2
          rw [Nat.add_zero] at z0
          have f0 := hown.out.cellAt (k * 3) (by omega)
          have f1 := hown.out.cellAt (k * 3 + 1) (by omega)
          have f2 := hown.out.cellAt (k * 3 + 2) (by omega)
          rw [z0] at f0
          rw [z1] at f1
          rw [z2] at f2
          have HSET := Lib.hid hset
          have Z1 := Lib.hid (show (kfl encA (ashift p (o.take k) ++ o.drop k))[k * 3 + 1]? = some (.int .i64 o[k].pl) from z1)
          clear hst hset z0 z1 z2 hel hk2
          generalize o[k] = a at *
          simp [encA] at f0 f1 f2
          obtain ⟨oa1, oa2, oa3⟩ := hoa
          have HO3 := Lib.hid oa3
          have i1 : (0 : Int) ≤ k := by omega
          have i2 : (k : Int) < k0 := by omega
          have x3 : Below wr.heap.size wr (wr.alloc (.cells #[.int .i64 a.id, .int .i64 a.pl, .int .i64 a.bi] 36)) := (Below.refl _ _).alloc (Nat.le_refl _) _
          have R3 : RawAt 36 (wr.alloc (.cells #[.int .i64 a.id, .int .i64 a.pl, .int .i64 a.bi] 36)) wr.heap.size #[.int .i64 a.id, .int .i64 a.pl, .int .i64 a.bi] := heap_alloc_new wr _
          have e0 := RawAt.cell R3 0
          have e1 := RawAt.cell R3 1
          have e2 := RawAt.cell R3 2
          simp at e0 e1 e2
          have HB3 := Lib.hid (hb.out.trans (x3.mono hb.out.size))
          have HOW3 := Lib.hid (own_below hown.out x3)
          have CMK := Lib.hid (CM.out a.pl a.bi _ HB3.out oa1 (by omega) HO3.out)
          have hgB : w.heap.size ≤ g := Nat.le_trans hwB (hown.out.lt g rfl).1
          generalize mp 0 0 p a.pl a.bi = z at *
          clear R3 x3 hown hb oa3
          go_wp2_with fail
          with_reducible refine (CMK.out).mono ?_
          rintro e5 w5 ⟨rfl, b5⟩
          have HB5 := HB3.out.trans (b5.mono HB3.out.size)
          have HO5 := own_below HOW3.out b5
          have d1 := HO5.cellAt (k * 3 + 1) (by omega)
          have d2 := own_free HO5 (k * 3 + 1)
          rw [Z1.out] at d1
          have HB6 := Lib.hid (HB5.setCell (p := ⟨g, k * 3 + 1, none⟩) hgB (.int .i64 z))
          have HO6 := own_setK HO5 (k * 3 + 1) (.int .i64 z)
          rw [HSET.out] at HO6
          have HO6 := Lib.hid HO6
          clear HO5 HB5 b5 Z1 CMK
          go_wp2
          go_roundg (gk - 1)
          case measure => omega
          case rel => exact ⟨k + 1, by go_num, by omega, by omega, HB6, HO6⟩
        · obtain rfl : k0 = k := by omega
          have e1 : ashift p (o.take k0) ++ o.drop k0 = ashift p o := by rw [HK0.out, List.take_of_length_le (Nat.le_refl _), List.drop_of_length_le (Nat.le_refl _), List.append_nil]
          have hown2 := hown.out
          rw [e1] at hown2
          have HB := Lib.hid hb.out
          obtain ⟨A6, c6, hv6, hR6, hl6, hcap6⟩ := rows_of_own encA_len (by omega) hown2
          injection hv6 with hv1 _ hv2
          subst hv1
          subst hv2
          have CNW := Lib.hid fun (W : World) (hW : Below wr.heap.size wr W) => aNew_any nd A4 k0 c4 (ashift p o) W (hR6.below hW) hcap6 hl6 (fun x hx => by obtain ⟨y, hy, rfl⟩ := List.mem_map.1 hx; exact HWF.out y hy) r HE.out.symm
          clear hown hown2 hR6 hcap6 hl6 e1 hb
          go_wp2_with fail
          with_reducible refine (CD.out _ HB.out).mono ?_
          rintro e7 w7 ⟨rfl, b7⟩
          go_wp2_with fail
          with_reducible refine (CNW.out _ b7).mono ?_
          rintro e8 w8 ⟨ptr, rfl, p1, p2, b8⟩
          have q8 := Lib.hid (HB.out.trans ((b7.trans (b8.mono b7.size)).mono HB.out.size))
          have P1 := Lib.hid p1
          have P2 := Lib.hid p2
          clear p1 p2 b7 b8
          go_wp2
          go_ret2
          exact ⟨_, rfl, P1.out, P2.out, q8.out⟩
  · have CN := Lib.hid (pNormal_any PA m c p w false HP.out HPL.out (by omega) ⟨fun h => absurd h (by decide), fun h => absurd h hn⟩)
    have e : r = 4 := HR.out.1 hn
    subst e
    clear HR hn
    go_enter Try.func25, Try.ntmps25
    go_wp2_with fail
    with_reducible refine (CN.out).mono ?_
    rintro e1 w1 ⟨rfl, b1⟩
    go_wp2
    go_ret2
    first | exact ⟨_, rfl, rfl, b1⟩ | exact ⟨_, rfl, fun _ => rfl, fun h => absurd h (by decide), b1⟩
end Go.Proofs.Ytncbhbjhfmbbkaa
