/- Inlays: the contract of Shift, of any set. -/
import Derived.Test.YtjkkngldiimkjaaGreatInW
import Derived.Test.YtjkkngldiimkjaaGreatPtB
import Derived.Test.YtjkkngldiimkjaaGreatPtE
namespace Go.Proofs.YtjkkngldiimkjaaGreat
open Go.RowKit Go.Sort
set_option linter.unusedVariables false
/-- Where changes end. -/
def iolast (l : List Ch) : Int := match l.getLast? with | some c => c.ob | none => 0
set_option maxHeartbeats 8000000 in
set_option maxRecDepth 100000 in
theorem iBehind_any (A : Option Addr) (m c : Nat) (l : List Ch) (n : Int) (w : World) (hA : ChsAt w A l) (hl : l.length = m) (hm : m ≤ 1000000) (hn : 0 ≤ n) (r : Bool) (hr : r = true ↔ n < iolast l) : Calls Tryz.prog 88 #[.slice A m c, .int .i64 n] w fun e w' => e = .returned (.bool r) ∧ Below w.heap.size w w' := by
  rcases Nat.eq_zero_or_pos m with h0 | h0
  · subst h0
    have hz : l = [] := List.eq_nil_of_length_eq_zero hl
    subst hz
    have hrr : r = false := by cases r; rfl; exact absurd (hr.1 rfl) (by simp [iolast]; omega)
    subst hrr
    clear hr hA
    go_enter Tryz.func88, Tryz.ntmps88
    go_wp2
    go_ret
    exact ⟨rfl, Below.refl _ _⟩
  · obtain ⟨j, rfl⟩ : ∃ j, m = j + 1 := ⟨m - 1, by omega⟩
    have hjl : j < l.length := by omega
    obtain ⟨b, off, rfl, hb, c0, c1, c2, c3⟩ := hA.at1 hjl
    have hol : iolast l = (cth l j).ob := by
      unfold iolast
      rw [List.getLast?_eq_getElem?, hl, Nat.add_sub_cancel, List.getElem?_eq_getElem hjl]
      simp [cth, List.getD, hjl]
    rw [hol] at hr
    have HR := Lib.hid hr
    clear hr hol hA c0 c2 c3 hl
    generalize (cth l j).ob = ob at *
    have n1 : (j : Int) + 1 - 1 = j := by omega
    have n2 : IntKind.i64.wrap (j : Int) = j := IntWalk.i64_in _ (by omega)
    have n3 : IntKind.i64.wrap ((j : Int) + 1 - 1) = j := by rw [n1]; exact n2
    have i1 : (0 : Int) ≤ j := by omega
    have i2 : (j : Int) < (j : Int) + 1 := by omega
    have k1 : decide ((0 : Int) < (j : Int) + 1) = true := decide_eq_true (by omega)
    by_cases g : n < ob
    · have k2 : decide (n < ob) = true := decide_eq_true g
      have hrr : r = true := HR.out.2 g
      subst hrr
      clear HR
      go_enter Tryz.func88, Tryz.ntmps88
      go_wp2
      go_ret
      exact ⟨rfl, Below.refl _ _⟩
    · have k2 : decide (n < ob) = false := decide_eq_false g
      have hrr : r = false := by cases r; rfl; exact absurd (HR.out.1 rfl) g
      subst hrr
      clear HR
      go_enter Tryz.func88, Tryz.ntmps88
      go_wp2
      go_ret
      exact ⟨rfl, Below.refl _ _⟩
theorem ikfl_set1 : ∀ (L : List In) (k : Nat) (h : k < L.length) (z : Int), (kfl encI L).set (k * 5 + 1) (.int .i64 z) = kfl encI (L.set k ⟨L[k].id, z, L[k].bi, L[k].ky, L[k].tx⟩)
  | x :: L, 0, _, z => rfl
  | x :: L, k + 1, h, z => by
    have ih := ikfl_set1 L k (by simpa using h) z
    rw [List.set_cons_succ, kfl_cons, kfl_cons, List.set_append_right _ _ (by rw [encI_len]; omega), encI_len, show (k + 1) * 5 + 1 - 5 = k * 5 + 1 by omega, ih]
    rfl
/-- Inlays shifted by a patch. -/
def ishift (p : List Ch) (o : List In) : List In := o.map fun a => ⟨a.id, mp 0 0 p a.pl a.bi, a.bi, a.ky, a.tx⟩
theorem ishift_len (p : List Ch) (o : List In) : (ishift p o).length = o.length := by simp [ishift]
theorem ishift_step (p : List Ch) (o : List In) (k : Nat) (h : k < o.length) : (ishift p (o.take k) ++ o.drop k).set k ⟨o[k].id, mp 0 0 p o[k].pl o[k].bi, o[k].bi, o[k].ky, o[k].tx⟩ = ishift p (o.take (k + 1)) ++ o.drop (k + 1) := by
  have hl : (ishift p (o.take k)).length = k := by rw [ishift_len, List.length_take]; omega
  rw [List.set_append_right _ _ (by omega), hl, Nat.sub_self, List.drop_eq_getElem_cons h, List.set_cons_zero, List.take_succ_eq_append_getElem h]
  unfold ishift
  rw [List.map_append, List.append_assoc]
  rfl
theorem ishift_at (p : List Ch) (o : List In) (k : Nat) (h : k < o.length) : ∃ h2 : k < (ishift p (o.take k) ++ o.drop k).length, (ishift p (o.take k) ++ o.drop k)[k] = o[k] := by
  have hl : (ishift p (o.take k)).length = k := by rw [ishift_len, List.length_take]; omega
  refine ⟨by rw [List.length_append, hl, List.length_drop]; omega, ?_⟩
  rw [List.getElem_append_right (by omega)]
  simp [hl]
/-- What Shift tells. -/
def IShIs (n : Int) (p : List Ch) (o : List In) (r : Int) : Prop := (¬ nrm M40 0 0 true p → r = 4) ∧ (nrm M40 0 0 true p → n < iolast p → r = 1) ∧ (nrm M40 0 0 true p → ¬ n < iolast p → r = iwrong (n + dlt p) (ishift p o))
set_option maxHeartbeats 16000000 in
set_option maxRecDepth 100000 in
theorem iShift_rows {w : World} {o : List In} (q : Value) (n : Int) (PA : Option Addr) (m c : Nat) (p : List Ch) (hP : ChsAt w PA p) (hp : p.length = m) (hm : m ≤ 1000) (h0 : 0 ≤ n) (h40 : n ≤ 1099511627776) (hok : ∀ a ∈ o, 0 ≤ a.pl ∧ a.pl ≤ n ∧ (a.bi = 0 ∨ a.bi = 1)) (hwf : ∀ a ∈ o, (Lit.int .i64 a.id).wf = true) (htx : ∀ a ∈ o, a.tx.size ≤ 100000000) (ho : o.length ≤ 100000)
    (CL0 : ∀ W, Below w.heap.size w W → Calls Tryz.prog 73 #[q] W fun e w' => e = .returned (.int .i64 n) ∧ Below W.heap.size W w')
    (CA0 : ∀ W, Below w.heap.size w W → Calls Tryz.prog 31 #[q] W fun e w' => ∃ v, e = .returned v ∧ w'.ownsRow W.heap.size 61 5 v o.length (kfl encI o) ∧ Below W.heap.size W w')
    (r : Int) (hr : IShIs n p o r) (nd : Int) (hnd : nd = n + dlt p) :
    Calls Tryz.prog 32 #[q, .slice PA m c] w fun e w' => ∃ ptr, e = .returned (.tuple #[ptr, .int .i64 r]) ∧ (r ≠ 0 → ptr = .pointer none) ∧ (r = 0 → ∃ sb, ptr = .pointer (some ⟨sb, 0, none⟩) ∧ ISet w' sb nd (ord ilt ((ishift p o).map icl))) ∧ Below w.heap.size w w' := by
  have HR := Lib.hid hr
  have HP := Lib.hid hP
  have HPL := Lib.hid hp
  clear hr hP hp
  by_cases hn : nrm M40 0 0 true p
  · have CN := Lib.hid (pNormal_any PA m c p w true HP.out HPL.out (by omega) ⟨fun _ => hn, fun _ => rfl⟩)
    have hbd := dlt_bd (K := 1099511627776) (by decide) (l := p) (fun x hx => by
      obtain ⟨⟨a1, a2, a3⟩, a4, a5, a6⟩ := nrm_mem hn x hx
      unfold M40 at a3 a6
      omega)
    have hbd2 := HPL.out
    have w1 : IntKind.i64.wrap (n + dlt p) = nd := by rw [← hnd]; exact IntWalk.i64_in _ (by omega)
    by_cases hb : n < iolast p
    · have e : r = 1 := HR.out.2.1 hn hb
      subst e
      clear HR
      have CB := Lib.hid fun (W : World) (hW : Below w.heap.size w W) => iBehind_any PA m c p n W (HP.out.below hW) HPL.out (by omega) h0 true ⟨fun _ => hb, fun _ => rfl⟩
      clear hn hb hbd hbd2 hnd w1
      go_enter Tryz.func32, Tryz.ntmps32
      go_wp2_with fail
      with_reducible refine (CN.out).mono ?_
      rintro e1 w1 ⟨rfl, b1⟩
      have CK := Lib.hid (CL0 w1 b1)
      go_wp2_with fail
      with_reducible refine (CK.out).mono ?_
      rintro e2 w2 ⟨rfl, b2⟩
      have q2 := b1.trans (b2.mono b1.size)
      go_wp2_with fail
      with_reducible refine (CB.out _ q2).mono ?_
      rintro e3 w3 ⟨rfl, b3⟩
      have q3 := q2.trans (b3.mono q2.size)
      go_wp2
      go_ret2
      first | exact ⟨_, rfl, rfl, q3⟩ | exact ⟨_, rfl, fun _ => rfl, fun h => absurd h (by decide), q3⟩
    · have HE : Hid (r = iwrong nd (ishift p o)) := Lib.hid (by rw [hnd]; exact HR.out.2.2 hn hb)
      have CB := Lib.hid fun (W : World) (hW : Below w.heap.size w W) => iBehind_any PA m c p n W (HP.out.below hW) HPL.out (by omega) h0 false ⟨fun h => absurd h (by decide), fun h => absurd h hb⟩
      have CD := Lib.hid fun (W : World) (hW : Below w.heap.size w W) => pDelta_any PA m c p W (HP.out.below hW) HPL.out (by omega) (nrm_mem hn)
      have CM := Lib.hid fun (x y : Int) (W : World) (hW : Below w.heap.size w W) (g1 : 0 ≤ x) (g2 : x ≤ 1099511627776) (g3 : y = 0 ∨ y = 1) => pMap_yes PA m c p x y W (HP.out.below hW) HPL.out (by omega) hn g1 g2 g3
      have HOK := Lib.hid hok
      have HWF := Lib.hid hwf
      have HTX := Lib.hid htx
      have CL1 := Lib.hid CL0
      have HAS : Hid (ishift p o = ishift p (o.take 0) ++ o.drop 0) → True := fun _ => trivial
      clear HR hn hb hbd hbd2 hnd HAS hok hwf htx CL0
      generalize hdl : dlt p = dl at *
      clear hdl
      go_enter Tryz.func32, Tryz.ntmps32
      go_wp2_with fail
      with_reducible refine (CN.out).mono ?_
      rintro e1 w1 ⟨rfl, b1⟩
      have CK := Lib.hid (CL1.out w1 b1)
      go_wp2_with fail
      with_reducible refine (CK.out).mono ?_
      rintro e2 w2 ⟨rfl, b2⟩
      have q2 := b1.trans (b2.mono b1.size)
      go_wp2_with fail
      with_reducible refine (CB.out _ q2).mono ?_
      rintro e3 w3 ⟨rfl, b3⟩
      have q3 := q2.trans (b3.mono q2.size)
      have CA := Lib.hid (CA0 w3 q3)
      go_wp2_with fail
      with_reducible refine (CA.out).mono ?_
      rintro e4 w4 ⟨v4, rfl, o4, b4⟩
      have q4 := q3.trans (b4.mono q3.size)
      obtain ⟨A4, c4, rfl⟩ := own_formI o4
      obtain ⟨B, hBB⟩ : ∃ B, B = w3.heap.size := ⟨_, rfl⟩
      rw [← hBB] at o4
      have hwB : w.heap.size ≤ B := by rw [hBB]; exact q3.size
      have O4 := Lib.hid o4
      have Q4 := Lib.hid q4
      obtain ⟨k0, hk0⟩ : ∃ k0, k0 = o.length := ⟨_, rfl⟩
      have HK0 := Lib.hid hk0
      rw [← hk0] at O4 ho
      clear o4 q4 hk0 hBB CK CA CB CN CA0 b1 b2 b3 b4 q2 q3
      rw [← HK0.out]
      go_wp2_with fail
      go_loopg [20] k0 (fun g i wr => ∃ (k : Nat), i = .int .i64 k ∧ k ≤ k0 ∧ k0 - k ≤ g ∧ Hid (Below w.heap.size w wr) ∧ Hid (wr.ownsRow B 61 5 (.slice A4 k0 c4) k0 (kfl encI (ishift p (o.take k) ++ o.drop k))))
      case atStart => exact ⟨0, rfl, by omega, by omega, Q4, Lib.hid (by simpa [ishift] using O4.out)⟩
      case round =>
        obtain ⟨k, rfl, h1, h2, hb, hown⟩ := hrel
        clear O4 Q4
        by_cases hlt : k < k0
        · have hkl : k < o.length := by rw [← HK0.out]; exact hlt
          obtain ⟨g, cap, hv⟩ := own_slice hown.out (by omega)
          injection hv with hv1 _ hv2
          subst hv1
          subst hv2
          obtain ⟨hk2, hel⟩ := ishift_at p o k hkl
          have hst := ishift_step p o k hkl
          have hset := ikfl_set1 (ishift p (o.take k) ++ o.drop k) k hk2 (mp 0 0 p o[k].pl o[k].bi)
          rw [hel, hst] at hset
          have hoa := HOK.out _ (List.getElem_mem hkl)
          have z0 := kfl_at encI_len (ishift p (o.take k) ++ o.drop k) k hk2 0 (by omega)
          have z1 := kfl_at encI_len (ishift p (o.take k) ++ o.drop k) k hk2 1 (by omega)
          have z2 := kfl_at encI_len (ishift p (o.take k) ++ o.drop k) k hk2 2 (by omega)
          have z3 := kfl_at encI_len (ishift p (o.take k) ++ o.drop k) k hk2 3 (by omega)
          have z4 := kfl_at encI_len (ishift p (o.take k) ++ o.drop k) k hk2 4 (by omega)
          rw [hel] at z0 z1 z2 z3 z4
          rw [Nat.add_zero] at z0
          have f0 := hown.out.cellAt (k * 5) (by omega)
          have f1 := hown.out.cellAt (k * 5 + 1) (by omega)
          have f2 := hown.out.cellAt (k * 5 + 2) (by omega)
          have f3 := hown.out.cellAt (k * 5 + 3) (by omega)
          have f4 := hown.out.cellAt (k * 5 + 4) (by omega)
          rw [z0] at f0
          rw [z1] at f1
          rw [z2] at f2
          rw [z3] at f3
          rw [z4] at f4
          have HSET := Lib.hid hset
          have Z1 := Lib.hid (show (kfl encI (ishift p (o.take k) ++ o.drop k))[k * 5 + 1]? = some (.int .i64 o[k].pl) from z1)
          clear hst hset z0 z1 z2 z3 z4 hel hk2
          generalize o[k] = a at *
          simp [encI] at f0 f1 f2 f3 f4
          obtain ⟨oa1, oa2, oa3⟩ := hoa
          have HO3 := Lib.hid oa3
          have i1 : (0 : Int) ≤ k := by omega
          have i2 : (k : Int) < k0 := by omega
          have x3 : Below wr.heap.size wr (wr.alloc (.cells #[.int .i64 a.id, .int .i64 a.pl, .int .i64 a.bi, .int .i64 a.ky, .string a.tx] 61)) := (Below.refl _ _).alloc (Nat.le_refl _) _
          have R3 : RawAt 61 (wr.alloc (.cells #[.int .i64 a.id, .int .i64 a.pl, .int .i64 a.bi, .int .i64 a.ky, .string a.tx] 61)) wr.heap.size #[.int .i64 a.id, .int .i64 a.pl, .int .i64 a.bi, .int .i64 a.ky, .string a.tx] := heap_alloc_new wr _
          have e0 := RawAt.cell R3 0
          have e1 := RawAt.cell R3 1
          have e2 := RawAt.cell R3 2
          have e3 := RawAt.cell R3 3
          have e4 := RawAt.cell R3 4
          simp at e0 e1 e2 e3 e4
          have HB3 := Lib.hid (hb.out.trans (x3.mono hb.out.size))
          have HOW3 := Lib.hid (own_below hown.out x3)
          have CMK := Lib.hid (CM.out a.pl a.bi _ HB3.out oa1 (by omega) HO3.out)
          have hgB : w.heap.size ≤ g := Nat.le_trans hwB (hown.out.lt g rfl).1
          generalize mp 0 0 p a.pl a.bi = z at *
          clear R3 x3 hown hb oa3
          go_wp2_with fail
          with_reducible refine (CMK.out).mono ?_
          rintro e5 w5 ⟨rfl, b5⟩
          have HB5 := HB3.out.trans (b5.mono HB3.out.size)
          have HO5 := own_below HOW3.out b5
          have d1 := HO5.cellAt (k * 5 + 1) (by omega)
          have d2 := own_freeI HO5 (k * 5 + 1)
          rw [Z1.out] at d1
          have HB6 := Lib.hid (HB5.setCell (p := ⟨g, k * 5 + 1, none⟩) hgB (.int .i64 z))
          have HO6 := own_setKI HO5 (k * 5 + 1) (.int .i64 z)
          rw [HSET.out] at HO6
          have HO6 := Lib.hid HO6
          clear HO5 HB5 b5 Z1 CMK
          go_wp2
          go_roundg (gk - 1)
          case measure => omega
          case rel => exact ⟨k + 1, by go_num, by omega, by omega, HB6, HO6⟩
        · obtain rfl : k0 = k := by omega
          have e1 : ishift p (o.take k0) ++ o.drop k0 = ishift p o := by rw [HK0.out, List.take_of_length_le (Nat.le_refl _), List.drop_of_length_le (Nat.le_refl _), List.append_nil]
          have hown2 := hown.out
          rw [e1] at hown2
          have HB := Lib.hid hb.out
          obtain ⟨A6, c6, hv6, hR6, hl6, hcap6⟩ := rows_of_own encI_len (by omega) hown2
          injection hv6 with hv1 _ hv2
          subst hv1
          subst hv2
          have CNW := Lib.hid fun (W : World) (hW : Below wr.heap.size wr W) => iNew_any nd A4 k0 c4 (ishift p o) W (hR6.below hW) hcap6 hl6 (fun x hx => by obtain ⟨y, hy, rfl⟩ := List.mem_map.1 hx; exact HWF.out y hy) (fun x hx => by obtain ⟨y, hy, rfl⟩ := List.mem_map.1 hx; exact HTX.out y hy) r HE.out.symm
          clear hown hown2 hR6 hcap6 hl6 e1 hb
          have CL2 := Lib.hid (CL1.out _ HB.out)
          go_wp2_with fail
          with_reducible refine (CL2.out).mono ?_
          rintro e9 w9 ⟨rfl, b9⟩
          have q9 := HB.out.trans (b9.mono HB.out.size)
          go_wp2_with fail
          with_reducible refine (CD.out _ q9).mono ?_
          rintro e7 w7 ⟨rfl, b7⟩
          have b7 := b9.trans (b7.mono b9.size)
          go_wp2_with fail
          with_reducible refine (CNW.out _ b7).mono ?_
          rintro e8 w8 ⟨ptr, rfl, p1, p2, b8⟩
          have q8 := Lib.hid (HB.out.trans ((b7.trans (b8.mono b7.size)).mono HB.out.size))
          have P1 := Lib.hid p1
          have P2 := Lib.hid p2
          clear p1 p2 b7 b8
          go_wp2
          go_ret2
          exact ⟨_, rfl, P1.out, P2.out, q8.out⟩
  · have CN := Lib.hid (pNormal_any PA m c p w false HP.out HPL.out (by omega) ⟨fun h => absurd h (by decide), fun h => absurd h hn⟩)
    have e : r = 4 := HR.out.1 hn
    subst e
    clear HR hn
    go_enter Tryz.func32, Tryz.ntmps32
    go_wp2_with fail
    with_reducible refine (CN.out).mono ?_
    rintro e1 w1 ⟨rfl, b1⟩
    go_wp2
    go_ret2
    first | exact ⟨_, rfl, rfl, b1⟩ | exact ⟨_, rfl, fun _ => rfl, fun h => absurd h (by decide), b1⟩
end Go.Proofs.YtjkkngldiimkjaaGreat
