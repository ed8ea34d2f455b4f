/- Patches: what two patches do: the contracts of between, far, Compose. -/
import Derived.Test.YthbhjecfiiknaaaPtN
import Derived.Test.YthbhjecfiiknaaaPtB
namespace Go.Proofs.Ythbhjecfiiknaaa
open Go.RowKit
set_option linter.unusedVariables false
theorem inter_n : ∀ {ps qs : List Pc} (x : Pc), x ∈ inter ps qs → ∃ p ∈ ps, x.n ≤ p.n
  | [], _, x, hx => by unfold inter at hx; exact absurd hx List.not_mem_nil
  | _ :: _, [], x, hx => by unfold inter at hx; exact absurd hx List.not_mem_nil
  | p :: ps, q :: qs, x, hx => by
    rw [inter_cons] at hx
    rcases List.mem_append.1 hx with hx | hx
    · split at hx
      · obtain rfl := List.mem_singleton.1 hx
        exact ⟨p, List.mem_cons_self .., by simp only; omega⟩
      · exact absurd hx List.not_mem_nil
    · split at hx
      · obtain ⟨y, h1, h2⟩ := inter_n x hx
        exact ⟨y, List.mem_cons_of_mem _ h1, h2⟩
      · exact inter_n x hx
  termination_by ps qs => ps.length + qs.length
theorem inter_len : ∀ (ps qs : List Pc), (inter ps qs).length ≤ ps.length + qs.length
  | [], _ => by unfold inter; simp
  | _ :: _, [] => by unfold inter; simp
  | p :: ps, q :: qs => by
    have h1 := inter_len ps (q :: qs)
    have h2 := inter_len (p :: ps) qs
    rw [inter_cons, List.length_append]
    simp only [List.length_cons] at *
    split <;> split <;> simp <;> omega
  termination_by ps qs => ps.length + qs.length
theorem bd_inter {a b : List Ch} (ha : nrm M40 0 0 true a) (hb : nrm M40 0 0 true b) (hla : a.length ≤ 100000) (hlb : b.length ≤ 100000) : Bd (inter (pcs LL 0 0 a) (pcs LL 0 0 b)) := by
  refine ⟨cmp_srt (by decide) ha hb, fun x hx => ?_, ?_⟩
  · have h1 := pcs_bd (L := LL) ha (nrm_bd ha) (by decide) (by decide) (Int.le_refl _) (Int.le_refl _)
    have h2 := pcs_bd (L := LL) hb (nrm_bd hb) (by decide) (by decide) (Int.le_refl _) (Int.le_refl _)
    have h3 := inter_bd h1 h2 x hx
    obtain ⟨p, hp, hn⟩ := inter_n x hx
    have h4 := (pcs_all ha p hp).2.2.2.2.2
    unfold M40 at h3
    omega
  · have h1 := inter_len (pcs LL 0 0 a) (pcs LL 0 0 b)
    have h2 := pcs_len LL 0 0 a
    have h3 := pcs_len LL 0 0 b
    omega
theorem JAt.keep {w0 : World} {tot d : List Pc} {W W' : World} (h : JAt w0 tot d W) (ho : OnT [79, 76] W W') (hb : Below w0.heap.size W W') : JAt w0 tot d W' := by
  obtain ⟨⟨r, out, p, q, x, y, v, h1, h2, h3, h4, h5, h6, h7, h8, h9, h10⟩, h11⟩ := h
  refine ⟨⟨r, out, p, q, x, y, v, h1, h2, h3, h4, h5, h6, h7, ho _ _ _ (by decide) h8, ho _ _ _ (by decide) h9, ?_⟩, h11.trans hb⟩
  refine ⟨h10.1, ?_⟩
  rcases h10.2 with g | ⟨g, cap, cur, e, hB, c, h3⟩
  · exact .inl g
  · exact .inr ⟨g, cap, cur, e, hB, ho _ _ _ (by decide) c, h3⟩
set_option maxHeartbeats 4000000 in
set_option maxRecDepth 100000 in
theorem between_any (H : Nat) (hcaps : Array Value) (tot : List Pc) (w : World) (hB : Bd tot) (hH : ∀ (args : Array Value) (w : World), (callFunc H args).run Try.prog w = .ok (.enter H args) w)
    (CH : ∀ W, JAt w tot [] W → Calls Try.prog H (#[.func (.func 44) #[] #[.pointer (some ⟨w.heap.size + 1, 0, none⟩), .pointer (some ⟨w.heap.size, 0, none⟩)]] ++ hcaps) W fun e w' => e = .returned (.tuple #[]) ∧ JAt w tot tot w') :
    Calls Try.prog 32 #[.func (.func H) #[] hcaps] w fun e w' => ∃ A c, e = .returned (.slice A (chg 0 0 tot).length c) ∧ ChsAt w' A (chg 0 0 tot) ∧ Caps A (chg 0 0 tot).length c ∧ Below w.heap.size w w' := by
  have hmf : ∀ (fn : Fn) (first cap : Array Value) (w : World), (Instr.makeFunc fn first cap).run Try.prog w = .ok (.func fn first cap) w := fun _ _ _ _ => rfl
  obtain ⟨hr0, hq0, hb0, hs0⟩ := new2 w 22 56 #[.slice none 0 0] #[.int .i64 0, .int .i64 0, .int .i64 0, .int .i64 0]
  have CH1 := Lib.hid (CH _ ⟨⟨tot, [], 0, 0, 0, 0, _, rfl, rfl, hB.srt, by decide, by decide, by decide, by decide, hr0, hq0, World.ownsRow_nil _ _ _ _⟩, hb0⟩)
  clear CH hB hr0 hq0 hb0 hs0
  go_enter Try.func32, Try.ntmps32
  go_wp2_with fail
  with_reducible refine CH1.out.mono ?_
  rintro e w3 ⟨rfl, hJ⟩
  obtain ⟨⟨r, out, p, q, x, y, v, h1, h2, _, _, _, _, _, h8, _, h10⟩, h11⟩ := hJ
  obtain rfl : r = [] := by have := congrArg List.length h1; rw [List.length_append] at this; exact List.eq_nil_of_length_eq_zero (by omega)
  have e2 : out = chg 0 0 tot := (List.append_nil out).symm.trans h2
  obtain ⟨A, c, rfl, hI, hl, hC⟩ := chs_of_own h10
  have r0 := RawAt.cell h8 0
  simp at r0
  have HI := Lib.hid hI
  have HC := Lib.hid hC
  have HE := Lib.hid e2
  clear h1 h2 h8 h10 hI hl hC e2 CH1
  go_wp2
  go_ret
  exact ⟨A, c, by rw [← HE.out]; rfl, by rw [← HE.out]; exact HI.out, by rw [← HE.out]; exact HC.out, h11⟩
set_option maxHeartbeats 4000000 in
set_option maxRecDepth 100000 in
theorem comp1_any (A B : Option Addr) (ma ca mb cb : Nat) (a b : List Ch) (ab bb : Nat) (w W : World) (hla : a.length = ma) (hma : ma ≤ 100000) (hlb : b.length = mb) (hmb : mb ≤ 100000) (hna : nrm M40 0 0 true a) (hnb : nrm M40 0 0 true b)
    (hA : ChsAt w A a) (hBs : ChsAt w B b) (ha : RawAt 22 w ab #[.slice A ma ca]) (hb : RawAt 22 w bb #[.slice B mb cb])
    (hJ : JAt w (inter (pcs LL 0 0 a) (pcs LL 0 0 b)) [] W) :
    Calls Try.prog 38 #[.func (.func 44) #[] #[.pointer (some ⟨w.heap.size + 1, 0, none⟩), .pointer (some ⟨w.heap.size, 0, none⟩)], .pointer (some ⟨ab, 0, none⟩), .pointer (some ⟨bb, 0, none⟩)] W fun e w' => e = .returned (.tuple #[]) ∧ JAt w (inter (pcs LL 0 0 a) (pcs LL 0 0 b)) (inter (pcs LL 0 0 a) (pcs LL 0 0 b)) w' := by
  have hws := hJ.below.size
  have CK := Lib.hid (kboth_any A B ma ca mb cb a b 44 #[.pointer (some ⟨w.heap.size + 1, 0, none⟩), .pointer (some ⟨w.heap.size, 0, none⟩)] (fun em W' => JAt w (inter (pcs LL 0 0 a) (pcs LL 0 0 b)) em W' ∧ W.heap.size ≤ W'.heap.size) W (by intro args w; rfl) hla hma hlb hmb hna hnb
    (fun em W1 W2 h1 h2 h3 => ⟨h1.1.keep h2 (h3.mono hws), Nat.le_trans h1.2 h3.size⟩)
    (fun em x r W1 h1 h2 => (each_any w _ em r x W1 h1 (bd_inter hna hnb (by omega) (by omega)) h2.1).mono fun _ _ ⟨e1, e2, e3, e4⟩ => ⟨e1, ⟨e2, Nat.le_trans h2.2 e4⟩, e3⟩)
    (fun em W1 h => ⟨hA.below h.1.below, hBs.below h.1.below, h.2⟩) ⟨hJ, Nat.le_refl _⟩)
  have r0 := RawAt.cell (ha.below hJ.below ha.lt) 0
  have r1 := RawAt.cell (hb.below hJ.below hb.lt) 0
  simp at r0 r1
  clear hJ hA hBs ha hb hna hnb hla hlb
  go_enter Try.func38, Try.ntmps38
  go_wp2_with fail
  with_reducible refine CK.out.mono ?_
  rintro e w3 ⟨rfl, hJ⟩
  have HJ := Lib.hid hJ.1
  clear hJ CK
  go_wp2
  exact bodyPost_end (v := .tuple #[]) (by simp [results, Try.results38, go_sem]) rfl ⟨rfl, HJ.out⟩
/-- Is a patch's last number too large? -/
def isFar (l : List Ch) : Prop := 0 < l.length ∧ (M40 < (cth l (l.length - 1)).ob ∨ M40 < (cth l (l.length - 1)).nb)
set_option maxHeartbeats 4000000 in
set_option maxRecDepth 100000 in
theorem far_any (A : Option Addr) (m cp : Nat) (l : List Ch) (w : World) (r : Bool) (hA : ChsAt w A l) (hl : l.length = m) (hm : m ≤ 1000000) (hr : r = true ↔ isFar l) :
    Calls Try.prog 36 #[.slice A m cp] w fun e w' => e = .returned (.bool r) ∧ Below w.heap.size w w' := by
  by_cases h0 : m = 0
  · subst h0
    have HX := Lib.hid (bf hr (fun h => by have := h.1; omega))
    clear hA hl hr
    go_enter Try.func36, Try.ntmps36
    go_wp2
    go_ret
    exact ⟨ret_bool HX.out, Below.refl _ _⟩
  · obtain ⟨k, rfl⟩ : ∃ k, m = k + 1 := ⟨m - 1, by omega⟩
    obtain ⟨bA, off, rfl, hbA, d0, d1, d2, d3⟩ := hA.at1 (k := k) (by omega)
    have hr2 : r = true ↔ (M40 < (cth l k).ob ∨ M40 < (cth l k).nb) := by
      rw [hr]; unfold isFar; rw [hl, Nat.add_sub_cancel]
      exact ⟨fun h => h.2, fun h => ⟨by omega, h⟩⟩
    clear hr hA hl
    generalize cth l k = c at *
    have HR := Lib.hid hr2
    clear hr2
    have hw : IntKind.i64.wrap (((k + 1 : Nat) : Int) - 1) = (k : Int) := by rw [show ((k + 1 : Nat) : Int) - 1 = (k : Int) from by omega]; exact IntWalk.i64_in _ (by omega)
    have hw' : IntKind.i64.wrap ((k : Int) + 1 - 1) = (k : Int) := by rw [show (k : Int) + 1 - 1 = (k : Int) from by omega]; exact IntWalk.i64_in _ (by omega)
    have hw'' : IntKind.i64.wrap (k : Int) = (k : Int) := IntWalk.i64_in _ (by omega)
    have i0 : (0 : Int) < (k : Int) + 1 := by omega
    have i1 : (k : Int) < (k : Int) + 1 := by omega
    have i2 : (0 : Int) ≤ (k : Int) := by omega
    have i3 : ((k : Int) + 1 == 0) = false := by simp; omega
    have x3 : Below w.heap.size w (w.alloc (.cells #[.int .i64 c.oa, .int .i64 c.ob, .int .i64 c.na, .int .i64 c.nb] 56)) := (Below.refl _ _).alloc (Nat.le_refl _) _
    unfold M40 at HR
    clear h0
    by_cases g1 : c.ob < c.nb
    · by_cases g2 : 1099511627776 < c.nb
      · have HX := Lib.hid (bt HR.out (.inr g2))
        go_enter Try.func36, Try.ntmps36
        go_wp2
        go_ret
        exact ⟨ret_bool (by first | exact HX.out | exact (decide_eq_true (by omega)).trans HX.out), x3⟩
      · have HX := Lib.hid (bf HR.out (fun h => by omega))
        go_enter Try.func36, Try.ntmps36
        go_wp2
        go_ret
        exact ⟨ret_bool (by first | exact HX.out | exact (decide_eq_false (by omega)).trans HX.out), x3⟩
    · by_cases g2 : 1099511627776 < c.ob
      · have HX := Lib.hid (bt HR.out (.inl g2))
        go_enter Try.func36, Try.ntmps36
        go_wp2
        go_ret
        exact ⟨ret_bool (by first | exact HX.out | exact (decide_eq_true (by omega)).trans HX.out), x3⟩
      · have HX := Lib.hid (bf HR.out (fun h => by omega))
        go_enter Try.func36, Try.ntmps36
        go_wp2
        go_ret
        exact ⟨ret_bool (by first | exact HX.out | exact (decide_eq_false (by omega)).trans HX.out), x3⟩
section
variable {A B : Option Addr} {ma ca mb cb : Nat} {a b : List Ch} {w : World}
set_option maxHeartbeats 4000000 in
set_option maxRecDepth 100000 in
theorem pCompose_form (hA : ChsAt w A a) (hBs : ChsAt w B b) (hla : a.length = ma) (hma : ma ≤ 100000) (hlb : b.length = mb) (hmb : mb ≤ 100000) (hn : ¬ (nrm M40 0 0 true a ∧ nrm M40 0 0 true b)) :
    Calls Try.prog 21 #[.slice A ma ca, .slice B mb cb] w fun e w' => e = .returned (.tuple #[.slice none 0 0, .int .i64 4]) ∧ Below w.heap.size w w' := by
  obtain ⟨hr0, hq0, hb0, hs0⟩ := new2 w 22 22 #[.slice A ma ca] #[.slice B mb cb]
  have HA2 := hA.below hb0
  have HB2 := hBs.below hb0
  obtain ⟨ra, hra⟩ : ∃ r : Bool, r = true ↔ nrm M40 0 0 true a := ⟨@decide _ (Classical.propDecidable _), @decide_eq_true_iff _ (Classical.propDecidable _)⟩
  obtain ⟨rb, hrb⟩ : ∃ r : Bool, r = true ↔ nrm M40 0 0 true b := ⟨@decide _ (Classical.propDecidable _), @decide_eq_true_iff _ (Classical.propDecidable _)⟩
  have C1 := Lib.hid (pNormal_any A ma ca a _ ra HA2 hla (by omega) hra)
  have C2 := Lib.hid fun (W : World) (hW : Below _ _ W) => pNormal_any B mb cb b W rb (HB2.below hW) hlb (by omega) hrb
  have hab : ra = false ∨ rb = false := by
    cases ra with
    | false => exact .inl rfl
    | true => cases rb with
      | false => exact .inr rfl
      | true => exact absurd ⟨hra.1 rfl, hrb.1 rfl⟩ hn
  have R0 := Lib.hid hr0
  have Q0 := Lib.hid hq0
  clear hA hBs hla hlb hn hra hrb hs0 HA2 HB2
  have r0 := RawAt.cell R0.out 0
  simp at r0
  cases ra with
  | false =>
    clear hab C2
    go_enter Try.func21, Try.ntmps21
    go_wp2_with fail
    with_reducible refine C1.out.mono ?_
    rintro e w1 ⟨rfl, hb1⟩
    go_wp2
    go_ret2
    exact ⟨rfl, hb0.trans (hb1.mono hb0.size)⟩
  | true =>
    obtain rfl : rb = false := by simpa using hab
    clear hab
    go_enter Try.func21, Try.ntmps21
    go_wp2_with fail
    with_reducible refine C1.out.mono ?_
    rintro e w1 ⟨rfl, hb1⟩
    have r1 := RawAt.cell (Q0.out.below hb1 Q0.out.lt) 0
    simp at r1
    go_wp2_with fail
    with_reducible refine (C2.out _ hb1).mono ?_
    rintro e w2 ⟨rfl, hb2⟩
    go_wp2
    go_ret2
    exact ⟨rfl, (hb0.trans (hb1.mono hb0.size)).trans (hb2.mono (hb0.trans (hb1.mono hb0.size)).size)⟩
set_option maxHeartbeats 4000000 in
set_option maxRecDepth 100000 in
theorem pCompose_yes (hA : ChsAt w A a) (hBs : ChsAt w B b) (hla : a.length = ma) (hma : ma ≤ 100000) (hlb : b.length = mb) (hmb : mb ≤ 100000) (hna : nrm M40 0 0 true a) (hnb : nrm M40 0 0 true b) :
    Calls Try.prog 21 #[.slice A ma ca, .slice B mb cb] w fun e w' => ∃ A' n' c' er, e = .returned (.tuple #[.slice A' n' c', .int .i64 er]) ∧ Below w.heap.size w w' ∧ ((er = 5 ∧ isFar (cmp LL a b) ∧ A' = none ∧ n' = 0 ∧ c' = 0) ∨ (er = 0 ∧ ¬ isFar (cmp LL a b) ∧ ChsAt w' A' (cmp LL a b) ∧ (cmp LL a b).length = n' ∧ Caps A' n' c')) := by
  have hmf : ∀ (fn : Fn) (first cap : Array Value) (w : World), (Instr.makeFunc fn first cap).run Try.prog w = .ok (.func fn first cap) w := fun _ _ _ _ => rfl
  obtain ⟨hr0, hq0, hb0, hs0⟩ := new2 w 22 22 #[.slice A ma ca] #[.slice B mb cb]
  have HA2 := hA.below hb0
  have HB2 := hBs.below hb0
  have C1 := Lib.hid (pNormal_any A ma ca a _ true HA2 hla (by omega) ⟨fun _ => hna, fun _ => rfl⟩)
  have C2 := Lib.hid fun (W : World) (hW : Below _ _ W) => pNormal_any B mb cb b W true (HB2.below hW) hlb (by omega) ⟨fun _ => hnb, fun _ => rfl⟩
  have C3 := Lib.hid fun (W : World) (hW : Below _ _ W) => between_any 38 #[.pointer (some ⟨w.heap.size, 0, none⟩), .pointer (some ⟨w.heap.size + 1, 0, none⟩)] (inter (pcs LL 0 0 a) (pcs LL 0 0 b)) W (bd_inter hna hnb (by omega) (by omega)) (by intro args w; rfl) (fun W' hJ => comp1_any A B ma ca mb cb a b w.heap.size (w.heap.size + 1) W W' hla hma hlb hmb hna hnb (HA2.below hW) (HB2.below hW) (hr0.below hW hr0.lt) (hq0.below hW hq0.lt) hJ)
  have hlen : (cmp LL a b).length ≤ 1000000 := Nat.le_trans (chg_len 0 0 _) (bd_inter hna hnb (by omega) (by omega)).len
  have R0 := Lib.hid hr0
  have Q0 := Lib.hid hq0
  clear hA hBs hla hlb hna hnb hs0 HA2 HB2 hr0 hq0
  have r0 := RawAt.cell R0.out 0
  simp at r0
  have hcmp : cmp LL a b = chg 0 0 (inter (pcs LL 0 0 a) (pcs LL 0 0 b)) := rfl
  rw [← hcmp] at C3
  generalize cmp LL a b = l at *
  clear hcmp
  obtain ⟨rf, hrf⟩ : ∃ r : Bool, r = true ↔ isFar l := ⟨@decide _ (Classical.propDecidable _), @decide_eq_true_iff _ (Classical.propDecidable _)⟩
  have HRF := Lib.hid hrf
  have HLN := Lib.hid hlen
  clear hrf hlen
  go_enter Try.func21, Try.ntmps21
  go_wp2_with fail
  with_reducible refine C1.out.mono ?_
  rintro e w1 ⟨rfl, hb1⟩
  have r1 := RawAt.cell (Q0.out.below hb1 Q0.out.lt) 0
  simp at r1
  go_wp2_with fail
  with_reducible refine (C2.out _ hb1).mono ?_
  rintro e w2 ⟨rfl, hb2⟩
  have q2 := hb1.trans (hb2.mono hb1.size)
  have q0 := hb0.trans (q2.mono hb0.size)
  go_wp2_with fail
  with_reducible refine (C3.out _ q2).mono ?_
  rintro e w3 ⟨A', c', rfl, hI, hC, hb3⟩
  have q3 := q0.trans (hb3.mono q0.size)
  have HI := Lib.hid hI
  have HC := Lib.hid hC
  have CF := Lib.hid (far_any A' l.length c' l w3 rf hI rfl HLN.out HRF.out)
  clear hI hC r1
  go_wp2_with fail
  with_reducible refine CF.out.mono ?_
  rintro e w4 ⟨rfl, hb4⟩
  have q4 := q3.trans (hb4.mono q3.size)
  cases rf with
  | true =>
    go_wp2
    go_ret2
    exact ⟨none, 0, 0, 5, rfl, q4, .inl ⟨rfl, HRF.out.1 (by first | rfl | trivial), rfl, rfl, rfl⟩⟩
  | false =>
    go_wp2
    go_ret2
    exact ⟨A', l.length, c', 0, rfl, q4, .inr ⟨rfl, fun h => absurd (HRF.out.2 h) (by decide), HI.out.below hb4, rfl, HC.out⟩⟩
end
end Go.Proofs.Ythbhjecfiiknaaa
