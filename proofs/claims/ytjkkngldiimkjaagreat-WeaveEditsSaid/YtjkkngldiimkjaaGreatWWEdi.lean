/- Weaves: the law WeaveEdits, walked. -/
import Derived.Test.YtjkkngldiimkjaaGreatWvV
import Derived.Test.YtjkkngldiimkjaaGreatInX
import Derived.Test.YtjkkngldiimkjaaGreatInZ
import Derived.Test.YtjkkngldiimkjaaGreatInTg
import Derived.Test.YtjkkngldiimkjaaGreatInO
import Derived.Test.YtjkkngldiimkjaaGreatChv
import Derived.Deep.DeepCutAuto
namespace Go.Proofs.YtjkkngldiimkjaaGreat
open Go.RowKit Go.Sort
set_option linter.unusedVariables false
/-- A change in a block of its own. -/
theorem chs_one {t : TypeId} {w : World} {b : Nat} {c : Ch} (h : RawAt t w b #[.int .i64 c.oa, .int .i64 c.ob, .int .i64 c.na, .int .i64 c.nb]) : ChsAt w (some ⟨b, 0, none⟩) [c] := by
  intro _
  refine ⟨b, 0, rfl, h.lt, fun k hk => ?_⟩
  obtain rfl : k = 0 := by simpa using hk
  exact ⟨RawAt.cell h 0, RawAt.cell h 1, RawAt.cell h 2, RawAt.cell h 3⟩
theorem we13f (x : Int) (A : Option Addr) (m c : Nat) (r : Int) (w : World) : (Instr.field 30 (.agg #[.int .i64 x, .slice A m c, .int .i64 r]) 2).run Tryz.prog w = .ok (.int .i64 r) w := by kernel_rfl
/-- What a change does to inlays of a set, place by place. -/
theorem ish_one {c : Ch} (hc : nrm M40 0 0 true [c]) {a : In} (ha : icl a = a) : ish [c] a = ⟨a.id, mp 0 0 [c] a.pl a.bi, a.bi, a.ky, a.tx⟩ := by
  have h : (icl a).tx = a.tx := by rw [ha]
  unfold ish icl
  unfold icl at h
  simp only at h ⊢
  rw [h]
theorem mp_one (c : Ch) (p b : Int) : mp 0 0 [c] p b = if p < c.oa then p else if p ≤ c.ob then (if b = 0 then c.na else c.nb) else p + (c.nb - c.ob) := by
  show (if p < c.oa then p + (0 - 0) else if p ≤ c.ob then (if b = 0 then c.na else c.nb) else p + (c.nb - c.ob)) = _
  rw [show p + ((0 : Int) - 0) = p from by omega]
theorem edit_turn {c : Ch} {n : Int} {o : List In} (hc : nrm M40 0 0 true [c]) (ho : wOSet n o) (hs : o.Pairwise fun a b => ilt b a = false) (hi : ∀ a ∈ o, icl a = a) : WvTurn o (ord ilt ((ishift [c] o).map icl)) c.oa c.ob c.nb := by
  obtain ⟨⟨k1, k2, k3, k4, k5, k6, k7, k8, k9, k10⟩, _⟩ := hc
  have hc : nrm M40 0 0 true [c] := ⟨⟨k1, k2, k3, k4, k5, k6, k7, k8, k9, k10⟩, trivial⟩
  rw [ish_map]
  have hap : IApart (o.map (ish [c])) := List.Pairwise.map _ (fun a b h => h) ho.apart
  have hp := ord_perm ilt ilt_swo (o.map (ish [c]))
  have hso := ord_sorted ilt ilt_swo (o.map (ish [c]))
  have f1 : (o.map (ish [c])).filter (fun a => decide (a.pl < c.oa)) = o.filter fun a => decide (a.pl < c.oa) := by
    rw [List.filter_map]
    have e : o.filter ((fun a => decide (a.pl < c.oa)) ∘ ish [c]) = o.filter fun a => decide (a.pl < c.oa) := by
      refine List.filter_congr fun a ha => ?_
      show decide ((ish [c] a).pl < c.oa) = _
      rw [ish_one hc (hi a ha)]
      show decide (mp 0 0 [c] a.pl a.bi < c.oa) = _
      rw [mp_one]
      refine decide_eq_decide.2 ?_
      split
      · exact Iff.rfl
      · split
        · split <;> omega
        · omega
    rw [e]
    have e2 : ∀ a ∈ o.filter (fun a => decide (a.pl < c.oa)), ish [c] a = id a := fun a ha => by
      obtain ⟨h1, h2⟩ := List.mem_filter.1 ha
      rw [ish_one hc (hi a h1), mp_one, if_pos (of_decide_eq_true h2)]
      rfl
    rw [List.map_congr_left e2, List.map_id]
  have f2 : (o.map (ish [c])).filter (fun a => decide (c.nb < a.pl)) = wsh (c.nb - c.ob) (o.filter fun a => decide (c.ob < a.pl)) := by
    rw [List.filter_map]
    have e : o.filter ((fun a => decide (c.nb < a.pl)) ∘ ish [c]) = o.filter fun a => decide (c.ob < a.pl) := by
      refine List.filter_congr fun a ha => ?_
      show decide (c.nb < (ish [c] a).pl) = _
      rw [ish_one hc (hi a ha)]
      show decide (c.nb < mp 0 0 [c] a.pl a.bi) = _
      rw [mp_one]
      refine decide_eq_decide.2 ?_
      split
      · omega
      · split
        · split <;> omega
        · omega
    rw [e]
    unfold wsh
    refine List.map_congr_left fun a ha => ?_
    obtain ⟨h1, h2⟩ := List.mem_filter.1 ha
    have h3 : c.ob < a.pl := of_decide_eq_true h2
    rw [ish_one hc (hi a h1), mp_one, if_neg (by omega), if_neg (by omega)]
  refine ⟨?_, ?_⟩
  · rw [filt_ord hp hso hap _ (by rw [f1]; exact List.Pairwise.filter _ hs), f1]
  · rw [filt_ord hp hso hap _ (by
      rw [f2]
      unfold wsh
      refine List.Pairwise.map _ (fun a b hab => ?_) (List.Pairwise.filter _ hs)
      unfold ilt at hab ⊢
      simp only [decide_eq_false_iff_not] at hab ⊢
      omega), f2]
abbrev weC (c : Ch) : Array Value := #[.int .i64 c.oa, .int .i64 c.ob, .int .i64 c.na, .int .i64 c.nb]
abbrev weZ : Array Value := #[.int .i64 0, .slice none 0 0, .int .i64 0]
theorem rows_row3 {w : World} {A : Option Addr} {l : List In} (h : RowsAt encI 5 w A l) {t : TypeId} {b : Nat} {cs : Array Value} (r : RawAt t w b cs) (hs : cs.size = 3) (vs : Array Value) : RowsAt encI 5 (w.setRow b vs) A l := by
  intro hl
  obtain ⟨bA, off, rfl, h1, h2⟩ := h hl
  have hne : bA ≠ b := by
    rintro rfl
    have := h2 0 hl 4 (by omega)
    rw [RawAt.cell r, Array.getElem?_eq_none (by omega)] at this
    cases this
  exact ⟨bA, off, rfl, by simpa using h1, fun j hj c hc => (cell_setRow_other w b vs _ hne).trans (h2 j hj c hc)⟩
set_option maxHeartbeats 32000000 in
set_option maxRecDepth 100000 in
theorem weaveEdits_walk (n : Int) (A : Option Addr) (m c' : Nat) (l : List In) (c : Ch) (w : World) (_wf : (Lit.int .i64 n).wf = true) (hI : RowsAt encI 5 w A l) (hl : l.length = m) (hn : m ≤ maxLen) (hc : Caps A m c') (hO : ∀ s ∈ l, InOk s) :
    Calls Tryz.prog 7 #[.int .i64 n, .slice A m c', .agg #[.int .i64 c.oa, .int .i64 c.ob, .int .i64 c.na, .int .i64 c.nb]] w fun e w' => e = .returned (.bool true) ∧ Below w.heap.size w w' := by
  have C4 := Lib.hid fun W => four_any W
  have tf0 := we13f
  obtain ⟨W1, hW1⟩ : ∃ W1, W1 = w.alloc (.cells #[.int .i64 c.oa, .int .i64 c.ob, .int .i64 c.na, .int .i64 c.nb] 64) := ⟨_, rfl⟩
  have x1 : Below w.heap.size w W1 := by rw [hW1]; exact (Below.refl _ _).alloc (Nat.le_refl _) _
  have r1 : RawAt 64 W1 w.heap.size #[.int .i64 c.oa, .int .i64 c.ob, .int .i64 c.na, .int .i64 c.nb] := by rw [hW1]; exact heap_alloc_new w _
  have HW1 := Lib.hid hW1
  have X1 := Lib.hid x1
  have Hb := Lib.hid r1
  have CLO := Lib.hid fun (b : Bool) (hb : b = true ↔ ¬ Short14 n l) => long14_any n A m c' l b W1 (hI.below x1) hl hn (fun x hx => (hO x hx).2.2.2.2) hb
  clear hW1 x1 r1
  by_cases g : Short14 n l
  · have CLF := Lib.hid (CLO.out false ⟨fun h => absurd h (by simp), fun h => absurd g h⟩)
    by_cases gN : 300 < c.nb
    · have kN : decide (300 < c.nb) = true := decide_eq_true gN
      clear CLO hI hO hc g
      go_enter Tryz.func7, Tryz.ntmps7
      go_wp2_with fail
      rw [← HW1.out]
      with_reducible refine (CLF.out).mono ?_
      rintro e w2 ⟨rfl, b2⟩
      have HQ2 := Lib.hid (X1.out.trans (b2.mono X1.out.size))
      have p3 : w2.cell? ⟨w.heap.size, 3, none⟩ = some (.int .i64 c.nb) := RawAt.cell (RawAt.below Hb.out b2 Hb.out.lt) 3
      clear b2
      go_wp2_with fail
      with_reducible refine (C4.out _).mono ?_
      rintro e w3 ⟨rfl, b3⟩
      have HQ3 := Lib.hid (HQ2.out.trans (b3.mono HQ2.out.size))
      clear b3
      go_wp2
      go_ret
      exact ⟨rfl, HQ3.out⟩
    have kN : decide (300 < c.nb) = false := decide_eq_false gN
    obtain ⟨g0, g1, g2, g3⟩ := g
    have hm : m ≤ 60 := by rw [← hl]; exact g2
    have ht : ∀ x ∈ l, x.tx.size ≤ 100000000 := fun x hx => Nat.le_trans (g3 x hx) (by omega)
    have hwl : ∀ a ∈ l, (Lit.int .i64 a.id).wf = true := fun a ha => (hO a ha).1
    obtain ⟨r, hr⟩ : ∃ r, r = iwrong n l := ⟨_, rfl⟩
    have CN := Lib.hid fun (W : World) (hW : Below w.heap.size w W) => iNew_any n A m c' l W (hI.below hW) hc hl hwl ht r hr.symm
    have CR := Lib.hid fun (W : World) (hW : Below w.heap.size w W) => rNew13_any n A m c' l W (hI.below hW) hc hl ht r hr.symm
    by_cases hz : r = 0
    · have hr0 : iwrong n l = 0 := hr.symm.trans hz
      have hos := woset_new hr0 g3
      have hsrt := ord_sorted ilt ilt_swo (l.map icl)
      have hid : ∀ a ∈ ord ilt (l.map icl), icl a = a := fun a ha => (ord_size hr0 a ha).2.2
      have hsz : ∀ a ∈ ord ilt (l.map icl), a.tx.size ≤ 160 := fun a ha => (ord_size hr0 a ha).1
      have how : ∀ a ∈ ord ilt (l.map icl), (Lit.int .i64 a.id).wf = true := fun a ha => by
        obtain ⟨y, hy, rfl⟩ := List.mem_map.1 ((ord_perm ilt ilt_swo _).mem_iff.1 ha)
        exact hwl y hy
      have hol : (ord ilt (l.map icl)).length = m := by rw [(ord_perm ilt ilt_swo _).length_eq, List.length_map]; exact hl
      obtain ⟨o, ho⟩ : ∃ o, o = ord ilt (l.map icl) := ⟨_, rfl⟩
      rw [← ho] at hos hsrt hid hsz how hol CN
      have CRN := Lib.hid fun (W : World) (hW : Below w.heap.size w W) => (CR.out W hW).mono fun e w' ⟨nn, A2, m2, c2, he, hres, hb⟩ => (by
        obtain ⟨h1, h2, h3⟩ := hres hz
        rw [← ho] at h3
        rw [h1, h2, hl, hz] at he
        exact ⟨A2, c2, he, h3, hb⟩ : ∃ A2 c2, e = Ending.returned (.agg #[.int .i64 n, .slice A2 m c2, .int .i64 0]) ∧ RowsAt encI 5 w' A2 o ∧ Below W.heap.size W w')
      subst hz
      -- the shift
      obtain ⟨rs, hrs⟩ : ∃ rs, IShIs n [c] o rs := by
        by_cases k1 : nrm M40 0 0 true [c]
        · by_cases k2 : n < iolast [c]
          · exact ⟨1, fun h => absurd k1 h, fun _ _ => rfl, fun _ h => absurd k2 h⟩
          · exact ⟨iwrong (n + dlt [c]) (ishift [c] o), fun h => absurd k1 h, fun _ h => absurd h k2, fun _ _ => rfl⟩
        · exact ⟨4, fun _ => rfl, fun h => absurd h k1, fun h => absurd h k1⟩
      have hz0 : 0 ≤ n ∧ n ≤ 1099511627776 := ⟨g0, by omega⟩
      have hpb : ∀ a ∈ o, 0 ≤ a.pl ∧ a.pl ≤ n ∧ (a.bi = 0 ∨ a.bi = 1) := fun a ha => by have q := wiwr_ok (hos.each a ha).1; exact ⟨q.2.1, q.2.2.1, q.2.2.2.2⟩
      have CS := Lib.hid fun (sb : Nat) (A3 : Option Addr) (c3 : Nat) (W : World) (hS : ISet W sb n o) (hP : ChsAt W A3 [c]) => iShift_rows (o := o) (.pointer (some ⟨sb, 0, none⟩)) n A3 1 c3 [c] hP rfl (by omega) hz0.1 hz0.2 hpb how (fun a ha => Nat.le_trans (hsz a ha) (by omega)) (by omega) (fun W' hW' => iLen_any (hS.below hW')) (fun W' hW' => iAll_any (hS.below hW') (by omega)) rs hrs _ rfl
      have CSR := Lib.hid fun (A2 : Option Addr) (c2 : Nat) (A3 : Option Addr) (c3 : Nat) (W : World) (hQ : RowsAt encI 5 W A2 o) (hP : ChsAt W A3 [c]) => rShift13_any n 0 A2 m c2 o A3 1 c3 [c] W hQ hol (by omega) hz0.1 hz0.2 (fun a ha => ⟨(hpb a ha).1, (hpb a ha).2.1⟩) hP rfl (by omega) (fun a ha => Nat.le_trans (hsz a ha) (by omega)) rs hrs
      have HFIN : Hid (rs = 0 → (nrm M40 0 0 true [c] ∧ ¬ n < c.ob) ∧ iwrong (n + dlt [c]) (ishift [c] o) = 0) := Lib.hid fun h => by
        obtain ⟨i1, i2, i3⟩ := hrs
        have k1 : nrm M40 0 0 true [c] := by
          refine Classical.byContradiction fun hh => ?_
          have := i1 hh; omega
        have k2 : ¬ n < iolast [c] := fun hh => by have := i2 k1 hh; omega
        exact ⟨⟨k1, k2⟩, by rw [← i3 k1 k2]; exact h⟩
      have HOS := Lib.hid hos
      have HSRT := Lib.hid hsrt
      have HID := Lib.hid hid
      have HSZ := Lib.hid hsz
      have HOL := Lib.hid hol
      clear CLO hr hr0 CR hI hl ht hO hc g3 g2 hwl hos hsrt hid hsz how hrs hpb hol ho
      go_enter Tryz.func7, Tryz.ntmps7
      go_wp2_with fail
      rw [← HW1.out]
      with_reducible refine (CLF.out).mono ?_
      rintro e w2 ⟨rfl, b2⟩
      have HQ := Lib.hid (X1.out.trans (b2.mono X1.out.size))
      have Hb := Lib.hid (RawAt.below Hb.out b2 Hb.out.lt)
      have p3 : w2.cell? ⟨w.heap.size, 3, none⟩ = some (.int .i64 c.nb) := RawAt.cell Hb.out 3
      clear b2 X1 HW1 CLF
      go_wp2_with fail
      with_reducible refine (CN.out _ HQ.out).mono ?_
      rintro e w3 ⟨p, rfl, hp1, hp2, b3⟩
      obtain ⟨sb, rfl, hs⟩ := hp2 (by first | exact trivial | rfl)
      have HQ := Lib.hid (HQ.out.trans (b3.mono HQ.out.size))
      have Hb := Lib.hid (RawAt.below Hb.out b3 Hb.out.lt)
      have HI3 := Lib.hid hs
      clear b3 hp1 hp2 hs p3 CN
      have p0 : w3.cell? ⟨w.heap.size, 0, none⟩ = some (.int .i64 c.oa) := RawAt.cell Hb.out 0
      have p1 : w3.cell? ⟨w.heap.size, 1, none⟩ = some (.int .i64 c.ob) := RawAt.cell Hb.out 1
      have p2 : w3.cell? ⟨w.heap.size, 2, none⟩ = some (.int .i64 c.na) := RawAt.cell Hb.out 2
      have p3 : w3.cell? ⟨w.heap.size, 3, none⟩ = some (.int .i64 c.nb) := RawAt.cell Hb.out 3
      have x4 : Below w3.heap.size w3 (w3.alloc (.cells #[.int .i64 c.oa, .int .i64 c.ob, .int .i64 c.na, .int .i64 c.nb] 64)) := (Below.refl _ _).alloc (Nat.le_refl _) _
      have CSS := Lib.hid (CS.out sb (some ⟨w3.heap.size, 0, none⟩) 1 _ (HI3.out.below x4) (chs_one (heap_alloc_new w3 _ : RawAt 64 (w3.alloc (.cells #[.int .i64 c.oa, .int .i64 c.ob, .int .i64 c.na, .int .i64 c.nb] 64)) w3.heap.size #[.int .i64 c.oa, .int .i64 c.ob, .int .i64 c.na, .int .i64 c.nb])))
      have HQ := Lib.hid (HQ.out.trans (x4.mono HQ.out.size))
      have HI4 := Lib.hid (HI3.out.below x4)
      have Hb := Lib.hid (RawAt.below Hb.out x4 Hb.out.lt)
      clear x4 CS HI3
      go_wp2_with fail
      with_reducible refine (CSS.out).mono ?_
      rintro e w4 ⟨pt, rfl, hq1, hq2, b4⟩
      have HQ1 := Lib.hid hq1
      have HQ2 := Lib.hid hq2
      have HQ := Lib.hid (HQ.out.trans (b4.mono HQ.out.size))
      have HI5 := Lib.hid (HI4.out.below b4)
      have Rb := RawAt.below Hb.out b4 Hb.out.lt
      clear b4 hq1 hq2 CSS HI4 Hb p0 p1 p2 p3
      go_upto_region 7 with fail
      go_cut [11] from 14 (fun s11 wx => ∃ (bz : Nat) (nn : Int) (A3 : Option Addr) (m3 c3 : Nat), s11 = .pointer (some ⟨bz, 0, none⟩) ∧ Hid (RawAt 30 wx bz #[.int .i64 nn, .slice A3 m3 c3, .int .i64 rs]) ∧ Hid (rs = 0 → nn = n + dlt [c] ∧ m3 = (ishift [c] o).length ∧ RowsAt encI 5 wx A3 (ord ilt ((ishift [c] o).map icl))) ∧ Hid (RawAt 64 wx w.heap.size #[.int .i64 c.oa, .int .i64 c.ob, .int .i64 c.na, .int .i64 c.nb]) ∧ Hid (Below w4.heap.size w4 wx))
      case first =>
        have hW : Below w4.heap.size w4 w4.drew := (Below.refl _ _).drew
        have hWn : Below w4.heap.size w4 w4 := Below.refl _ _
        have hlt0 := Rb.lt
        have RbB := Rb
        have MK : Hid (∀ V : World, RawAt 64 V w.heap.size #[.int .i64 c.oa, .int .i64 c.ob, .int .i64 c.na, .int .i64 c.nb] → (fun V => V.cell? ⟨w.heap.size, 0, none⟩ = some (.int .i64 c.oa) ∧ V.cell? ⟨w.heap.size, 1, none⟩ = some (.int .i64 c.ob) ∧ V.cell? ⟨w.heap.size, 2, none⟩ = some (.int .i64 c.na) ∧ V.cell? ⟨w.heap.size, 3, none⟩ = some (.int .i64 c.nb)) V) := Lib.hid fun V h => ⟨RawAt.cell h 0, RawAt.cell h 1, RawAt.cell h 2, RawAt.cell h 3⟩
        refine wp_region_noPanic ?_
        refine wp_region_held_drew (S := fun V => V.cell? ⟨w.heap.size, 0, none⟩ = some (.int .i64 c.oa) ∧ V.cell? ⟨w.heap.size, 1, none⟩ = some (.int .i64 c.ob) ∧ V.cell? ⟨w.heap.size, 2, none⟩ = some (.int .i64 c.na) ∧ V.cell? ⟨w.heap.size, 3, none⟩ = some (.int .i64 c.nb)) (by kernel_rfl) (MK.out _ Rb) (fun hHeld => ?_)
        have Rb : RawAt 64 w4.drew w.heap.size #[.int .i64 c.oa, .int .i64 c.ob, .int .i64 c.na, .int .i64 c.nb] := Rb
        refine wpAnyH_take (i := 0) (v := ?_) rfl (by kernel_rfl) (by kernel_rfl) (by kernel_rfl) (fun _ _ _ h => h) (Or.inl ⟨by rfl, ?_⟩) hHeld ?_
        rotate_left
        · intro w hSw
          (try dsimp only at hSw)
          go_simp
          try with_reducible rfl
        go_simp
        refine wpAnyH_take (i := 1) (v := ?_) rfl (by kernel_rfl) (by kernel_rfl) (by kernel_rfl) (fun _ _ _ h => h) (Or.inl ⟨by rfl, ?_⟩) hHeld ?_
        rotate_left
        · intro w hSw
          (try dsimp only at hSw)
          go_simp
          try with_reducible rfl
        go_simp
        refine wpAnyH_take (i := 3) (v := ?_) rfl (by kernel_rfl) (by kernel_rfl) (by kernel_rfl) (fun _ _ _ h => h) (Or.inl ⟨by rfl, ?_⟩) hHeld ?_
        rotate_left
        · intro w hSw
          (try dsimp only at hSw)
          go_simp
          try with_reducible rfl
        go_simp
        refine wpAnyH_take (i := 4) (v := ?_) rfl (by kernel_rfl) (by kernel_rfl) (by kernel_rfl) (fun _ _ _ h => h) (Or.inl ⟨by rfl, ?_⟩) hHeld ?_
        rotate_left
        · intro w hSw
          (try dsimp only at hSw)
          go_simp
          try with_reducible rfl
        go_simp
        refine wpAnyH_take (i := 5) (v := ?_) rfl (by kernel_rfl) (by kernel_rfl) (by kernel_rfl) (fun _ _ _ h => h) (Or.inl ⟨by rfl, ?_⟩) hHeld ?_
        rotate_left
        · intro w hSw
          (try dsimp only at hSw)
          go_simp
          try with_reducible rfl
        go_simp
        refine wpAnyH_take (i := 6) (v := ?_) rfl (by kernel_rfl) (by kernel_rfl) (by kernel_rfl) (fun _ _ _ h => h) (Or.inl ⟨by rfl, ?_⟩) hHeld ?_
        rotate_left
        · intro w hSw
          (try dsimp only at hSw)
          go_simp
          try with_reducible rfl
        go_simp
        refine wpAnyH_take (i := 7) (v := ?_) rfl (by kernel_rfl) (by kernel_rfl) (by kernel_rfl) (fun _ _ _ h => h) (Or.inl ⟨by rfl, ?_⟩) hHeld ?_
        rotate_left
        · intro w hSw
          (try dsimp only at hSw)
          go_simp
          try with_reducible rfl
        go_simp
        refine wpAnyH_ready (rs := [2, 8, 10]) (by kernel_rfl) (by simp) ?_
        refine AllReadyH.cons rfl (fun K hK => ?_) (AllReadyH.cons rfl (fun K hK => ?_) (AllReadyH.cons rfl (fun K hK => ?_) AllReadyH.nil))
        · go_simp
          go_wp2_with (first | (go_at_call 18; ((refine (CRN.out _ (HQ.out.trans (hW.mono HQ.out.size))).mono ?_); rintro e wN ⟨A2, c2, rfl, hR2, bN⟩)))
          have Rb := RawAt.below Rb bN Rb.lt
          have hW := hW.trans (bN.mono hW.size)
          have hWn := hW
          refine hK.out _ _ (by with_reducible exact MK.out _ Rb) (fun hHeld => ?_)
          clear hK K
          go_simp
          have RbB := Rb
          have hR2B := hR2
          refine wpAnyH_ready (rs := [8, 10]) (by kernel_rfl) (by simp) ?_
          refine AllReadyH.cons rfl (fun K hK => ?_) (AllReadyH.cons rfl (fun K hK => ?_) AllReadyH.nil)
          · go_simp
            go_wp2_with (fail)
            have Rb : RawAt 64 (wN.alloc (.cells (weC c) 68)) w.heap.size (weC c) := (RawAt.below RbB ((Below.refl wN.heap.size wN).alloc (Nat.le_refl _) (.cells (weC c) 68)) RbB.lt : RawAt 64 (wN.alloc (.cells (weC c) 68)) w.heap.size (weC c))
            have RS : RawAt 68 (wN.alloc (.cells (weC c) 68)) wN.heap.size (weC c) := heap_alloc_new wN _
            have hR2 : RowsAt encI 5 (wN.alloc (.cells (weC c) 68)) A2 o := (hR2B.below ((Below.refl wN.heap.size wN).alloc (Nat.le_refl _) (.cells (weC c) 68)) : RowsAt encI 5 (wN.alloc (.cells (weC c) 68)) A2 o)
            have hW : Below w4.heap.size w4 (wN.alloc (.cells (weC c) 68)) := (hWn.trans (((Below.refl wN.heap.size wN).alloc (Nat.le_refl _) (.cells (weC c) 68)).mono hWn.size))
            have hltS : w.heap.size < wN.heap.size := by have := hWn.size; omega
            have hleS : w4.heap.size ≤ wN.heap.size := by have := hWn.size; omega
            refine hK.out _ _ (by with_reducible exact MK.out _ Rb) (fun hHeld => ?_)
            clear hK K
            go_simp
            refine wpAnyH_ready (rs := [9, 10]) (by kernel_rfl) (by simp) ?_
            refine AllReadyH.cons rfl (fun K hK => ?_) (AllReadyH.cons rfl (fun K hK => ?_) AllReadyH.nil)
            · go_simp
              go_wp2_with (first | (go_at_call 33; ((refine (CSR.out A2 c2 (some ⟨wN.heap.size, 0, none⟩) 1 _ hR2 (chs_one RS)).mono ?_); rintro e wH ⟨nn, A3, m3, c3, rfl, hres, bH⟩)))
              have Rb := RawAt.below Rb bH Rb.lt
              have hW := hW.trans (bH.mono hW.size)
              have hWn := hW
              have hR3 : rs = 0 → nn = n + dlt [c] ∧ m3 = (ishift [c] o).length ∧ RowsAt encI 5 wH A3 (ord ilt ((ishift [c] o).map icl)) := hres
              refine hK.out _ _ (by with_reducible exact MK.out _ Rb) (fun hHeld => ?_)
              clear hK K
              go_simp
              have RbB := Rb
              refine wpAnyH_ready (rs := [10]) (by kernel_rfl) (by simp) ?_
              refine AllReadyH.cons rfl (fun K hK => ?_) ?_
              rotate_left
              · exact AllReadyH.nil
              go_simp
              go_wp2_with (fail)
              have Rb : RawAt 64 (wH.alloc (.cells weZ 30)) w.heap.size (weC c) := (RawAt.below RbB ((Below.refl wH.heap.size wH).alloc (Nat.le_refl _) (.cells weZ 30)) RbB.lt : RawAt 64 (wH.alloc (.cells weZ 30)) w.heap.size (weC c))
              have RZ : RawAt 30 (wH.alloc (.cells weZ 30)) wH.heap.size weZ := heap_alloc_new wH _
              have hR3 : rs = 0 → nn = n + dlt [c] ∧ m3 = (ishift [c] o).length ∧ RowsAt encI 5 (wH.alloc (.cells weZ 30)) A3 (ord ilt ((ishift [c] o).map icl)) := fun h => ⟨(hR3 h).1, (hR3 h).2.1, (hR3 h).2.2.below ((Below.refl wH.heap.size wH).alloc (Nat.le_refl _) (.cells weZ 30))⟩
              have hW : Below w4.heap.size w4 (wH.alloc (.cells weZ 30)) := (hWn.trans (((Below.refl wH.heap.size wH).alloc (Nat.le_refl _) (.cells weZ 30)).mono hWn.size))
              have hltZ : w.heap.size < wH.heap.size := by have := hWn.size; omega
              have hleZ : w4.heap.size ≤ wH.heap.size := by have := hWn.size; omega
              refine hK.out _ _ (by with_reducible exact MK.out _ Rb) (fun hHeld => ?_)
              clear hK K
              go_simp
              refine wpAnyH_ready (rs := [11]) (by kernel_rfl) (by simp) ?_
              refine AllReadyH.cons rfl (fun K hK => ?_) ?_
              rotate_left
              · exact AllReadyH.nil
              have RbS := raw_row_ne Rb RZ (Nat.ne_of_lt hltZ) #[.int .i64 nn, .slice A3 m3 c3, .int .i64 rs]
              have hR4 := fun h => (⟨(hR3 h).1, (hR3 h).2.1, rows_row3 (hR3 h).2.2 RZ rfl #[.int .i64 nn, .slice A3 m3 c3, .int .i64 rs]⟩ : nn = n + dlt [c] ∧ m3 = (ishift [c] o).length ∧ RowsAt encI 5 _ A3 (ord ilt ((ishift [c] o).map icl)))
              refine step_store_row rfl 30 _ _ rfl wH.heap.size #[.int .i64 nn, .slice A3 m3 c3, .int .i64 rs] rfl rfl RZ (by kernel_rfl) rfl (by simp [Value.oneCell']) ?_
              refine hK.out _ _ (by with_reducible exact MK.out _ RbS) (fun hHeld => ?_)
              clear hK K
              go_simp
              refine wpAnyH_done (by kernel_rfl) ?_ _
              refine NoPanic.normal ?_
              go_wp2_with fail
              have RN := raw_row RZ #[.int .i64 nn, .slice A3 m3 c3, .int .i64 rs]
              have HN := Lib.hid (below_setRow (g := wH.heap.size) hW hleZ #[.int .i64 nn, .slice A3 m3 c3, .int .i64 rs])
              go_meet
              exact ⟨wH.heap.size, nn, A3, m3, c3, rfl, Lib.hid RN, Lib.hid hR4, Lib.hid RbS, HN⟩
            · go_simp
              go_wp2_with (fail)
              have Rb : RawAt 64 ((wN.alloc (.cells (weC c) 68)).alloc (.cells weZ 30)) w.heap.size (weC c) := (RawAt.below RbB (((Below.refl wN.heap.size wN).alloc (Nat.le_refl _) (.cells (weC c) 68)).alloc (by simp) (.cells weZ 30)) RbB.lt : RawAt 64 ((wN.alloc (.cells (weC c) 68)).alloc (.cells weZ 30)) w.heap.size (weC c))
              have RS : RawAt 68 ((wN.alloc (.cells (weC c) 68)).alloc (.cells weZ 30)) wN.heap.size (weC c) := (new2 wN _ _ _ _).1
              have RZ : RawAt 30 ((wN.alloc (.cells (weC c) 68)).alloc (.cells weZ 30)) (wN.heap.size + 1) weZ := (new2 wN _ _ _ _).2.1
              have hR2 : RowsAt encI 5 ((wN.alloc (.cells (weC c) 68)).alloc (.cells weZ 30)) A2 o := (hR2B.below (((Below.refl wN.heap.size wN).alloc (Nat.le_refl _) (.cells (weC c) 68)).alloc (by simp) (.cells weZ 30)) : RowsAt encI 5 ((wN.alloc (.cells (weC c) 68)).alloc (.cells weZ 30)) A2 o)
              have hW : Below w4.heap.size w4 ((wN.alloc (.cells (weC c) 68)).alloc (.cells weZ 30)) := (hWn.trans ((((Below.refl wN.heap.size wN).alloc (Nat.le_refl _) (.cells (weC c) 68)).alloc (by simp) (.cells weZ 30)).mono hWn.size))
              have hltZ : w.heap.size < (wN.heap.size + 1) := by have := hWn.size; omega
              have hleZ : w4.heap.size ≤ (wN.heap.size + 1) := by have := hWn.size; omega
              refine hK.out _ _ (by with_reducible exact MK.out _ Rb) (fun hHeld => ?_)
              clear hK K
              go_simp
              refine wpAnyH_ready (rs := [9]) (by kernel_rfl) (by simp) ?_
              refine AllReadyH.cons rfl (fun K hK => ?_) ?_
              rotate_left
              · exact AllReadyH.nil
              go_simp
              go_wp2_with (first | (go_at_call 33; ((refine (CSR.out A2 c2 (some ⟨wN.heap.size, 0, none⟩) 1 _ hR2 (chs_one RS)).mono ?_); rintro e wH ⟨nn, A3, m3, c3, rfl, hres, bH⟩)))
              have Rb := RawAt.below Rb bH Rb.lt
              have RZ := RawAt.below RZ bH RZ.lt
              have hW := hW.trans (bH.mono hW.size)
              have hWn := hW
              have hR3 : rs = 0 → nn = n + dlt [c] ∧ m3 = (ishift [c] o).length ∧ RowsAt encI 5 wH A3 (ord ilt ((ishift [c] o).map icl)) := hres
              refine hK.out _ _ (by with_reducible exact MK.out _ Rb) (fun hHeld => ?_)
              clear hK K
              go_simp
              have RbB := Rb
              have RZB := RZ
              refine wpAnyH_ready (rs := [11]) (by kernel_rfl) (by simp) ?_
              refine AllReadyH.cons rfl (fun K hK => ?_) ?_
              rotate_left
              · exact AllReadyH.nil
              have RbS := raw_row_ne Rb RZ (Nat.ne_of_lt hltZ) #[.int .i64 nn, .slice A3 m3 c3, .int .i64 rs]
              have hR4 := fun h => (⟨(hR3 h).1, (hR3 h).2.1, rows_row3 (hR3 h).2.2 RZ rfl #[.int .i64 nn, .slice A3 m3 c3, .int .i64 rs]⟩ : nn = n + dlt [c] ∧ m3 = (ishift [c] o).length ∧ RowsAt encI 5 _ A3 (ord ilt ((ishift [c] o).map icl)))
              refine step_store_row rfl 30 _ _ rfl (wN.heap.size + 1) #[.int .i64 nn, .slice A3 m3 c3, .int .i64 rs] rfl rfl RZ (by kernel_rfl) rfl (by simp [Value.oneCell']) ?_
              refine hK.out _ _ (by with_reducible exact MK.out _ RbS) (fun hHeld => ?_)
              clear hK K
              go_simp
              refine wpAnyH_done (by kernel_rfl) ?_ _
              refine NoPanic.normal ?_
              go_wp2_with fail
              have RN := raw_row RZ #[.int .i64 nn, .slice A3 m3 c3, .int .i64 rs]
              have HN := Lib.hid (below_setRow (g := (wN.heap.size + 1)) hW hleZ #[.int .i64 nn, .slice A3 m3 c3, .int .i64 rs])
              go_meet
              exact ⟨(wN.heap.size + 1), nn, A3, m3, c3, rfl, Lib.hid RN, Lib.hid hR4, Lib.hid RbS, HN⟩
          · go_simp
            go_wp2_with (fail)
            have Rb : RawAt 64 (wN.alloc (.cells weZ 30)) w.heap.size (weC c) := (RawAt.below RbB ((Below.refl wN.heap.size wN).alloc (Nat.le_refl _) (.cells weZ 30)) RbB.lt : RawAt 64 (wN.alloc (.cells weZ 30)) w.heap.size (weC c))
            have RZ : RawAt 30 (wN.alloc (.cells weZ 30)) wN.heap.size weZ := heap_alloc_new wN _
            have hR2 : RowsAt encI 5 (wN.alloc (.cells weZ 30)) A2 o := (hR2B.below ((Below.refl wN.heap.size wN).alloc (Nat.le_refl _) (.cells weZ 30)) : RowsAt encI 5 (wN.alloc (.cells weZ 30)) A2 o)
            have hW : Below w4.heap.size w4 (wN.alloc (.cells weZ 30)) := (hWn.trans (((Below.refl wN.heap.size wN).alloc (Nat.le_refl _) (.cells weZ 30)).mono hWn.size))
            have hltZ : w.heap.size < wN.heap.size := by have := hWn.size; omega
            have hleZ : w4.heap.size ≤ wN.heap.size := by have := hWn.size; omega
            refine hK.out _ _ (by with_reducible exact MK.out _ Rb) (fun hHeld => ?_)
            clear hK K
            go_simp
            refine wpAnyH_ready (rs := [8]) (by kernel_rfl) (by simp) ?_
            refine AllReadyH.cons rfl (fun K hK => ?_) ?_
            rotate_left
            · exact AllReadyH.nil
            go_simp
            go_wp2_with (fail)
            have Rb : RawAt 64 ((wN.alloc (.cells weZ 30)).alloc (.cells (weC c) 68)) w.heap.size (weC c) := (RawAt.below RbB (((Below.refl wN.heap.size wN).alloc (Nat.le_refl _) (.cells weZ 30)).alloc (by simp) (.cells (weC c) 68)) RbB.lt : RawAt 64 ((wN.alloc (.cells weZ 30)).alloc (.cells (weC c) 68)) w.heap.size (weC c))
            have RZ : RawAt 30 ((wN.alloc (.cells weZ 30)).alloc (.cells (weC c) 68)) wN.heap.size weZ := (new2 wN _ _ _ _).1
            have RS : RawAt 68 ((wN.alloc (.cells weZ 30)).alloc (.cells (weC c) 68)) (wN.heap.size + 1) (weC c) := (new2 wN _ _ _ _).2.1
            have hR2 : RowsAt encI 5 ((wN.alloc (.cells weZ 30)).alloc (.cells (weC c) 68)) A2 o := (hR2B.below (((Below.refl wN.heap.size wN).alloc (Nat.le_refl _) (.cells weZ 30)).alloc (by simp) (.cells (weC c) 68)) : RowsAt encI 5 ((wN.alloc (.cells weZ 30)).alloc (.cells (weC c) 68)) A2 o)
            have hW : Below w4.heap.size w4 ((wN.alloc (.cells weZ 30)).alloc (.cells (weC c) 68)) := (hWn.trans ((((Below.refl wN.heap.size wN).alloc (Nat.le_refl _) (.cells weZ 30)).alloc (by simp) (.cells (weC c) 68)).mono hWn.size))
            have hltS : w.heap.size < (wN.heap.size + 1) := by have := hWn.size; omega
            have hleS : w4.heap.size ≤ (wN.heap.size + 1) := by have := hWn.size; omega
            refine hK.out _ _ (by with_reducible exact MK.out _ Rb) (fun hHeld => ?_)
            clear hK K
            go_simp
            refine wpAnyH_ready (rs := [9]) (by kernel_rfl) (by simp) ?_
            refine AllReadyH.cons rfl (fun K hK => ?_) ?_
            rotate_left
            · exact AllReadyH.nil
            go_simp
            go_wp2_with (first | (go_at_call 33; ((refine (CSR.out A2 c2 (some ⟨(wN.heap.size + 1), 0, none⟩) 1 _ hR2 (chs_one RS)).mono ?_); rintro e wH ⟨nn, A3, m3, c3, rfl, hres, bH⟩)))
            have Rb := RawAt.below Rb bH Rb.lt
            have RZ := RawAt.below RZ bH RZ.lt
            have hW := hW.trans (bH.mono hW.size)
            have hWn := hW
            have hR3 : rs = 0 → nn = n + dlt [c] ∧ m3 = (ishift [c] o).length ∧ RowsAt encI 5 wH A3 (ord ilt ((ishift [c] o).map icl)) := hres
            refine hK.out _ _ (by with_reducible exact MK.out _ Rb) (fun hHeld => ?_)
            clear hK K
            go_simp
            have RbB := Rb
            have RZB := RZ
            refine wpAnyH_ready (rs := [11]) (by kernel_rfl) (by simp) ?_
            refine AllReadyH.cons rfl (fun K hK => ?_) ?_
            rotate_left
            · exact AllReadyH.nil
            have RbS := raw_row_ne Rb RZ (Nat.ne_of_lt hltZ) #[.int .i64 nn, .slice A3 m3 c3, .int .i64 rs]
            have hR4 := fun h => (⟨(hR3 h).1, (hR3 h).2.1, rows_row3 (hR3 h).2.2 RZ rfl #[.int .i64 nn, .slice A3 m3 c3, .int .i64 rs]⟩ : nn = n + dlt [c] ∧ m3 = (ishift [c] o).length ∧ RowsAt encI 5 _ A3 (ord ilt ((ishift [c] o).map icl)))
            refine step_store_row rfl 30 _ _ rfl wN.heap.size #[.int .i64 nn, .slice A3 m3 c3, .int .i64 rs] rfl rfl RZ (by kernel_rfl) rfl (by simp [Value.oneCell']) ?_
            refine hK.out _ _ (by with_reducible exact MK.out _ RbS) (fun hHeld => ?_)
            clear hK K
            go_simp
            refine wpAnyH_done (by kernel_rfl) ?_ _
            refine NoPanic.normal ?_
            go_wp2_with fail
            have RN := raw_row RZ #[.int .i64 nn, .slice A3 m3 c3, .int .i64 rs]
            have HN := Lib.hid (below_setRow (g := wN.heap.size) hW hleZ #[.int .i64 nn, .slice A3 m3 c3, .int .i64 rs])
            go_meet
            exact ⟨wN.heap.size, nn, A3, m3, c3, rfl, Lib.hid RN, Lib.hid hR4, Lib.hid RbS, HN⟩
        · go_simp
          go_wp2_with (fail)
          have Rb : RawAt 64 (w4.alloc (.cells (weC c) 68)).drew w.heap.size (weC c) := (RawAt.below RbB ((Below.refl w4.heap.size w4).alloc (Nat.le_refl _) (.cells (weC c) 68)) RbB.lt : RawAt 64 (w4.alloc (.cells (weC c) 68)) w.heap.size (weC c))
          have RS : RawAt 68 (w4.alloc (.cells (weC c) 68)).drew w4.heap.size (weC c) := heap_alloc_new w4 _
          have hW : Below w4.heap.size w4 (w4.alloc (.cells (weC c) 68)).drew := (hWn.trans (((Below.refl w4.heap.size w4).alloc (Nat.le_refl _) (.cells (weC c) 68)).mono hWn.size)).drew
          have hltS : w.heap.size < w4.heap.size := by have := hWn.size; omega
          have hleS : w4.heap.size ≤ w4.heap.size := by have := hWn.size; omega
          refine hK.out _ _ (by with_reducible exact MK.out _ Rb) (fun hHeld => ?_)
          clear hK K
          go_simp
          refine wpAnyH_ready (rs := [2, 10]) (by kernel_rfl) (by simp) ?_
          refine AllReadyH.cons rfl (fun K hK => ?_) (AllReadyH.cons rfl (fun K hK => ?_) AllReadyH.nil)
          · go_simp
            go_wp2_with (first | (go_at_call 18; ((refine (CRN.out _ (HQ.out.trans (hW.mono HQ.out.size))).mono ?_); rintro e wN ⟨A2, c2, rfl, hR2, bN⟩)))
            have Rb := RawAt.below Rb bN Rb.lt
            have RS := RawAt.below RS bN RS.lt
            have hW := hW.trans (bN.mono hW.size)
            have hWn := hW
            refine hK.out _ _ (by with_reducible exact MK.out _ Rb) (fun hHeld => ?_)
            clear hK K
            go_simp
            have RbB := Rb
            have RSB := RS
            have hR2B := hR2
            refine wpAnyH_ready (rs := [9, 10]) (by kernel_rfl) (by simp) ?_
            refine AllReadyH.cons rfl (fun K hK => ?_) (AllReadyH.cons rfl (fun K hK => ?_) AllReadyH.nil)
            · go_simp
              go_wp2_with (first | (go_at_call 33; ((refine (CSR.out A2 c2 (some ⟨w4.heap.size, 0, none⟩) 1 _ hR2 (chs_one RS)).mono ?_); rintro e wH ⟨nn, A3, m3, c3, rfl, hres, bH⟩)))
              have Rb := RawAt.below Rb bH Rb.lt
              have hW := hW.trans (bH.mono hW.size)
              have hWn := hW
              have hR3 : rs = 0 → nn = n + dlt [c] ∧ m3 = (ishift [c] o).length ∧ RowsAt encI 5 wH A3 (ord ilt ((ishift [c] o).map icl)) := hres
              refine hK.out _ _ (by with_reducible exact MK.out _ Rb) (fun hHeld => ?_)
              clear hK K
              go_simp
              have RbB := Rb
              refine wpAnyH_ready (rs := [10]) (by kernel_rfl) (by simp) ?_
              refine AllReadyH.cons rfl (fun K hK => ?_) ?_
              rotate_left
              · exact AllReadyH.nil
              go_simp
              go_wp2_with (fail)
              have Rb : RawAt 64 (wH.alloc (.cells weZ 30)) w.heap.size (weC c) := (RawAt.below RbB ((Below.refl wH.heap.size wH).alloc (Nat.le_refl _) (.cells weZ 30)) RbB.lt : RawAt 64 (wH.alloc (.cells weZ 30)) w.heap.size (weC c))
              have RZ : RawAt 30 (wH.alloc (.cells weZ 30)) wH.heap.size weZ := heap_alloc_new wH _
              have hR3 : rs = 0 → nn = n + dlt [c] ∧ m3 = (ishift [c] o).length ∧ RowsAt encI 5 (wH.alloc (.cells weZ 30)) A3 (ord ilt ((ishift [c] o).map icl)) := fun h => ⟨(hR3 h).1, (hR3 h).2.1, (hR3 h).2.2.below ((Below.refl wH.heap.size wH).alloc (Nat.le_refl _) (.cells weZ 30))⟩
              have hW : Below w4.heap.size w4 (wH.alloc (.cells weZ 30)) := (hWn.trans (((Below.refl wH.heap.size wH).alloc (Nat.le_refl _) (.cells weZ 30)).mono hWn.size))
              have hltZ : w.heap.size < wH.heap.size := by have := hWn.size; omega
              have hleZ : w4.heap.size ≤ wH.heap.size := by have := hWn.size; omega
              refine hK.out _ _ (by with_reducible exact MK.out _ Rb) (fun hHeld => ?_)
              clear hK K
              go_simp
              refine wpAnyH_ready (rs := [11]) (by kernel_rfl) (by simp) ?_
              refine AllReadyH.cons rfl (fun K hK => ?_) ?_
              rotate_left
              · exact AllReadyH.nil
              have RbS := raw_row_ne Rb RZ (Nat.ne_of_lt hltZ) #[.int .i64 nn, .slice A3 m3 c3, .int .i64 rs]
              have hR4 := fun h => (⟨(hR3 h).1, (hR3 h).2.1, rows_row3 (hR3 h).2.2 RZ rfl #[.int .i64 nn, .slice A3 m3 c3, .int .i64 rs]⟩ : nn = n + dlt [c] ∧ m3 = (ishift [c] o).length ∧ RowsAt encI 5 _ A3 (ord ilt ((ishift [c] o).map icl)))
              refine step_store_row rfl 30 _ _ rfl wH.heap.size #[.int .i64 nn, .slice A3 m3 c3, .int .i64 rs] rfl rfl RZ (by kernel_rfl) rfl (by simp [Value.oneCell']) ?_
              refine hK.out _ _ (by with_reducible exact MK.out _ RbS) (fun hHeld => ?_)
              clear hK K
              go_simp
              refine wpAnyH_done (by kernel_rfl) ?_ _
              refine NoPanic.normal ?_
              go_wp2_with fail
              have RN := raw_row RZ #[.int .i64 nn, .slice A3 m3 c3, .int .i64 rs]
              have HN := Lib.hid (below_setRow (g := wH.heap.size) hW hleZ #[.int .i64 nn, .slice A3 m3 c3, .int .i64 rs])
              go_meet
              exact ⟨wH.heap.size, nn, A3, m3, c3, rfl, Lib.hid RN, Lib.hid hR4, Lib.hid RbS, HN⟩
            · go_simp
              go_wp2_with (fail)
              have Rb : RawAt 64 (wN.alloc (.cells weZ 30)) w.heap.size (weC c) := (RawAt.below RbB ((Below.refl wN.heap.size wN).alloc (Nat.le_refl _) (.cells weZ 30)) RbB.lt : RawAt 64 (wN.alloc (.cells weZ 30)) w.heap.size (weC c))
              have RZ : RawAt 30 (wN.alloc (.cells weZ 30)) wN.heap.size weZ := heap_alloc_new wN _
              have RS : RawAt 68 (wN.alloc (.cells weZ 30)) w4.heap.size (weC c) := (RawAt.below RSB ((Below.refl wN.heap.size wN).alloc (Nat.le_refl _) (.cells weZ 30)) RSB.lt : RawAt 68 (wN.alloc (.cells weZ 30)) w4.heap.size (weC c))
              have hR2 : RowsAt encI 5 (wN.alloc (.cells weZ 30)) A2 o := (hR2B.below ((Below.refl wN.heap.size wN).alloc (Nat.le_refl _) (.cells weZ 30)) : RowsAt encI 5 (wN.alloc (.cells weZ 30)) A2 o)
              have hW : Below w4.heap.size w4 (wN.alloc (.cells weZ 30)) := (hWn.trans (((Below.refl wN.heap.size wN).alloc (Nat.le_refl _) (.cells weZ 30)).mono hWn.size))
              have hltZ : w.heap.size < wN.heap.size := by have := hWn.size; omega
              have hleZ : w4.heap.size ≤ wN.heap.size := by have := hWn.size; omega
              refine hK.out _ _ (by with_reducible exact MK.out _ Rb) (fun hHeld => ?_)
              clear hK K
              go_simp
              refine wpAnyH_ready (rs := [9]) (by kernel_rfl) (by simp) ?_
              refine AllReadyH.cons rfl (fun K hK => ?_) ?_
              rotate_left
              · exact AllReadyH.nil
              go_simp
              go_wp2_with (first | (go_at_call 33; ((refine (CSR.out A2 c2 (some ⟨w4.heap.size, 0, none⟩) 1 _ hR2 (chs_one RS)).mono ?_); rintro e wH ⟨nn, A3, m3, c3, rfl, hres, bH⟩)))
              have Rb := RawAt.below Rb bH Rb.lt
              have RZ := RawAt.below RZ bH RZ.lt
              have hW := hW.trans (bH.mono hW.size)
              have hWn := hW
              have hR3 : rs = 0 → nn = n + dlt [c] ∧ m3 = (ishift [c] o).length ∧ RowsAt encI 5 wH A3 (ord ilt ((ishift [c] o).map icl)) := hres
              refine hK.out _ _ (by with_reducible exact MK.out _ Rb) (fun hHeld => ?_)
              clear hK K
              go_simp
              have RbB := Rb
              have RZB := RZ
              refine wpAnyH_ready (rs := [11]) (by kernel_rfl) (by simp) ?_
              refine AllReadyH.cons rfl (fun K hK => ?_) ?_
              rotate_left
              · exact AllReadyH.nil
              have RbS := raw_row_ne Rb RZ (Nat.ne_of_lt hltZ) #[.int .i64 nn, .slice A3 m3 c3, .int .i64 rs]
              have hR4 := fun h => (⟨(hR3 h).1, (hR3 h).2.1, rows_row3 (hR3 h).2.2 RZ rfl #[.int .i64 nn, .slice A3 m3 c3, .int .i64 rs]⟩ : nn = n + dlt [c] ∧ m3 = (ishift [c] o).length ∧ RowsAt encI 5 _ A3 (ord ilt ((ishift [c] o).map icl)))
              refine step_store_row rfl 30 _ _ rfl wN.heap.size #[.int .i64 nn, .slice A3 m3 c3, .int .i64 rs] rfl rfl RZ (by kernel_rfl) rfl (by simp [Value.oneCell']) ?_
              refine hK.out _ _ (by with_reducible exact MK.out _ RbS) (fun hHeld => ?_)
              clear hK K
              go_simp
              refine wpAnyH_done (by kernel_rfl) ?_ _
              refine NoPanic.normal ?_
              go_wp2_with fail
              have RN := raw_row RZ #[.int .i64 nn, .slice A3 m3 c3, .int .i64 rs]
              have HN := Lib.hid (below_setRow (g := wN.heap.size) hW hleZ #[.int .i64 nn, .slice A3 m3 c3, .int .i64 rs])
              go_meet
              exact ⟨wN.heap.size, nn, A3, m3, c3, rfl, Lib.hid RN, Lib.hid hR4, Lib.hid RbS, HN⟩
          · go_simp
            go_wp2_with (fail)
            have Rb : RawAt 64 ((w4.alloc (.cells (weC c) 68)).alloc (.cells weZ 30)).drew w.heap.size (weC c) := (RawAt.below RbB (((Below.refl w4.heap.size w4).alloc (Nat.le_refl _) (.cells (weC c) 68)).alloc (by simp) (.cells weZ 30)) RbB.lt : RawAt 64 ((w4.alloc (.cells (weC c) 68)).alloc (.cells weZ 30)) w.heap.size (weC c))
            have RS : RawAt 68 ((w4.alloc (.cells (weC c) 68)).alloc (.cells weZ 30)).drew w4.heap.size (weC c) := (new2 w4 _ _ _ _).1
            have RZ : RawAt 30 ((w4.alloc (.cells (weC c) 68)).alloc (.cells weZ 30)).drew (w4.heap.size + 1) weZ := (new2 w4 _ _ _ _).2.1
            have hW : Below w4.heap.size w4 ((w4.alloc (.cells (weC c) 68)).alloc (.cells weZ 30)).drew := (hWn.trans ((((Below.refl w4.heap.size w4).alloc (Nat.le_refl _) (.cells (weC c) 68)).alloc (by simp) (.cells weZ 30)).mono hWn.size)).drew
            have hltZ : w.heap.size < (w4.heap.size + 1) := by have := hWn.size; omega
            have hleZ : w4.heap.size ≤ (w4.heap.size + 1) := by have := hWn.size; omega
            refine hK.out _ _ (by with_reducible exact MK.out _ Rb) (fun hHeld => ?_)
            clear hK K
            go_simp
            refine wpAnyH_ready (rs := [2]) (by kernel_rfl) (by simp) ?_
            refine AllReadyH.cons rfl (fun K hK => ?_) ?_
            rotate_left
            · exact AllReadyH.nil
            go_simp
            go_wp2_with (first | (go_at_call 18; ((refine (CRN.out _ (HQ.out.trans (hW.mono HQ.out.size))).mono ?_); rintro e wN ⟨A2, c2, rfl, hR2, bN⟩)))
            have Rb := RawAt.below Rb bN Rb.lt
            have RS := RawAt.below RS bN RS.lt
            have RZ := RawAt.below RZ bN RZ.lt
            have hW := hW.trans (bN.mono hW.size)
            have hWn := hW
            refine hK.out _ _ (by with_reducible exact MK.out _ Rb) (fun hHeld => ?_)
            clear hK K
            go_simp
            have RbB := Rb
            have RSB := RS
            have RZB := RZ
            have hR2B := hR2
            refine wpAnyH_ready (rs := [9]) (by kernel_rfl) (by simp) ?_
            refine AllReadyH.cons rfl (fun K hK => ?_) ?_
            rotate_left
            · exact AllReadyH.nil
            go_simp
            go_wp2_with (first | (go_at_call 33; ((refine (CSR.out A2 c2 (some ⟨w4.heap.size, 0, none⟩) 1 _ hR2 (chs_one RS)).mono ?_); rintro e wH ⟨nn, A3, m3, c3, rfl, hres, bH⟩)))
            have Rb := RawAt.below Rb bH Rb.lt
            have RZ := RawAt.below RZ bH RZ.lt
            have hW := hW.trans (bH.mono hW.size)
            have hWn := hW
            have hR3 : rs = 0 → nn = n + dlt [c] ∧ m3 = (ishift [c] o).length ∧ RowsAt encI 5 wH A3 (ord ilt ((ishift [c] o).map icl)) := hres
            refine hK.out _ _ (by with_reducible exact MK.out _ Rb) (fun hHeld => ?_)
            clear hK K
            go_simp
            have RbB := Rb
            have RZB := RZ
            refine wpAnyH_ready (rs := [11]) (by kernel_rfl) (by simp) ?_
            refine AllReadyH.cons rfl (fun K hK => ?_) ?_
            rotate_left
            · exact AllReadyH.nil
            have RbS := raw_row_ne Rb RZ (Nat.ne_of_lt hltZ) #[.int .i64 nn, .slice A3 m3 c3, .int .i64 rs]
            have hR4 := fun h => (⟨(hR3 h).1, (hR3 h).2.1, rows_row3 (hR3 h).2.2 RZ rfl #[.int .i64 nn, .slice A3 m3 c3, .int .i64 rs]⟩ : nn = n + dlt [c] ∧ m3 = (ishift [c] o).length ∧ RowsAt encI 5 _ A3 (ord ilt ((ishift [c] o).map icl)))
            refine step_store_row rfl 30 _ _ rfl (w4.heap.size + 1) #[.int .i64 nn, .slice A3 m3 c3, .int .i64 rs] rfl rfl RZ (by kernel_rfl) rfl (by simp [Value.oneCell']) ?_
            refine hK.out _ _ (by with_reducible exact MK.out _ RbS) (fun hHeld => ?_)
            clear hK K
            go_simp
            refine wpAnyH_done (by kernel_rfl) ?_ _
            refine NoPanic.normal ?_
            go_wp2_with fail
            have RN := raw_row RZ #[.int .i64 nn, .slice A3 m3 c3, .int .i64 rs]
            have HN := Lib.hid (below_setRow (g := (w4.heap.size + 1)) hW hleZ #[.int .i64 nn, .slice A3 m3 c3, .int .i64 rs])
            go_meet
            exact ⟨(w4.heap.size + 1), nn, A3, m3, c3, rfl, Lib.hid RN, Lib.hid hR4, Lib.hid RbS, HN⟩
        · go_simp
          go_wp2_with (fail)
          have Rb : RawAt 64 (w4.alloc (.cells weZ 30)).drew w.heap.size (weC c) := (RawAt.below RbB ((Below.refl w4.heap.size w4).alloc (Nat.le_refl _) (.cells weZ 30)) RbB.lt : RawAt 64 (w4.alloc (.cells weZ 30)) w.heap.size (weC c))
          have RZ : RawAt 30 (w4.alloc (.cells weZ 30)).drew w4.heap.size weZ := heap_alloc_new w4 _
          have hW : Below w4.heap.size w4 (w4.alloc (.cells weZ 30)).drew := (hWn.trans (((Below.refl w4.heap.size w4).alloc (Nat.le_refl _) (.cells weZ 30)).mono hWn.size)).drew
          have hltZ : w.heap.size < w4.heap.size := by have := hWn.size; omega
          have hleZ : w4.heap.size ≤ w4.heap.size := by have := hWn.size; omega
          refine hK.out _ _ (by with_reducible exact MK.out _ Rb) (fun hHeld => ?_)
          clear hK K
          go_simp
          refine wpAnyH_ready (rs := [2, 8]) (by kernel_rfl) (by simp) ?_
          refine AllReadyH.cons rfl (fun K hK => ?_) (AllReadyH.cons rfl (fun K hK => ?_) AllReadyH.nil)
          · go_simp
            go_wp2_with (first | (go_at_call 18; ((refine (CRN.out _ (HQ.out.trans (hW.mono HQ.out.size))).mono ?_); rintro e wN ⟨A2, c2, rfl, hR2, bN⟩)))
            have Rb := RawAt.below Rb bN Rb.lt
            have RZ := RawAt.below RZ bN RZ.lt
            have hW := hW.trans (bN.mono hW.size)
            have hWn := hW
            refine hK.out _ _ (by with_reducible exact MK.out _ Rb) (fun hHeld => ?_)
            clear hK K
            go_simp
            have RbB := Rb
            have RZB := RZ
            have hR2B := hR2
            refine wpAnyH_ready (rs := [8]) (by kernel_rfl) (by simp) ?_
            refine AllReadyH.cons rfl (fun K hK => ?_) ?_
            rotate_left
            · exact AllReadyH.nil
            go_simp
            go_wp2_with (fail)
            have Rb : RawAt 64 (wN.alloc (.cells (weC c) 68)) w.heap.size (weC c) := (RawAt.below RbB ((Below.refl wN.heap.size wN).alloc (Nat.le_refl _) (.cells (weC c) 68)) RbB.lt : RawAt 64 (wN.alloc (.cells (weC c) 68)) w.heap.size (weC c))
            have RS : RawAt 68 (wN.alloc (.cells (weC c) 68)) wN.heap.size (weC c) := heap_alloc_new wN _
            have RZ : RawAt 30 (wN.alloc (.cells (weC c) 68)) w4.heap.size weZ := (RawAt.below RZB ((Below.refl wN.heap.size wN).alloc (Nat.le_refl _) (.cells (weC c) 68)) RZB.lt : RawAt 30 (wN.alloc (.cells (weC c) 68)) w4.heap.size weZ)
            have hR2 : RowsAt encI 5 (wN.alloc (.cells (weC c) 68)) A2 o := (hR2B.below ((Below.refl wN.heap.size wN).alloc (Nat.le_refl _) (.cells (weC c) 68)) : RowsAt encI 5 (wN.alloc (.cells (weC c) 68)) A2 o)
            have hW : Below w4.heap.size w4 (wN.alloc (.cells (weC c) 68)) := (hWn.trans (((Below.refl wN.heap.size wN).alloc (Nat.le_refl _) (.cells (weC c) 68)).mono hWn.size))
            have hltS : w.heap.size < wN.heap.size := by have := hWn.size; omega
            have hleS : w4.heap.size ≤ wN.heap.size := by have := hWn.size; omega
            refine hK.out _ _ (by with_reducible exact MK.out _ Rb) (fun hHeld => ?_)
            clear hK K
            go_simp
            refine wpAnyH_ready (rs := [9]) (by kernel_rfl) (by simp) ?_
            refine AllReadyH.cons rfl (fun K hK => ?_) ?_
            rotate_left
            · exact AllReadyH.nil
            go_simp
            go_wp2_with (first | (go_at_call 33; ((refine (CSR.out A2 c2 (some ⟨wN.heap.size, 0, none⟩) 1 _ hR2 (chs_one RS)).mono ?_); rintro e wH ⟨nn, A3, m3, c3, rfl, hres, bH⟩)))
            have Rb := RawAt.below Rb bH Rb.lt
            have RZ := RawAt.below RZ bH RZ.lt
            have hW := hW.trans (bH.mono hW.size)
            have hWn := hW
            have hR3 : rs = 0 → nn = n + dlt [c] ∧ m3 = (ishift [c] o).length ∧ RowsAt encI 5 wH A3 (ord ilt ((ishift [c] o).map icl)) := hres
            refine hK.out _ _ (by with_reducible exact MK.out _ Rb) (fun hHeld => ?_)
            clear hK K
            go_simp
            have RbB := Rb
            have RZB := RZ
            refine wpAnyH_ready (rs := [11]) (by kernel_rfl) (by simp) ?_
            refine AllReadyH.cons rfl (fun K hK => ?_) ?_
            rotate_left
            · exact AllReadyH.nil
            have RbS := raw_row_ne Rb RZ (Nat.ne_of_lt hltZ) #[.int .i64 nn, .slice A3 m3 c3, .int .i64 rs]
            have hR4 := fun h => (⟨(hR3 h).1, (hR3 h).2.1, rows_row3 (hR3 h).2.2 RZ rfl #[.int .i64 nn, .slice A3 m3 c3, .int .i64 rs]⟩ : nn = n + dlt [c] ∧ m3 = (ishift [c] o).length ∧ RowsAt encI 5 _ A3 (ord ilt ((ishift [c] o).map icl)))
            refine step_store_row rfl 30 _ _ rfl w4.heap.size #[.int .i64 nn, .slice A3 m3 c3, .int .i64 rs] rfl rfl RZ (by kernel_rfl) rfl (by simp [Value.oneCell']) ?_
            refine hK.out _ _ (by with_reducible exact MK.out _ RbS) (fun hHeld => ?_)
            clear hK K
            go_simp
            refine wpAnyH_done (by kernel_rfl) ?_ _
            refine NoPanic.normal ?_
            go_wp2_with fail
            have RN := raw_row RZ #[.int .i64 nn, .slice A3 m3 c3, .int .i64 rs]
            have HN := Lib.hid (below_setRow (g := w4.heap.size) hW hleZ #[.int .i64 nn, .slice A3 m3 c3, .int .i64 rs])
            go_meet
            exact ⟨w4.heap.size, nn, A3, m3, c3, rfl, Lib.hid RN, Lib.hid hR4, Lib.hid RbS, HN⟩
          · go_simp
            go_wp2_with (fail)
            have Rb : RawAt 64 ((w4.alloc (.cells weZ 30)).alloc (.cells (weC c) 68)).drew w.heap.size (weC c) := (RawAt.below RbB (((Below.refl w4.heap.size w4).alloc (Nat.le_refl _) (.cells weZ 30)).alloc (by simp) (.cells (weC c) 68)) RbB.lt : RawAt 64 ((w4.alloc (.cells weZ 30)).alloc (.cells (weC c) 68)) w.heap.size (weC c))
            have RZ : RawAt 30 ((w4.alloc (.cells weZ 30)).alloc (.cells (weC c) 68)).drew w4.heap.size weZ := (new2 w4 _ _ _ _).1
            have RS : RawAt 68 ((w4.alloc (.cells weZ 30)).alloc (.cells (weC c) 68)).drew (w4.heap.size + 1) (weC c) := (new2 w4 _ _ _ _).2.1
            have hW : Below w4.heap.size w4 ((w4.alloc (.cells weZ 30)).alloc (.cells (weC c) 68)).drew := (hWn.trans ((((Below.refl w4.heap.size w4).alloc (Nat.le_refl _) (.cells weZ 30)).alloc (by simp) (.cells (weC c) 68)).mono hWn.size)).drew
            have hltS : w.heap.size < (w4.heap.size + 1) := by have := hWn.size; omega
            have hleS : w4.heap.size ≤ (w4.heap.size + 1) := by have := hWn.size; omega
            refine hK.out _ _ (by with_reducible exact MK.out _ Rb) (fun hHeld => ?_)
            clear hK K
            go_simp
            refine wpAnyH_ready (rs := [2]) (by kernel_rfl) (by simp) ?_
            refine AllReadyH.cons rfl (fun K hK => ?_) ?_
            rotate_left
            · exact AllReadyH.nil
            go_simp
            go_wp2_with (first | (go_at_call 18; ((refine (CRN.out _ (HQ.out.trans (hW.mono HQ.out.size))).mono ?_); rintro e wN ⟨A2, c2, rfl, hR2, bN⟩)))
            have Rb := RawAt.below Rb bN Rb.lt
            have RS := RawAt.below RS bN RS.lt
            have RZ := RawAt.below RZ bN RZ.lt
            have hW := hW.trans (bN.mono hW.size)
            have hWn := hW
            refine hK.out _ _ (by with_reducible exact MK.out _ Rb) (fun hHeld => ?_)
            clear hK K
            go_simp
            have RbB := Rb
            have RSB := RS
            have RZB := RZ
            have hR2B := hR2
            refine wpAnyH_ready (rs := [9]) (by kernel_rfl) (by simp) ?_
            refine AllReadyH.cons rfl (fun K hK => ?_) ?_
            rotate_left
            · exact AllReadyH.nil
            go_simp
            go_wp2_with (first | (go_at_call 33; ((refine (CSR.out A2 c2 (some ⟨(w4.heap.size + 1), 0, none⟩) 1 _ hR2 (chs_one RS)).mono ?_); rintro e wH ⟨nn, A3, m3, c3, rfl, hres, bH⟩)))
            have Rb := RawAt.below Rb bH Rb.lt
            have RZ := RawAt.below RZ bH RZ.lt
            have hW := hW.trans (bH.mono hW.size)
            have hWn := hW
            have hR3 : rs = 0 → nn = n + dlt [c] ∧ m3 = (ishift [c] o).length ∧ RowsAt encI 5 wH A3 (ord ilt ((ishift [c] o).map icl)) := hres
            refine hK.out _ _ (by with_reducible exact MK.out _ Rb) (fun hHeld => ?_)
            clear hK K
            go_simp
            have RbB := Rb
            have RZB := RZ
            refine wpAnyH_ready (rs := [11]) (by kernel_rfl) (by simp) ?_
            refine AllReadyH.cons rfl (fun K hK => ?_) ?_
            rotate_left
            · exact AllReadyH.nil
            have RbS := raw_row_ne Rb RZ (Nat.ne_of_lt hltZ) #[.int .i64 nn, .slice A3 m3 c3, .int .i64 rs]
            have hR4 := fun h => (⟨(hR3 h).1, (hR3 h).2.1, rows_row3 (hR3 h).2.2 RZ rfl #[.int .i64 nn, .slice A3 m3 c3, .int .i64 rs]⟩ : nn = n + dlt [c] ∧ m3 = (ishift [c] o).length ∧ RowsAt encI 5 _ A3 (ord ilt ((ishift [c] o).map icl)))
            refine step_store_row rfl 30 _ _ rfl w4.heap.size #[.int .i64 nn, .slice A3 m3 c3, .int .i64 rs] rfl rfl RZ (by kernel_rfl) rfl (by simp [Value.oneCell']) ?_
            refine hK.out _ _ (by with_reducible exact MK.out _ RbS) (fun hHeld => ?_)
            clear hK K
            go_simp
            refine wpAnyH_done (by kernel_rfl) ?_ _
            refine NoPanic.normal ?_
            go_wp2_with fail
            have RN := raw_row RZ #[.int .i64 nn, .slice A3 m3 c3, .int .i64 rs]
            have HN := Lib.hid (below_setRow (g := w4.heap.size) hW hleZ #[.int .i64 nn, .slice A3 m3 c3, .int .i64 rs])
            go_meet
            exact ⟨w4.heap.size, nn, A3, m3, c3, rfl, Lib.hid RN, Lib.hid hR4, Lib.hid RbS, HN⟩
      case rest =>
        obtain ⟨bz, nn, A3, m3, c3, rfl, HRZ, HR3, HRb, HB⟩ := hcut
        clear CRN CSR tf0
        have HQc := Lib.hid (HQ.out.trans (HB.out.mono HQ.out.size))
        by_cases hz2 : rs = 0
        · subst hz2
          obtain ⟨⟨k1, k2⟩, k3⟩ := HFIN.out (by first | exact trivial | rfl)
          obtain ⟨hnn, hm3, hA3⟩ := HR3.out (by first | exact trivial | rfl)
          obtain ⟨sq, rfl, hI6⟩ := HQ2.out (by first | exact trivial | rfl)
          have hturn := edit_turn k1 HOS.out HSRT.out HID.out
          have hos2 : wOSet (n + dlt [c]) (ord ilt ((ishift [c] o).map icl)) := woset_new k3 (fun x hx => by
            obtain ⟨y, hy, rfl⟩ := List.mem_map.1 hx
            exact Nat.le_trans (HSZ.out y hy) (by omega))
          have hol2 : (ord ilt ((ishift [c] o).map icl)).length = m3 := by rw [(ord_perm ilt ilt_swo _).length_eq, List.length_map]; exact hm3.symm
          have hd : dlt [c] = (c.nb - c.na) - (c.ob - c.oa) := by simp [dlt]
          have hm60 : m3 ≤ 60 := by rw [← hol2]; exact hos2.len
          obtain ⟨⟨q1, q2, q3, q4, q5, q6, q7, q8, q9, q10⟩, _⟩ := k1
          have k2' : c.ob ≤ n := by omega
          obtain ⟨N, hN⟩ : ∃ N : Nat, n + dlt [c] = (N : Int) := ⟨(n + dlt [c]).toNat, by omega⟩
          rw [hN] at hos2 hnn hI6
          have hN2 : (N : Int) ≤ 1000 := by omega
          have hnb : c.nb ≤ (N : Int) := by omega
          have hdd : n - c.ob = (N : Int) - c.nb := by omega
          have HOA : Hid (c.na = c.oa) := Lib.hid (by omega)
          have hab : c.oa ≤ c.nb := by omega
          have hob : c.oa ≤ c.ob := by omega
          have ho0 : 0 ≤ c.oa := by omega
          subst hnn
          generalize ord ilt ((ishift [c] o).map icl) = o2 at *
          clear hN hd hm3 k3 q1 q2 q3 q4 q5 q6 q7 q8 q9 q10 HFIN HR3 HQ1 HQ2 HSRT HID HSZ HOL
          have HS2 := Lib.hid hos2
          have CW := Lib.hid fun (W : World) (hW : Below wc.heap.size wc W) => wvNew_set ((HI5.out.below HB.out).below hW) HOS.out
          have CU : Hid (∀ (a : Addr) (h : Nat) (W : World), WvAt W (some a) (wvP 0 o n) h → Below wc.heap.size wc W → Calls Tryz.prog 29 #[.pointer (some a), .agg #[.int .i64 c.oa, .int .i64 c.ob], .agg #[.int .i64 c.na, .int .i64 c.nb], .pointer (some ⟨sq, 0, none⟩)] W fun e w' => ∃ a h', e = .returned (.tuple #[.pointer (some a), .int .i64 0]) ∧ WvAt w' (some a) (wvP 0 o2 N) h' ∧ Below W.heap.size W w') := Lib.hid fun a h W hT hW => by
            rw [HOA.out]
            have hS := (hI6.below HB.out).below hW
            exact wvUpd_set hT HOS.out HS2.out hturn (fun W' hW' => iLen_any (hS.below hW')) (fun W' hW' => iWithin_any (hS.below hW') (Nat.le_trans HS2.out.len (by omega)) _ _) ho0 hob k2' hab hnb hdd
          have CY := Lib.hid fun (a : Addr) (h : Nat) (W : World) (hT : WvAt W (some a) (wvP 0 o2 N) h) (hW : Below wc.heap.size wc W) => is14_yes hT HS2.out.wv 0 A3 m3 c3 (hA3.below hW) hol2 (by omega) (by omega) (fun a ha => (HS2.out.each a ha).2)
          have MK : Hid (∀ W : World, Below wc.heap.size wc W → (fun V => V.cell? ⟨w.heap.size, 0, none⟩ = some (.int .i64 c.oa) ∧ V.cell? ⟨w.heap.size, 1, none⟩ = some (.int .i64 c.ob) ∧ V.cell? ⟨w.heap.size, 2, none⟩ = some (.int .i64 c.na) ∧ V.cell? ⟨w.heap.size, 3, none⟩ = some (.int .i64 c.nb)) W) := Lib.hid fun W hW => by
            have p := RawAt.below HRb.out hW HRb.out.lt
            exact ⟨RawAt.cell p 0, RawAt.cell p 1, RawAt.cell p 2, RawAt.cell p 3⟩
          clear hturn hos2 hI6 HI5 hdd hab hob hnb ho0 k2' hA3 hol2
          go_upto_region 10 with fail
          have hW2 : Below wc.heap.size wc wc.drew := (Below.refl _ _).drew
          refine wp_region_noPanic ?_
          refine wp_region_held_drew (S := (fun V => V.cell? ⟨w.heap.size, 0, none⟩ = some (.int .i64 c.oa) ∧ V.cell? ⟨w.heap.size, 1, none⟩ = some (.int .i64 c.ob) ∧ V.cell? ⟨w.heap.size, 2, none⟩ = some (.int .i64 c.na) ∧ V.cell? ⟨w.heap.size, 3, none⟩ = some (.int .i64 c.nb))) (by kernel_rfl) (MK.out _ hW2) (fun hHeld => ?_)
          refine wpAnyH_take (i := 0) (v := ?_) rfl (by kernel_rfl) (by kernel_rfl) (by kernel_rfl) (fun _ _ _ h => h) (Or.inl ⟨by rfl, ?_⟩) hHeld ?_
          rotate_left
          · intro w hSw
            (try dsimp only at hSw)
            go_simp
            try with_reducible rfl
          go_simp
          refine wpAnyH_take (i := 2) (v := ?_) rfl (by kernel_rfl) (by kernel_rfl) (by kernel_rfl) (fun _ _ _ h => h) (Or.inl ⟨by rfl, ?_⟩) hHeld ?_
          rotate_left
          · intro w hSw
            (try dsimp only at hSw)
            go_simp
            try with_reducible rfl
          go_simp
          refine wpAnyH_take (i := 3) (v := ?_) rfl (by kernel_rfl) (by kernel_rfl) (by kernel_rfl) (fun _ _ _ h => h) (Or.inl ⟨by rfl, ?_⟩) hHeld ?_
          rotate_left
          · intro w hSw
            (try dsimp only at hSw)
            go_simp
            try with_reducible rfl
          go_simp
          refine wpAnyH_take (i := 4) (v := ?_) rfl (by kernel_rfl) (by kernel_rfl) (by kernel_rfl) (fun _ _ _ h => h) (Or.inl ⟨by rfl, ?_⟩) hHeld ?_
          rotate_left
          · intro w hSw
            (try dsimp only at hSw)
            go_simp
            try with_reducible rfl
          go_simp
          refine wpAnyH_take (i := 5) (v := ?_) rfl (by kernel_rfl) (by kernel_rfl) (by kernel_rfl) (fun _ _ _ h => h) (Or.inl ⟨by rfl, ?_⟩) hHeld ?_
          rotate_left
          · intro w hSw
            (try dsimp only at hSw)
            go_simp
            try with_reducible rfl
          go_simp
          refine wpAnyH_take (i := 6) (v := ?_) rfl (by kernel_rfl) (by kernel_rfl) (by kernel_rfl) (fun _ _ _ h => h) (Or.inl ⟨by rfl, ?_⟩) hHeld ?_
          rotate_left
          · intro w hSw
            (try dsimp only at hSw)
            go_simp
            try with_reducible rfl
          go_simp
          refine wpAnyH_ready (rs := [1]) (by kernel_rfl) (by simp) ?_
          refine AllReadyH.cons rfl (fun K hK => ?_) ?_
          rotate_left
          · exact AllReadyH.nil
          go_simp
          go_wp2_with (first | (go_at_call 20; ((with_reducible refine (CW.out _ hW2).mono ?_); rintro e w6 ⟨a6, h6, rfl, hT6, b6⟩); have hW2 := hW2.trans (b6.mono hW2.size)) | (go_at_call 29; ((with_reducible refine (CU.out a6 h6 _ hT6 hW2).mono ?_); rintro e w7 ⟨a7, h7, rfl, hT7, b7⟩); have hW2 := hW2.trans (b7.mono hW2.size)))
          refine hK.out _ _ (by with_reducible exact MK.out _ hW2) (fun hHeld => ?_)
          clear hK K
          go_simp
          refine wpAnyH_ready (rs := [7]) (by kernel_rfl) (by simp) ?_
          refine AllReadyH.cons rfl (fun K hK => ?_) ?_
          rotate_left
          · exact AllReadyH.nil
          go_simp
          go_wp2_with (first | (go_at_call 20; ((with_reducible refine (CW.out _ hW2).mono ?_); rintro e w6 ⟨a6, h6, rfl, hT6, b6⟩); have hW2 := hW2.trans (b6.mono hW2.size)) | (go_at_call 29; ((with_reducible refine (CU.out a6 h6 _ hT6 hW2).mono ?_); rintro e w7 ⟨a7, h7, rfl, hT7, b7⟩); have hW2 := hW2.trans (b7.mono hW2.size)))
          refine hK.out _ _ (by with_reducible exact MK.out _ hW2) (fun hHeld => ?_)
          clear hK K
          go_simp
          refine wpAnyH_take (i := 8) (v := ?_) rfl (by kernel_rfl) (by kernel_rfl) (by kernel_rfl) (fun _ _ _ h => h) (Or.inl ⟨by rfl, ?_⟩) hHeld ?_
          rotate_left
          · intro w hSw
            (try dsimp only at hSw)
            go_simp
            try with_reducible rfl
          go_simp
          refine wpAnyH_take (i := 9) (v := ?_) rfl (by kernel_rfl) (by kernel_rfl) (by kernel_rfl) (fun _ _ _ h => h) (Or.inl ⟨by rfl, ?_⟩) hHeld ?_
          rotate_left
          · intro w hSw
            (try dsimp only at hSw)
            go_simp
            try with_reducible rfl
          go_simp
          refine wpAnyH_take (i := 10) (v := ?_) rfl (by kernel_rfl) (by kernel_rfl) (by kernel_rfl) (fun _ _ _ h => h) (Or.inl ⟨by rfl, ?_⟩) hHeld ?_
          rotate_left
          · intro w hSw
            (try dsimp only at hSw)
            go_simp
            try with_reducible rfl
          go_simp
          refine wpAnyH_take (i := 11) (v := ?_) rfl (by kernel_rfl) (by kernel_rfl) (by kernel_rfl) (fun _ _ _ h => h) (Or.inl ⟨by rfl, ?_⟩) hHeld ?_
          rotate_left
          · intro w hSw
            (try dsimp only at hSw)
            go_simp
            try with_reducible rfl
          go_simp
          refine wpAnyH_take (i := 12) (v := ?_) rfl (by kernel_rfl) (by kernel_rfl) (by kernel_rfl) (fun _ _ _ h => h) (Or.inl ⟨by rfl, ?_⟩) hHeld ?_
          rotate_left
          · intro w hSw
            (try dsimp only at hSw)
            go_simp
            try with_reducible rfl
          go_simp
          refine wpAnyH_done (by kernel_rfl) ?_ _
          refine NoPanic.normal ?_
          have p := RawAt.below HRZ.out hW2 HRZ.out.lt
          have z0 : w7.cell? ⟨bz, 0, none⟩ = some (.int .i64 N) := RawAt.cell p 0
          have z1 : w7.cell? ⟨bz, 1, none⟩ = some (.slice A3 m3 c3) := RawAt.cell p 1
          have z2 : w7.cell? ⟨bz, 2, none⟩ = some (.int .i64 0) := RawAt.cell p 2
          have HT7 := Lib.hid hT7
          have HW7 := Lib.hid hW2
          clear p hT7 hT6 b6 b7 hW2 CW CU MK
          go_wp2_with fail
          with_reducible refine (CY.out a7 h7 _ HT7.out HW7.out).mono ?_
          rintro e w8 ⟨rfl, b8⟩
          have HW8 := Lib.hid (HW7.out.trans (b8.mono HW7.out.size))
          clear b8 z0 z1 z2 CY
          go_wp2_with fail
          with_reducible refine (C4.out _).mono ?_
          rintro e w9 ⟨rfl, b9⟩
          have HW9 := Lib.hid (HW8.out.trans (b9.mono HW8.out.size))
          clear b9
          go_wp2
          go_ret
          exact ⟨rfl, HQc.out.trans (HW9.out.mono HQc.out.size)⟩
        · obtain rfl := HQ1.out hz2
          have k1 : (rs == 0) = false := by simpa using hz2
          have k2 : (rs != 0) = true := by simpa using hz2
          have z2 : wc.cell? ⟨bz, 2, none⟩ = some (.int .i64 rs) := RawAt.cell HRZ.out 2
          clear HFIN HR3 HQ1 HQ2 HSRT HID HSZ HOL HI5
          go_wp2_with fail
          with_reducible refine (C4.out _).mono ?_
          rintro e w9 ⟨rfl, b9⟩
          have HW9 := Lib.hid (HQc.out.trans (b9.mono HQc.out.size))
          clear b9
          go_wp2
          go_ret
          exact ⟨rfl, HW9.out⟩
    · have k1 : (r == 0) = false := by simpa using hz
      have k2 : (r != 0) = true := by simpa using hz
      clear hr CLO hI hl ht hO hc g3 g2 hwl
      go_enter Tryz.func7, Tryz.ntmps7
      go_wp2_with fail
      rw [← HW1.out]
      with_reducible refine (CLF.out).mono ?_
      rintro e w2 ⟨rfl, b2⟩
      have HQ2 := Lib.hid (X1.out.trans (b2.mono X1.out.size))
      have p3 : w2.cell? ⟨w.heap.size, 3, none⟩ = some (.int .i64 c.nb) := RawAt.cell (RawAt.below Hb.out b2 Hb.out.lt) 3
      clear b2
      go_wp2_with fail
      with_reducible refine (CN.out _ HQ2.out).mono ?_
      rintro e w3 ⟨p, rfl, hp1, hp2, b3⟩
      obtain rfl := hp1 hz
      have HQ3 := Lib.hid (HQ2.out.trans (b3.mono HQ2.out.size))
      clear b3 hp1 hp2 p3
      go_wp2_with fail
      with_reducible refine (CR.out _ HQ3.out).mono ?_
      rintro e w4 ⟨nn, A2, m2, c2, rfl, hres, b4⟩
      have HQ4 := Lib.hid (HQ3.out.trans (b4.mono HQ3.out.size))
      clear b4 hres hz
      go_wp2_with fail
      with_reducible refine (C4.out _).mono ?_
      rintro e w6 ⟨rfl, b6⟩
      have HQ6 := Lib.hid (HQ4.out.trans (b6.mono HQ4.out.size))
      clear b6
      go_wp2
      go_ret
      exact ⟨rfl, HQ6.out⟩
  · have CLT := Lib.hid (CLO.out true ⟨fun _ => g, fun _ => rfl⟩)
    clear CLO hI hO hc g
    go_enter Tryz.func7, Tryz.ntmps7
    go_wp2_with fail
    rw [← HW1.out]
    with_reducible refine (CLT.out).mono ?_
    rintro e w2 ⟨rfl, b2⟩
    have HQ2 := Lib.hid (X1.out.trans (b2.mono X1.out.size))
    clear b2
    go_wp2_with fail
    with_reducible refine (C4.out _).mono ?_
    rintro e w3 ⟨rfl, b3⟩
    have HQ3 := Lib.hid (HQ2.out.trans (b3.mono HQ2.out.size))
    clear b3
    go_wp2
    go_ret
    exact ⟨rfl, HQ3.out⟩
end Go.Proofs.YtjkkngldiimkjaaGreat
