/- Inlays: the law InlaysSteps, walked. -/
import Derived.Test.YtmijlijgcaaiiaaInQ
import Derived.Test.YtmijlijgcaaiiaaInE
import Derived.Test.YtmijlijgcaaiiaaInZ
import Derived.Test.YtmijlijgcaaiiaaIopO
namespace Go.Proofs.Ytmijlijgcaaiiaa
open Go.RowKit Go.Sort
set_option linter.unusedVariables false
theorem ish_ex (n : Int) (p : List Ch) (o : List In) : ∃ r, IShIs n p o r := by
  by_cases h : nrm M40 0 0 true p
  · by_cases g : n < iolast p
    · exact ⟨1, fun k => absurd h k, fun _ _ => rfl, fun _ k => absurd g k⟩
    · exact ⟨_, fun k => absurd h k, fun _ k => absurd k g, fun _ _ => rfl⟩
  · exact ⟨4, fun _ => rfl, fun k => absurd k h, fun k => absurd k h⟩
theorem isSplice_pl {n : Int} {a : In} (h : iwr n a = 0) : 0 ≤ a.pl ∧ a.pl ≤ n ∧ (a.bi = 0 ∨ a.bi = 1) := by
  unfold iwr at h
  by_cases g : a.id < 1 ∨ a.pl < 0 ∨ n < a.pl ∨ (a.bi ≠ 0 ∧ a.bi ≠ 1)
  · rw [if_pos g] at h; cases h
  · omega
/-- A set that was made. -/
structure StI (n : Int) (o : List In) : Prop where
  n0 : 0 ≤ n
  n40 : n ≤ 1099511627776
  len : o.length ≤ 60
  ap : IApart o
  ok : ∀ a ∈ o, iwr n a = 0
  sz : ∀ a ∈ o, a.tx.size ≤ 160
  wf : ∀ a ∈ o, (Lit.int .i64 a.id).wf = true
theorem StI.of {n : Int} {L : List In} (h : iwrong n L = 0) (hw : ∀ a ∈ L, (Lit.int .i64 a.id).wf = true) : StI n (ord ilt (L.map icl)) := by
  obtain ⟨a0, a1, a2⟩ := ord_icl h
  obtain ⟨z0, z1, z2, _, _⟩ := iwrong_is h
  refine ⟨z0, z1, by rw [a1]; exact z2, a0, fun a ha => (a2 a ha).1, fun a ha => (ord_size h a ha).1, fun a ha => ?_⟩
  obtain ⟨y, hy, rfl⟩ := List.mem_map.1 ((ord_perm ilt ilt_swo _).mem_iff.1 ha)
  exact hw y hy
theorem ishis_zero {n : Int} {p : List Ch} {o : List In} (h : IShIs n p o 0) : iwrong (n + dlt p) (ishift p o) = 0 := by
  by_cases hn : nrm M40 0 0 true p
  · by_cases g : n < iolast p
    · exact absurd (h.2.1 hn g) (by decide)
    · exact (h.2.2 hn g).symm
  · exact absurd (h.1 hn) (by decide)
theorem raw_far {t : TypeId} {w : World} {b : Nat} {cs : Array Value} (h : RawAt t w b cs) {b' : Nat} (hne : b' ≠ b) (k : Nat) (u : Value) : RawAt t (w.setCell ⟨b', k, none⟩ u) b cs :=
  (Below.heap_setCell w ⟨b', k, none⟩ u b (by simpa using (Ne.symm hne))).trans h
theorem raw_ne {t t' : TypeId} {w : World} {b b' : Nat} {cs cs' : Array Value} (h : RawAt t w b cs) (h' : RawAt t' w b' cs') (hne : t ≠ t') : b' ≠ b := fun e => by
  subst e
  unfold RawAt at h h'
  rw [h] at h'
  injection h' with h'
  injection h' with _ h'
  exact hne h'
theorem ISet.setN {w : World} {sb : Nat} {n : Int} {o : List In} (h : ISet w sb n o) {b : Nat} {cs : Array Value} (r : RawAt 31 w b cs) (k : Nat) (u : Value) : ISet (w.setCell ⟨b, k, none⟩ u) sb n o := by
  obtain ⟨v, h1, h2⟩ := h
  refine ⟨v, raw_far h1 (raw_ne h1 r (by decide)) k u, own_set_ne h2 (fun g hg => ?_) k u⟩
  rcases h2.2 with ⟨e, _⟩ | ⟨g', cap, cur, e, _, c, _⟩
  · rw [e] at hg; cases hg
  · rw [e] at hg
    injection hg with hg
    subst hg
    exact (raw_ne c r (by decide)).symm
theorem raw3 {w : World} {b : Nat} {a0 a1 a2 : Value} (h : RawAt 31 w b #[a0, a1, a2]) (x y z : Value) : RawAt 31 (((w.setCell ⟨b, 0, none⟩ x).setCell ⟨b, 1, none⟩ y).setCell ⟨b, 2, none⟩ z) b #[x, y, z] := RawAt.of_eq (((h.set_ 0 x).set_ 1 y).set_ 2 z) rfl
theorem ISet.set3 {w : World} {sb : Nat} {n : Int} {o : List In} (h : ISet w sb n o) {b : Nat} {a0 a1 a2 : Value} (r : RawAt 31 w b #[a0, a1, a2]) (x y z : Value) : ISet (((w.setCell ⟨b, 0, none⟩ x).setCell ⟨b, 1, none⟩ y).setCell ⟨b, 2, none⟩ z) sb n o :=
  ((h.setN r 0 x).setN (r.set_ 0 x) 1 y).setN ((r.set_ 0 x).set_ 1 y) 2 z
theorem rows_set3 {w : World} {A : Option Addr} {l : List In} (h : RowsAt encI 5 w A l) {b : Nat} {a0 a1 a2 : Value} (r : RawAt 31 w b #[a0, a1, a2]) (x y z : Value) : RowsAt encI 5 (((w.setCell ⟨b, 0, none⟩ x).setCell ⟨b, 1, none⟩ y).setCell ⟨b, 2, none⟩ z) A l :=
  rows_apart3 (rows_apart3 (rows_apart3 h r 0 x) (RawAt.of_eq (r.set_ 0 x) rfl) 1 y) (RawAt.of_eq ((r.set_ 0 x).set_ 1 y) rfl) 2 z
theorem raw_far3 {t : TypeId} {w : World} {b : Nat} {cs : Array Value} (h : RawAt t w b cs) {b' : Nat} (hne : b' ≠ b) (x y z : Value) : RawAt t (((w.setCell ⟨b', 0, none⟩ x).setCell ⟨b', 1, none⟩ y).setCell ⟨b', 2, none⟩ z) b cs := raw_far (raw_far (raw_far h hne 0 x) hne 1 y) hne 2 z
theorem below_set3 {w0 w : World} (h : Below w0.heap.size w0 w) {b : Nat} (hb : w0.heap.size ≤ b) (x y z : Value) : Below w0.heap.size w0 (((w.setCell ⟨b, 0, none⟩ x).setCell ⟨b, 1, none⟩ y).setCell ⟨b, 2, none⟩ z) :=
  ((h.setCell (p := ⟨b, 0, none⟩) hb x).setCell (p := ⟨b, 1, none⟩) hb y).setCell (p := ⟨b, 2, none⟩) hb z
set_option maxHeartbeats 64000000 in
set_option maxRecDepth 100000 in
theorem inlaysSteps_walk (n : Int) (A : Option Addr) (m c : Nat) (l : List In) (OA : Option Addr) (om oc : Nat) (ops : List IOp) (w : World) (_wf : (Lit.int .i64 n).wf = true) (hI : RowsAt encI 5 w A l) (hl : l.length = m) (hn : m ≤ maxLen) (hc : Caps A m c) (hO : ∀ s ∈ l, InOk s) (hP : RowsAt iocs 4 w OA ops) (hp : ops.length = om) (hpn : om ≤ maxLen) (hpc : Caps OA om oc) (hPO : ∀ s ∈ ops, IOk w s) :
    Calls Try.prog 3 #[.int .i64 n, .slice A m c, .slice OA om oc] w fun e w' => e = .returned (.bool true) ∧ Below w.heap.size w w' := by
  have C3 := Lib.hid fun W => iThree_any W
  have CL1 := Lib.hid fun (b : Bool) (hb : b = true ↔ ¬ ShortI l) => long13_any A m c l b w hI hl hn (fun x hx => (hO x hx).2.2.2.2) hb
  by_cases g1 : ShortI l
  · have CLF := Lib.hid (CL1.out false ⟨fun h => absurd h (by simp), fun h => absurd g1 h⟩)
    by_cases g2 : 20 < om
    · have k1' : decide (20 < om) = true := decide_eq_true g2
      have k2' : decide ((20 : Int) < (om : Int)) = true := decide_eq_true (by omega)
      go_enter Try.func3, Try.ntmps3
      go_wp2_with fail
      with_reducible refine (CLF.out).mono ?_
      rintro e w2 ⟨rfl, bb⟩
      have Q2 := Lib.hid bb
      clear bb
      go_wp2_with fail
      with_reducible refine (C3.out _).mono ?_
      rintro e w8 ⟨rfl, bb⟩
      have Q8 := Lib.hid (Q2.out.trans (bb.mono Q2.out.size))
      clear bb
      go_wp2
      go_ret
      exact ⟨rfl, Q8.out⟩
    · have k1' : decide (20 < om) = false := decide_eq_false g2
      have k2' : decide ((20 : Int) < (om : Int)) = false := decide_eq_false (by omega)
      have hom : om ≤ 20 := by omega
      clear CL1
      have hm : m ≤ 100 := by rw [← hl]; exact g1.1
      have ht : ∀ x ∈ l, x.tx.size ≤ 100000000 := fun x hx => Nat.le_trans (g1.2 x hx) (by omega)
      have hw1 : ∀ a ∈ l, (Lit.int .i64 a.id).wf = true := fun a ha => (hO a ha).1
      obtain ⟨r, hr⟩ : ∃ r, r = iwrong n l := ⟨_, rfl⟩
      have CN := Lib.hid fun (W : World) (hW : Below w.heap.size w W) => iNew_any n A m c l W (hI.below hW) hc hl hw1 ht r hr.symm
      have CR := Lib.hid fun (W : World) (hW : Below w.heap.size w W) => rNew13_any n A m c l W (hI.below hW) hc hl ht r hr.symm
      have hol : (ord ilt (l.map icl)).length = m := by rw [(ord_perm ilt ilt_swo _).length_eq, List.length_map]; exact hl
      by_cases hz : r = 0
      · have hr0 : iwrong n l = 0 := hr.symm.trans hz
        have HST := Lib.hid (StI.of hr0 hw1)
        have HLL := Lib.hid hl
        have HOL := Lib.hid hol
        have HOPS := Lib.hid hP
        have HOPL := Lib.hid hp
        have HPO := Lib.hid hPO
        subst hz
        obtain ⟨o0, ho0⟩ : ∃ o0, o0 = ord ilt (l.map icl) := ⟨_, rfl⟩
        rw [← ho0] at HST HOL CN
        have HO0 := Lib.hid ho0
        clear hol hr hr0 hw1 ht hI hl hn hc hO hP hp hpn hpc hPO g1 g2 ho0
        go_enter Try.func3, Try.ntmps3
        go_wp2_with fail
        with_reducible refine (CLF.out).mono ?_
        rintro e w2 ⟨rfl, bb⟩
        have Q2 := Lib.hid bb
        clear bb
        go_wp2_with fail
        with_reducible refine (CN.out _ Q2.out).mono ?_
        rintro e w4 ⟨p4, rfl, _, hp4, bb⟩
        have Q4 := Lib.hid (Q2.out.trans (bb.mono Q2.out.size))
        obtain ⟨s4, rfl, h4⟩ := hp4 (by first | exact trivial | rfl)
        have H4 := Lib.hid h4
        clear hp4 h4
        clear bb
        go_wp2_with fail
        with_reducible refine (CR.out _ Q4.out).mono ?_
        rintro e w5 ⟨nn, A6, m6, c6, rfl, hres, bb⟩
        have Q5 := Lib.hid (Q4.out.trans (bb.mono Q4.out.size))
        obtain ⟨y1, y2, hR6⟩ := hres (by first | exact trivial | rfl)
        rw [HLL.out] at y2
        rw [← HO0.out] at hR6
        have y1 := y1.symm
        subst y1
        have y2 := y2.symm
        subst y2
        have HR6 := Lib.hid hR6
        have H45 := Lib.hid (H4.out.below bb)
        clear hres hR6 H4
        clear bb
        have x6 : Below w5.heap.size w5 (w5.alloc (.cells #[.int .i64 n, .slice A6 m c6, .int .i64 0] 31)) := (Below.refl _ _).alloc (Nat.le_refl _) _
        have r6 : RawAt 31 (w5.alloc (.cells #[.int .i64 n, .slice A6 m c6, .int .i64 0] 31)) w5.heap.size #[.int .i64 n, .slice A6 m c6, .int .i64 0] := heap_alloc_new w5 _
        have Q6 := Lib.hid (Q5.out.trans (x6.mono Q5.out.size))
        have H46 := Lib.hid (H45.out.below x6)
        have HR66 := Lib.hid (HR6.out.below x6)
        have HB9 : Hid (w.heap.size ≤ w5.heap.size) := Lib.hid Q5.out.size
        obtain ⟨w6, hw6⟩ : ∃ w6, w6 = (w5.alloc (.cells #[.int .i64 n, .slice A6 m c6, .int .i64 0] 31)) := ⟨_, rfl⟩
        rw [← hw6] at r6 Q6 H46 HR66
        have HW6 := Lib.hid hw6
        have HR9 := Lib.hid r6
        have CIS := Lib.hid (is13_set H46.out (by have := HST.out.len; omega) A6 m c6 HR66.out HOL.out)
        clear x6 r6 hw6 H45 HR6
        go_wp2_with fail
        rw [← HW6.out]
        with_reducible refine (CIS.out).mono ?_
        rintro e w7 ⟨rfl, bb⟩
        have Q7 := Lib.hid (Q6.out.trans (bb.mono Q6.out.size))
        have H47 := Lib.hid (H46.out.below bb)
        have HR67 := Lib.hid (HR66.out.below bb)
        have HR97 : Hid (RawAt 31 w7 w5.heap.size #[.int .i64 n, .slice A6 o0.length c6, .int .i64 0]) := Lib.hid (by rw [HOL.out]; exact RawAt.below HR9.out bb HR9.out.lt)
        clear bb HR9 HR66 H46 HW6 CIS CR CN CLF
        generalize w5.heap.size = b9 at *
        go_wp2_with fail
        go_loopg [7, 42] om (fun g sv i wr => ∃ (k sb : Nat) (z : Int) (o : List In) (A2 : Option Addr) (c2 : Nat), i = .int .i64 k ∧ sv = .pointer (some ⟨sb, 0, none⟩) ∧ k ≤ om ∧ om - k ≤ g ∧ Hid (Below w.heap.size w wr) ∧ Hid (ISet wr sb z o) ∧ Hid (StI z o) ∧ Hid (RawAt 31 wr b9 #[.int .i64 z, .slice A2 o.length c2, .int .i64 0]) ∧ Hid (RowsAt encI 5 wr A2 o))
        case atStart => exact ⟨0, s4, n, o0, A6, c6, rfl, rfl, by omega, by omega, Q7, H47, HST, HR97, HR67⟩
        case round =>
          clear HR97 HR67 H47 Q7 HST HOL HO0
          obtain ⟨k, sb, z, o, A2, c2, rfl, rfl, h1, h2, hb, hS, hT, hR9, hR2⟩ := hrel
          by_cases hlt : k < om
          · have hkl : k < ops.length := by rw [HOPL.out]; exact hlt
            obtain ⟨bO, offO, rfl, hbO, hce⟩ := (HOPS.out.below hb.out).at1 hkl
            have f0 := hce 0 (by omega)
            have f1 := hce 1 (by omega)
            have f2 := hce 2 (by omega)
            have f3 := hce 3 (by omega)
            rw [Nat.add_zero] at f0
            have HK := Lib.hid (HPO.out _ (List.getElem_mem hkl))
            clear hce
            generalize ops[k] = s at *
            simp [iocs] at f0 f1 f2 f3
            have i1 : (0 : Int) ≤ k := by omega
            have i2 : (k : Int) < om := by omega
            obtain ⟨b11, hb11⟩ : ∃ b, b = wr.heap.size := ⟨_, rfl⟩
            have x3 : Below wr.heap.size wr (wr.alloc (.cells #[.bool s.sh, .slice s.A s.n s.c, .slice s.A' s.n' s.c', .slice s.B s.k s.d] 37)) := (Below.refl _ _).alloc (Nat.le_refl _) _
            have R3 : RawAt 37 (wr.alloc (.cells #[.bool s.sh, .slice s.A s.n s.c, .slice s.A' s.n' s.c', .slice s.B s.k s.d] 37)) wr.heap.size #[.bool s.sh, .slice s.A s.n s.c, .slice s.A' s.n' s.c', .slice s.B s.k s.d] := heap_alloc_new wr _
            have HQ3 := Lib.hid (hb.out.trans (x3.mono hb.out.size))
            have HS3 := Lib.hid (hS.out.below x3)
            have HR23 := Lib.hid (hR2.out.below x3)
            have HR93 := Lib.hid (RawAt.below hR9.out x3 hR9.out.lt)
            have c0 := RawAt.cell R3 0
            have c1 := RawAt.cell R3 1
            have c2' := RawAt.cell R3 2
            have c3 := RawAt.cell R3 3
            simp at c0 c1 c2' c3
            rw [← hb11] at R3
            have HR3 := Lib.hid R3
            have CLO := Lib.hid fun (b : Bool) (hb : b = true ↔ ¬ ShortI s.o) => long13_any s.B s.k s.d s.o b _ (HK.out.below HQ3.out).rows HK.out.la HK.out.max (fun x hx => (HK.out.ok x hx).2.2.2.2) hb
            have HB11 := Lib.hid hb11
            clear x3 R3 hb hS hR2 hR9 hb11
            by_cases sS : ShortI s.o
            · have CLO := Lib.hid (CLO.out false ⟨fun h => absurd h (by simp), fun h => absurd sS h⟩)
              go_wp2_with fail
              with_reducible refine (CLO.out).mono ?_
              rintro e w8 ⟨rfl, bb⟩
              rw [← HB11.out]
              have HQ8 := Lib.hid (HQ3.out.trans (bb.mono HQ3.out.size))
              have HS8 := Lib.hid (HS3.out.below bb)
              have HR28 := Lib.hid (HR23.out.below bb)
              have HR98 := Lib.hid (RawAt.below HR93.out bb HR93.out.lt)
              have u3 := RawAt.below HR3.out bb HR3.out.lt
              have c0 := RawAt.cell u3 0
              have c1 := RawAt.cell u3 1
              have c2' := RawAt.cell u3 2
              have c3 := RawAt.cell u3 3
              simp at c0 c1 c2' c3
              have HU3 := Lib.hid u3
              clear u3 bb CLO HS3 HR23 HR93 HR3 f0 f1 f2 f3
              by_cases s2 : 100 < s.n'
              · have k3 : decide (100 < s.n') = true := decide_eq_true s2
                have k4 : decide ((100 : Int) < (s.n' : Int)) = true := decide_eq_true (by omega)
                clear s2
                go_wp2_with fail
                with_reducible refine (C3.out _).mono ?_
                rintro e w9 ⟨rfl, bb⟩
                have HQ9 := Lib.hid (HQ8.out.trans (bb.mono HQ8.out.size))
                clear bb
                go_wp2
                go_ret
                exact ⟨rfl, HQ9.out⟩
              · have k3 : decide (100 < s.n') = false := decide_eq_false s2
                have k4 : decide ((100 : Int) < (s.n' : Int)) = false := decide_eq_false (by omega)
                by_cases s3 : 100 < s.n
                · have k5 : decide (100 < s.n) = true := decide_eq_true s3
                  have k6 : decide ((100 : Int) < (s.n : Int)) = true := decide_eq_true (by omega)
                  clear s2 s3
                  go_wp2_with fail
                  with_reducible refine (C3.out _).mono ?_
                  rintro e w9 ⟨rfl, bb⟩
                  have HQ9 := Lib.hid (HQ8.out.trans (bb.mono HQ8.out.size))
                  clear bb
                  go_wp2
                  go_ret
                  exact ⟨rfl, HQ9.out⟩
                · have k5 : decide (100 < s.n) = false := decide_eq_false s3
                  have k6 : decide ((100 : Int) < (s.n : Int)) = false := decide_eq_false (by omega)
                  have hsk : s.k ≤ 100 := by rw [← HK.out.la]; exact sS.1
                  have hto : ∀ x ∈ s.o, x.tx.size ≤ 100000000 := fun x hx => Nat.le_trans (sS.2 x hx) (by omega)
                  have hol : o.length ≤ 60 := hT.out.len
                  have htx : ∀ x ∈ o, x.tx.size ≤ 100000000 := fun x hx => Nat.le_trans (hT.out.sz x hx) (by omega)
                  have x9 : Below w8.heap.size w8 (w8.alloc (.cells #[.int .i64 0, .slice none 0 0, .int .i64 0] 31)) := (Below.refl _ _).alloc (Nat.le_refl _) _
                  have r9 : RawAt 31 (w8.alloc (.cells #[.int .i64 0, .slice none 0 0, .int .i64 0] 31)) w8.heap.size #[.int .i64 0, .slice none 0 0, .int .i64 0] := heap_alloc_new w8 _
                  have HQ9 := Lib.hid (HQ8.out.trans (x9.mono HQ8.out.size))
                  have HS9 := Lib.hid (HS8.out.below x9)
                  have HR29 := Lib.hid (HR28.out.below x9)
                  have HR99 := Lib.hid (RawAt.below HR98.out x9 HR98.out.lt)
                  have HU9 := Lib.hid (RawAt.below HU3.out x9 HU3.out.lt)
                  have c0 := RawAt.cell HU9.out 0
                  have c1 := RawAt.cell HU9.out 1
                  have c2' := RawAt.cell HU9.out 2
                  have c3 := RawAt.cell HU9.out 3
                  simp at c0 c1 c2' c3
                  have HLT9 : Hid (b9 < w8.heap.size) := Lib.hid HR98.out.lt
                  have HLTB : Hid (w.heap.size ≤ w8.heap.size) := Lib.hid HQ8.out.size
                  obtain ⟨b14, hb14⟩ : ∃ b, b = w8.heap.size := ⟨_, rfl⟩
                  rw [← hb14] at r9 HLT9 HLTB
                  have HV9 := Lib.hid r9
                  have HB14 := Lib.hid hb14
                  obtain ⟨w9, hw9⟩ : ∃ w9, w9 = (w8.alloc (.cells #[.int .i64 0, .slice none 0 0, .int .i64 0] 31)) := ⟨_, rfl⟩
                  rw [← hw9] at HQ9 HS9 HR29 HR99 HU9 HV9
                  have HW9 := Lib.hid hw9
                  clear x9 r9 hb14 hw9 HS8 HR28 HR98 HU3 sS
                  obtain ⟨rs, hrs⟩ := ish_ex z s.l o
                  obtain ⟨rp, hrp⟩ : ∃ rp, rp = if remOk o s.l' then iwrong z (left o s.l' ++ s.o) else 6 := ⟨_, rfl⟩
                  have CSH := Lib.hid (iShift_rows (o := o) (.pointer (some ⟨sb, 0, none⟩)) z s.A s.n s.c s.l (HK.out.below HQ9.out).at_ HK.out.lp (by omega) hT.out.n0 hT.out.n40 (fun a ha => isSplice_pl (hT.out.ok a ha)) hT.out.wf htx (by omega) (fun W' hW' => iLen_any (HS9.out.below hW')) (fun W' hW' => iAll_any (HS9.out.below hW') (by omega)) rs hrs _ rfl)
                  have CSP := Lib.hid (iSplice_any HS9.out (by omega) hT.out.wf htx s.A' s.n' s.c' s.l' (HK.out.below HQ9.out).ints HK.out.lr (by omega) HK.out.wf s.B s.k s.d s.o (HK.out.below HQ9.out).rows HK.out.la HK.out.caps (by omega) (fun a ha => (HK.out.ok a ha).1) hto rp hrp)
                  have CG := Lib.hid fun (W : World) (hW : Below w.heap.size w W) => ichg_any s.A s.n s.c s.l W (HK.out.below hW).at_ HK.out.lp (by omega)
                  have CPH := Lib.hid fun (PB : Option Addr) (pbc : Nat) (W : World) (hQ : RowsAt encI 5 W A2 o) (hB : ChsAt W PB s.l) => rShift13_any z 0 A2 o.length c2 o PB s.n pbc s.l W hQ rfl (by omega) hT.out.n0 hT.out.n40 (fun a ha => ⟨(isSplice_pl (hT.out.ok a ha)).1, (isSplice_pl (hT.out.ok a ha)).2.1⟩) hB HK.out.lp (by omega) htx rs hrs
                  have CPP := Lib.hid fun (W : World) (hW : Below w.heap.size w W) (hQ : RowsAt encI 5 W A2 o) => rSplice13_any z 0 A2 o.length c2 o s.A' s.n' s.c' s.l' s.B s.k s.d s.o W hQ rfl (by omega) hT.out.ap (HK.out.below hW).ints HK.out.lr (by omega) (HK.out.below hW).rows HK.out.la HK.out.caps (by omega) htx hto rp hrp
                  have HSH : Hid (rs = 0 → StI (z + dlt s.l) (ord ilt ((ishift s.l o).map icl))) := Lib.hid fun h => by
                    subst h
                    exact StI.of (ishis_zero hrs) (fun a ha => by obtain ⟨y, hy, rfl⟩ := List.mem_map.1 ha; exact hT.out.wf y hy)
                  have HSP : Hid (rp = 0 → StI z (ord ilt ((left o s.l' ++ s.o).map icl))) := Lib.hid fun h => by
                    by_cases g : remOk o s.l'
                    · rw [if_pos g] at hrp
                      refine StI.of (hrp.symm.trans h) (fun a ha => ?_)
                      rcases List.mem_append.1 ha with q | q
                      · exact hT.out.wf a (List.mem_filter.1 q).1
                      · exact (HK.out.ok a q).1
                    · rw [if_neg g] at hrp
                      rw [h] at hrp
                      cases hrp
                  clear hrs hrp hto htx
                  cases hsh : s.sh
                  · rw [hsh] at c0
                    go_wp2_with fail
                    rw [← HW9.out, ← HB14.out]
                    with_reducible refine (CSP.out).mono ?_
                    rintro e w10 ⟨p10, rfl, hn10, hs10, bb⟩
                    have HQ10 := Lib.hid (HQ9.out.trans (bb.mono HQ9.out.size))
                    have HS10 := Lib.hid (HS9.out.below bb)
                    have HR210 := Lib.hid (HR29.out.below bb)
                    have HR910 := Lib.hid (RawAt.below HR99.out bb HR99.out.lt)
                    have HU10 := Lib.hid (RawAt.below HU9.out bb HU9.out.lt)
                    have HV10 := Lib.hid (RawAt.below HV9.out bb HV9.out.lt)
                    have HN10 := Lib.hid hn10
                    have HS10' := Lib.hid hs10
                    have c0 := RawAt.cell HU10.out 0
                    have c1 := RawAt.cell HU10.out 1
                    have c2' := RawAt.cell HU10.out 2
                    have c3 := RawAt.cell HU10.out 3
                    have v0 := RawAt.cell HR910.out 0
                    have v1 := RawAt.cell HR910.out 1
                    have v2 := RawAt.cell HR910.out 2
                    simp at c0 c1 c2' c3 v0 v1 v2
                    have CPP10 := Lib.hid (CPP.out _ HQ10.out HR210.out)
                    clear bb hn10 hs10 CPP CPH CSH CSP CG HSH HS9 HR29 HR99 HU9 HV9
                    go_wp2_with fail
                    with_reducible refine (CPP10.out).mono ?_
                    rintro e w11 ⟨nn, A11, m11, c11, rfl, hres, bb⟩
                    have HQ11 := Lib.hid (HQ10.out.trans (bb.mono HQ10.out.size))
                    have HS11 := Lib.hid (HS10.out.below bb)
                    have HR211 := Lib.hid (HR210.out.below bb)
                    have HR911 := Lib.hid (RawAt.below HR910.out bb HR910.out.lt)
                    have HV11 := Lib.hid (RawAt.below HV10.out bb HV10.out.lt)
                    have HSN := Lib.hid fun (h : rp = 0) => (show ∃ sb', p10 = .pointer (some ⟨sb', 0, none⟩) ∧ ISet w11 sb' z (ord ilt ((left o s.l' ++ s.o).map icl)) from by obtain ⟨sb', e1, e2⟩ := HS10'.out h; exact ⟨sb', e1, e2.below bb⟩)
                    have HRES := Lib.hid hres
                    have hne9 : b14 ≠ b9 := Nat.ne_of_gt HLT9.out
                    have q0 := RawAt.cell HV11.out 0
                    have q1 := RawAt.cell HV11.out 1
                    have q2 := RawAt.cell HV11.out 2
                    have f0 := RawAt.free HV11.out 0
                    have f1 := RawAt.free HV11.out 1
                    have f2 := RawAt.free HV11.out 2
                    simp at q0 q1 q2
                    clear bb hres
                    have HQ12 := Lib.hid (below_set3 HQ11.out HLTB.out (.int .i64 nn) (.slice A11 m11 c11) (.int .i64 rp))
                    have HS12 := Lib.hid (HS11.out.set3 HV11.out (.int .i64 nn) (.slice A11 m11 c11) (.int .i64 rp))
                    have HR212 := Lib.hid (rows_set3 HR211.out HV11.out (.int .i64 nn) (.slice A11 m11 c11) (.int .i64 rp))
                    have HR912 := Lib.hid (raw_far3 HR911.out hne9 (.int .i64 nn) (.slice A11 m11 c11) (.int .i64 rp))
                    have HV12 := Lib.hid (raw3 HV11.out (.int .i64 nn) (.slice A11 m11 c11) (.int .i64 rp))
                    have HSN12 := Lib.hid fun (h : rp = 0) => (show ∃ sb', p10 = .pointer (some ⟨sb', 0, none⟩) ∧ ISet (((w11.setCell ⟨b14, 0, none⟩ (.int .i64 nn)).setCell ⟨b14, 1, none⟩ (.slice A11 m11 c11)).setCell ⟨b14, 2, none⟩ (.int .i64 rp)) sb' z (ord ilt ((left o s.l' ++ s.o).map icl)) from by obtain ⟨sb', e1, e2⟩ := HSN.out h; exact ⟨sb', e1, e2.set3 HV11.out _ _ _⟩)
                    have HRS12 := Lib.hid fun (h : rp = 0) => (show nn = z ∧ m11 = (left o s.l' ++ s.o).length ∧ RowsAt encI 5 (((w11.setCell ⟨b14, 0, none⟩ (.int .i64 nn)).setCell ⟨b14, 1, none⟩ (.slice A11 m11 c11)).setCell ⟨b14, 2, none⟩ (.int .i64 rp)) A11 (ord ilt ((left o s.l' ++ s.o).map icl)) from by obtain ⟨y1, y2, y3⟩ := HRES.out h; exact ⟨y1, y2, rows_set3 y3 HV11.out _ _ _⟩)
                    go_wp2_with fail
                    obtain ⟨w12, hw12⟩ : ∃ w12, w12 = (((w11.setCell ⟨b14, 0, none⟩ (.int .i64 nn)).setCell ⟨b14, 1, none⟩ (.slice A11 m11 c11)).setCell ⟨b14, 2, none⟩ (.int .i64 rp)) := ⟨_, rfl⟩
                    rw [← hw12] at HQ12 HS12 HR212 HR912 HV12 HSN12 HRS12 ⊢
                    clear hw12 HQ11 HS11 HR211 HR911 HV11 HSN HRES q0 q1 q2 f0 f1 f2
                    have q0 := RawAt.cell HV12.out 0
                    have q1 := RawAt.cell HV12.out 1
                    have q2 := RawAt.cell HV12.out 2
                    simp at q0 q1 q2
                    by_cases hz : rp = 0
                    · obtain ⟨sb', e1, hs12⟩ := HSN12.out hz
                      obtain ⟨y1, y2, hr12⟩ := HRS12.out hz
                      have hst := HSP.out hz
                      obtain ⟨o1, ho1⟩ : ∃ o1, o1 = ord ilt ((left o s.l' ++ s.o).map icl) := ⟨_, rfl⟩
                      have hol1 : o1.length = m11 := by rw [ho1, (ord_perm ilt ilt_swo _).length_eq, List.length_map, y2]
                      rw [← ho1] at hs12 hr12 hst
                      subst e1
                      rw [← y1] at hs12 hst
                      clear y1 y2 ho1 HSN12 HRS12 HSP
                      have HS' := Lib.hid hs12
                      have HR' := Lib.hid hr12
                      have HT' := Lib.hid hst
                      have HOL1 := Lib.hid hol1
                      rw [hz] at HV12 q2 ⊢
                      clear hs12 hr12 hst hol1 hz
                      have CI1 := Lib.hid (is13_set HS'.out (by have := HT'.out.len; omega) A11 m11 c11 HR'.out HOL1.out)
                      with_reducible refine (CI1.out).mono ?_
                      rintro e w13 ⟨rfl, bb⟩
                      have HQ13 := Lib.hid (HQ12.out.trans (bb.mono HQ12.out.size))
                      have HS13 := Lib.hid (HS12.out.below bb)
                      have HR213 := Lib.hid (HR212.out.below bb)
                      have HR913 := Lib.hid (RawAt.below HR912.out bb HR912.out.lt)
                      have HV13 := Lib.hid (RawAt.below HV12.out bb HV12.out.lt)
                      have HS13' := Lib.hid (HS'.out.below bb)
                      have HR13' := Lib.hid (HR'.out.below bb)
                      have v0 := RawAt.cell HR913.out 0
                      have v1 := RawAt.cell HR913.out 1
                      have v2 := RawAt.cell HR913.out 2
                      simp at v0 v1 v2
                      have CI2 := Lib.hid (is13_set HS13.out (by omega) A2 o.length c2 HR213.out rfl)
                      clear bb CI1 HQ12 HS12 HR212 HR912 HV12 HS' HR' q0 q1 q2
                      go_wp2_with fail
                      with_reducible refine (CI2.out).mono ?_
                      rintro e w14 ⟨rfl, bb⟩
                      have HQ14 := HQ13.out.trans (bb.mono HQ13.out.size)
                      have HR914 := RawAt.below HR913.out bb HR913.out.lt
                      have HV14 := RawAt.below HV13.out bb HV13.out.lt
                      have HS14' := HS13'.out.below bb
                      have HR14' := HR13'.out.below bb
                      have v0 := RawAt.cell HR914 0
                      have v1 := RawAt.cell HR914 1
                      have v2 := RawAt.cell HR914 2
                      have q0 := RawAt.cell HV14 0
                      have q1 := RawAt.cell HV14 1
                      have q2 := RawAt.cell HV14 2
                      have f0 := RawAt.free HR914 0
                      have f1 := RawAt.free HR914 1
                      have f2 := RawAt.free HR914 2
                      simp at v0 v1 v2 q0 q1 q2
                      have HQ15 := Lib.hid (below_set3 HQ14 HB9.out (.int .i64 nn) (.slice A11 m11 c11) (.int .i64 0))
                      have HS15 := Lib.hid (HS14'.set3 HR914 (.int .i64 nn) (.slice A11 m11 c11) (.int .i64 0))
                      have HR15 := Lib.hid (rows_set3 HR14' HR914 (.int .i64 nn) (.slice A11 m11 c11) (.int .i64 0))
                      have HR95 : Hid (RawAt 31 _ b9 #[.int .i64 nn, .slice A11 o1.length c11, .int .i64 0]) := Lib.hid (RawAt.of_eq (raw3 HR914 (.int .i64 nn) (.slice A11 m11 c11) (.int .i64 0)) (by rw [HOL1.out]))
                      clear bb CI2 HQ14 HR914 HV14 HS14' HR14' HQ13 HS13 HR213 HR913 HV13 HS13' HR13'
                      go_wp2
                      go_roundg (gk - 1)
                      case measure => omega
                      case rel => exact ⟨k + 1, sb', nn, o1, A11, c11, by go_num, rfl, by omega, by omega, HQ15, HS15, HT', HR95, HR15⟩
                    · have e1 := HN10.out hz
                      subst e1
                      have CI1 := Lib.hid (is13_nil rp hz nn A11 m11 c11 w12)
                      have k7 : (rp == 0) = false := by simp [hz]
                      have k8 : decide (rp = 0) = false := decide_eq_false hz
                      clear HSN12 HRS12 HSP HN10 HS10'
                      with_reducible refine (CI1.out).mono ?_
                      rintro e w13 ⟨rfl, bb⟩
                      have HQ13 := Lib.hid (HQ12.out.trans (bb.mono HQ12.out.size))
                      have HS13 := Lib.hid (HS12.out.below bb)
                      have HR213 := Lib.hid (HR212.out.below bb)
                      have HR913 := Lib.hid (RawAt.below HR912.out bb HR912.out.lt)
                      have v0 := RawAt.cell HR913.out 0
                      have v1 := RawAt.cell HR913.out 1
                      have v2 := RawAt.cell HR913.out 2
                      simp at v0 v1 v2
                      have CI2 := Lib.hid (is13_set HS13.out (by omega) A2 o.length c2 HR213.out rfl)
                      clear bb CI1 HQ12 HS12 HR212 HR912 HV12 q0 q1 q2
                      go_wp2_with fail
                      with_reducible refine (CI2.out).mono ?_
                      rintro e w14 ⟨rfl, bb⟩
                      have HQ14 := Lib.hid (HQ13.out.trans (bb.mono HQ13.out.size))
                      have HS14 := Lib.hid (HS13.out.below bb)
                      have HR214 := Lib.hid (HR213.out.below bb)
                      have HR914 := Lib.hid (RawAt.below HR913.out bb HR913.out.lt)
                      clear bb CI2 HQ13 HS13 HR213 HR913
                      go_wp2
                      go_roundg (gk - 1)
                      case measure => omega
                      case rel => exact ⟨k + 1, sb, z, o, A2, c2, by go_num, rfl, by omega, by omega, HQ14, HS14, hT, HR914, HR214⟩
                  · rw [hsh] at c0
                    go_wp2_with fail
                    rw [← HW9.out, ← HB14.out]
                    with_reducible refine (CSH.out).mono ?_
                    rintro e w10 ⟨p10, rfl, hn10, hs10, bb⟩
                    have HQ10 := Lib.hid (HQ9.out.trans (bb.mono HQ9.out.size))
                    have HS10 := Lib.hid (HS9.out.below bb)
                    have HR210 := Lib.hid (HR29.out.below bb)
                    have HR910 := Lib.hid (RawAt.below HR99.out bb HR99.out.lt)
                    have HU10 := Lib.hid (RawAt.below HU9.out bb HU9.out.lt)
                    have HV10 := Lib.hid (RawAt.below HV9.out bb HV9.out.lt)
                    have HN10 := Lib.hid hn10
                    have HS10' := Lib.hid hs10
                    clear bb hn10 hs10 CPP CSH CSP HSP HS9 HR29 HR99 HU9 HV9 c0 c1 c2' c3
                    have MK : Hid (∀ W : World, RawAt 31 W b9 #[.int .i64 z, .slice A2 o.length c2, .int .i64 0] → RawAt 37 W b11 #[.bool s.sh, .slice s.A s.n s.c, .slice s.A' s.n' s.c', .slice s.B s.k s.d] → (fun W => W.cell? ⟨b9, 0, none⟩ = some (.int .i64 z) ∧ W.cell? ⟨b9, 1, none⟩ = some (.slice A2 o.length c2) ∧ W.cell? ⟨b9, 2, none⟩ = some (.int .i64 0) ∧ W.cell? ⟨b11, 1, none⟩ = some (.slice s.A s.n s.c)) W) := Lib.hid fun W h1 h2 => ⟨RawAt.cell h1 0, RawAt.cell h1 1, RawAt.cell h1 2, RawAt.cell h2 1⟩
                    have hW2 : Below w10.heap.size w10 w10.drew := (Below.refl _ _).drew
                    have u9 := RawAt.below HR910.out hW2 HR910.out.lt
                    have u11 := RawAt.below HU10.out hW2 HU10.out.lt
                    have v14 := RawAt.below HV10.out hW2 HV10.out.lt
                    have hne9 : b14 ≠ b9 := Nat.ne_of_gt HLT9.out
                    have hne11 : b14 ≠ b11 := raw_ne HU10.out HV10.out (by decide)
                    go_wp2_with fail
                    refine wp_region_noPanic ?_
                    refine wp_region_held_drew (S := (fun W => W.cell? ⟨b9, 0, none⟩ = some (.int .i64 z) ∧ W.cell? ⟨b9, 1, none⟩ = some (.slice A2 o.length c2) ∧ W.cell? ⟨b9, 2, none⟩ = some (.int .i64 0) ∧ W.cell? ⟨b11, 1, none⟩ = some (.slice s.A s.n s.c))) (by kernel_rfl) (MK.out _ u9 u11) (fun hHeld => ?_)
                    refine wpAnyH_take (i := 0) (v := ?_) rfl (by kernel_rfl) (by kernel_rfl) (by kernel_rfl) (fun _ _ _ h => h) (Or.inl ⟨by rfl, ?_⟩) hHeld ?_
                    rotate_left
                    · intro w hSw
                      (try dsimp only at hSw)
                      go_simp
                      try with_reducible rfl
                    go_simp
                    refine wpAnyH_take (i := 1) (v := ?_) rfl (by kernel_rfl) (by kernel_rfl) (by kernel_rfl) (fun _ _ _ h => h) (Or.inl ⟨by rfl, ?_⟩) hHeld ?_
                    rotate_left
                    · intro w hSw
                      (try dsimp only at hSw)
                      go_simp
                      try with_reducible rfl
                    go_simp
                    refine wpAnyH_take (i := 2) (v := ?_) rfl (by kernel_rfl) (by kernel_rfl) (by kernel_rfl) (fun _ _ _ h => h) (Or.inl ⟨by rfl, ?_⟩) hHeld ?_
                    rotate_left
                    · intro w hSw
                      (try dsimp only at hSw)
                      go_simp
                      try with_reducible rfl
                    go_simp
                    refine wpAnyH_ready (rs := [3]) (by kernel_rfl) (by simp) ?_
                    refine AllReadyH.cons rfl (fun K hK => ?_) ?_
                    rotate_left
                    · exact AllReadyH.nil
                    go_simp
                    go_wp2_with (first | (go_at_call 18; (with_reducible refine (CG.out _ (HQ10.out.trans (hW2.mono HQ10.out.size))).mono ?_); rintro e w8' ⟨A8, c8, rfl, hG, _, b8⟩; have hW2 := hW2.trans (b8.mono hW2.size); have u9 := RawAt.below HR910.out hW2 HR910.out.lt; have u11 := RawAt.below HU10.out hW2 HU10.out.lt; have v14 := RawAt.below HV10.out hW2 HV10.out.lt; have HG := Lib.hid hG) | (go_at_call 17; (with_reducible refine (CPH.out A8 c8 _ (HR210.out.below hW2) HG.out).mono ?_); rintro e w11 ⟨nn, A11, m11, c11, rfl, hres, b11'⟩; have hW2 := hW2.trans (b11'.mono hW2.size); have u9 := RawAt.below HR910.out hW2 HR910.out.lt; have u11 := RawAt.below HU10.out hW2 HU10.out.lt; have v14 := RawAt.below HV10.out hW2 HV10.out.lt; have HRES := Lib.hid hres; have q0 := RawAt.cell v14 0; have q1 := RawAt.cell v14 1; have q2 := RawAt.cell v14 2; have f0 := RawAt.free v14 0; have f1 := RawAt.free v14 1; have f2 := RawAt.free v14 2; simp at q0 q1 q2))
                    refine hK.out _ _ (by first | (with_reducible exact MK.out _ u9 u11) | exact MK.out _ (raw_far3 u9 hne9 _ _ _) (raw_far3 u11 hne11 _ _ _)) (fun hHeld => ?_)
                    clear hK K
                    go_simp
                    refine wpAnyH_ready (rs := [4]) (by kernel_rfl) (by simp) ?_
                    refine AllReadyH.cons rfl (fun K hK => ?_) ?_
                    rotate_left
                    · exact AllReadyH.nil
                    go_simp
                    go_wp2_with (first | (go_at_call 18; (with_reducible refine (CG.out _ (HQ10.out.trans (hW2.mono HQ10.out.size))).mono ?_); rintro e w8' ⟨A8, c8, rfl, hG, _, b8⟩; have hW2 := hW2.trans (b8.mono hW2.size); have u9 := RawAt.below HR910.out hW2 HR910.out.lt; have u11 := RawAt.below HU10.out hW2 HU10.out.lt; have v14 := RawAt.below HV10.out hW2 HV10.out.lt; have HG := Lib.hid hG) | (go_at_call 17; (with_reducible refine (CPH.out A8 c8 _ (HR210.out.below hW2) HG.out).mono ?_); rintro e w11 ⟨nn, A11, m11, c11, rfl, hres, b11'⟩; have hW2 := hW2.trans (b11'.mono hW2.size); have u9 := RawAt.below HR910.out hW2 HR910.out.lt; have u11 := RawAt.below HU10.out hW2 HU10.out.lt; have v14 := RawAt.below HV10.out hW2 HV10.out.lt; have HRES := Lib.hid hres; have q0 := RawAt.cell v14 0; have q1 := RawAt.cell v14 1; have q2 := RawAt.cell v14 2; have f0 := RawAt.free v14 0; have f1 := RawAt.free v14 1; have f2 := RawAt.free v14 2; simp at q0 q1 q2))
                    refine hK.out _ _ (by first | (with_reducible exact MK.out _ u9 u11) | exact MK.out _ (raw_far3 u9 hne9 _ _ _) (raw_far3 u11 hne11 _ _ _)) (fun hHeld => ?_)
                    clear hK K
                    go_simp
                    refine wpAnyH_ready (rs := [5]) (by kernel_rfl) (by simp) ?_
                    refine AllReadyH.cons rfl (fun K hK => ?_) ?_
                    rotate_left
                    · exact AllReadyH.nil
                    go_simp
                    go_wp2_with (first | (go_at_call 18; (with_reducible refine (CG.out _ (HQ10.out.trans (hW2.mono HQ10.out.size))).mono ?_); rintro e w8' ⟨A8, c8, rfl, hG, _, b8⟩; have hW2 := hW2.trans (b8.mono hW2.size); have u9 := RawAt.below HR910.out hW2 HR910.out.lt; have u11 := RawAt.below HU10.out hW2 HU10.out.lt; have v14 := RawAt.below HV10.out hW2 HV10.out.lt; have HG := Lib.hid hG) | (go_at_call 17; (with_reducible refine (CPH.out A8 c8 _ (HR210.out.below hW2) HG.out).mono ?_); rintro e w11 ⟨nn, A11, m11, c11, rfl, hres, b11'⟩; have hW2 := hW2.trans (b11'.mono hW2.size); have u9 := RawAt.below HR910.out hW2 HR910.out.lt; have u11 := RawAt.below HU10.out hW2 HU10.out.lt; have v14 := RawAt.below HV10.out hW2 HV10.out.lt; have HRES := Lib.hid hres; have q0 := RawAt.cell v14 0; have q1 := RawAt.cell v14 1; have q2 := RawAt.cell v14 2; have f0 := RawAt.free v14 0; have f1 := RawAt.free v14 1; have f2 := RawAt.free v14 2; simp at q0 q1 q2))
                    refine hK.out _ _ (by first | (with_reducible exact MK.out _ u9 u11) | exact MK.out _ (raw_far3 u9 hne9 _ _ _) (raw_far3 u11 hne11 _ _ _)) (fun hHeld => ?_)
                    clear hK K
                    go_simp
                    refine wpAnyH_done (by kernel_rfl) ?_ _
                    refine NoPanic.normal ?_
                    have HQ11 := Lib.hid (HQ10.out.trans (hW2.mono HQ10.out.size))
                    have HS11 := Lib.hid (HS10.out.below hW2)
                    have HR211 := Lib.hid (HR210.out.below hW2)
                    have HR911 := Lib.hid u9
                    have HV11 := Lib.hid v14
                    have HSN := Lib.hid fun (h : rs = 0) => (show ∃ sb', p10 = .pointer (some ⟨sb', 0, none⟩) ∧ ISet w11 sb' (z + dlt s.l) (ord ilt ((ishift s.l o).map icl)) from by obtain ⟨sb', e1, e2⟩ := HS10'.out h; exact ⟨sb', e1, e2.below hW2⟩)
                    clear hW2 u9 u11 v14 hHeld hres MK
                    go_wp2_with fail
                    have HQ12 := Lib.hid (below_set3 HQ11.out HLTB.out (.int .i64 nn) (.slice A11 m11 c11) (.int .i64 rs))
                    have HS12 := Lib.hid (HS11.out.set3 HV11.out (.int .i64 nn) (.slice A11 m11 c11) (.int .i64 rs))
                    have HR212 := Lib.hid (rows_set3 HR211.out HV11.out (.int .i64 nn) (.slice A11 m11 c11) (.int .i64 rs))
                    have HR912 := Lib.hid (raw_far3 HR911.out hne9 (.int .i64 nn) (.slice A11 m11 c11) (.int .i64 rs))
                    have HV12 := Lib.hid (raw3 HV11.out (.int .i64 nn) (.slice A11 m11 c11) (.int .i64 rs))
                    have HSN12 := Lib.hid fun (h : rs = 0) => (show ∃ sb', p10 = .pointer (some ⟨sb', 0, none⟩) ∧ ISet (((w11.setCell ⟨b14, 0, none⟩ (.int .i64 nn)).setCell ⟨b14, 1, none⟩ (.slice A11 m11 c11)).setCell ⟨b14, 2, none⟩ (.int .i64 rs)) sb' (z + dlt s.l) (ord ilt ((ishift s.l o).map icl)) from by obtain ⟨sb', e1, e2⟩ := HSN.out h; exact ⟨sb', e1, e2.set3 HV11.out _ _ _⟩)
                    have HRS12 := Lib.hid fun (h : rs = 0) => (show nn = (z + dlt s.l) ∧ m11 = (ishift s.l o).length ∧ RowsAt encI 5 (((w11.setCell ⟨b14, 0, none⟩ (.int .i64 nn)).setCell ⟨b14, 1, none⟩ (.slice A11 m11 c11)).setCell ⟨b14, 2, none⟩ (.int .i64 rs)) A11 (ord ilt ((ishift s.l o).map icl)) from by obtain ⟨y1, y2, y3⟩ := HRES.out h; exact ⟨y1, y2, rows_set3 y3 HV11.out _ _ _⟩)
                    obtain ⟨w12, hw12⟩ : ∃ w12, w12 = (((w11.setCell ⟨b14, 0, none⟩ (.int .i64 nn)).setCell ⟨b14, 1, none⟩ (.slice A11 m11 c11)).setCell ⟨b14, 2, none⟩ (.int .i64 rs)) := ⟨_, rfl⟩
                    rw [← hw12] at HQ12 HS12 HR212 HR912 HV12 HSN12 HRS12 ⊢
                    clear hw12 HQ11 HS11 HR211 HR911 HV11 HSN HRES q0 q1 q2 f0 f1 f2
                    have q0 := RawAt.cell HV12.out 0
                    have q1 := RawAt.cell HV12.out 1
                    have q2 := RawAt.cell HV12.out 2
                    simp at q0 q1 q2
                    by_cases hz : rs = 0
                    · obtain ⟨sb', e1, hs12⟩ := HSN12.out hz
                      obtain ⟨y1, y2, hr12⟩ := HRS12.out hz
                      have hst := HSH.out hz
                      obtain ⟨o1, ho1⟩ : ∃ o1, o1 = ord ilt ((ishift s.l o).map icl) := ⟨_, rfl⟩
                      have hol1 : o1.length = m11 := by rw [ho1, (ord_perm ilt ilt_swo _).length_eq, List.length_map, y2]
                      rw [← ho1] at hs12 hr12 hst
                      subst e1
                      rw [← y1] at hs12 hst
                      clear y1 y2 ho1 HSN12 HRS12 HSH
                      have HS' := Lib.hid hs12
                      have HR' := Lib.hid hr12
                      have HT' := Lib.hid hst
                      have HOL1 := Lib.hid hol1
                      rw [hz] at HV12 q2 ⊢
                      clear hs12 hr12 hst hol1 hz
                      have CI1 := Lib.hid (is13_set HS'.out (by have := HT'.out.len; omega) A11 m11 c11 HR'.out HOL1.out)
                      with_reducible refine (CI1.out).mono ?_
                      rintro e w13 ⟨rfl, bb⟩
                      have HQ13 := Lib.hid (HQ12.out.trans (bb.mono HQ12.out.size))
                      have HS13 := Lib.hid (HS12.out.below bb)
                      have HR213 := Lib.hid (HR212.out.below bb)
                      have HR913 := Lib.hid (RawAt.below HR912.out bb HR912.out.lt)
                      have HV13 := Lib.hid (RawAt.below HV12.out bb HV12.out.lt)
                      have HS13' := Lib.hid (HS'.out.below bb)
                      have HR13' := Lib.hid (HR'.out.below bb)
                      have v0 := RawAt.cell HR913.out 0
                      have v1 := RawAt.cell HR913.out 1
                      have v2 := RawAt.cell HR913.out 2
                      simp at v0 v1 v2
                      have CI2 := Lib.hid (is13_set HS13.out (by omega) A2 o.length c2 HR213.out rfl)
                      clear bb CI1 HQ12 HS12 HR212 HR912 HV12 HS' HR' q0 q1 q2
                      go_wp2_with fail
                      with_reducible refine (CI2.out).mono ?_
                      rintro e w14 ⟨rfl, bb⟩
                      have HQ14 := HQ13.out.trans (bb.mono HQ13.out.size)
                      have HR914 := RawAt.below HR913.out bb HR913.out.lt
                      have HV14 := RawAt.below HV13.out bb HV13.out.lt
                      have HS14' := HS13'.out.below bb
                      have HR14' := HR13'.out.below bb
                      have v0 := RawAt.cell HR914 0
                      have v1 := RawAt.cell HR914 1
                      have v2 := RawAt.cell HR914 2
                      have q0 := RawAt.cell HV14 0
                      have q1 := RawAt.cell HV14 1
                      have q2 := RawAt.cell HV14 2
                      have f0 := RawAt.free HR914 0
                      have f1 := RawAt.free HR914 1
                      have f2 := RawAt.free HR914 2
                      simp at v0 v1 v2 q0 q1 q2
                      have HQ15 := Lib.hid (below_set3 HQ14 HB9.out (.int .i64 nn) (.slice A11 m11 c11) (.int .i64 0))
                      have HS15 := Lib.hid (HS14'.set3 HR914 (.int .i64 nn) (.slice A11 m11 c11) (.int .i64 0))
                      have HR15 := Lib.hid (rows_set3 HR14' HR914 (.int .i64 nn) (.slice A11 m11 c11) (.int .i64 0))
                      have HR95 : Hid (RawAt 31 _ b9 #[.int .i64 nn, .slice A11 o1.length c11, .int .i64 0]) := Lib.hid (RawAt.of_eq (raw3 HR914 (.int .i64 nn) (.slice A11 m11 c11) (.int .i64 0)) (by rw [HOL1.out]))
                      clear bb CI2 HQ14 HR914 HV14 HS14' HR14' HQ13 HS13 HR213 HR913 HV13 HS13' HR13'
                      go_wp2
                      go_roundg (gk - 1)
                      case measure => omega
                      case rel => exact ⟨k + 1, sb', nn, o1, A11, c11, by go_num, rfl, by omega, by omega, HQ15, HS15, HT', HR95, HR15⟩
                    · have e1 := HN10.out hz
                      subst e1
                      have CI1 := Lib.hid (is13_nil rs hz nn A11 m11 c11 w12)
                      have k7 : (rs == 0) = false := by simp [hz]
                      have k8 : decide (rs = 0) = false := decide_eq_false hz
                      clear HSN12 HRS12 HSH HN10 HS10'
                      with_reducible refine (CI1.out).mono ?_
                      rintro e w13 ⟨rfl, bb⟩
                      have HQ13 := Lib.hid (HQ12.out.trans (bb.mono HQ12.out.size))
                      have HS13 := Lib.hid (HS12.out.below bb)
                      have HR213 := Lib.hid (HR212.out.below bb)
                      have HR913 := Lib.hid (RawAt.below HR912.out bb HR912.out.lt)
                      have v0 := RawAt.cell HR913.out 0
                      have v1 := RawAt.cell HR913.out 1
                      have v2 := RawAt.cell HR913.out 2
                      simp at v0 v1 v2
                      have CI2 := Lib.hid (is13_set HS13.out (by omega) A2 o.length c2 HR213.out rfl)
                      clear bb CI1 HQ12 HS12 HR212 HR912 HV12 q0 q1 q2
                      go_wp2_with fail
                      with_reducible refine (CI2.out).mono ?_
                      rintro e w14 ⟨rfl, bb⟩
                      have HQ14 := Lib.hid (HQ13.out.trans (bb.mono HQ13.out.size))
                      have HS14 := Lib.hid (HS13.out.below bb)
                      have HR214 := Lib.hid (HR213.out.below bb)
                      have HR914 := Lib.hid (RawAt.below HR913.out bb HR913.out.lt)
                      clear bb CI2 HQ13 HS13 HR213 HR913
                      go_wp2
                      go_roundg (gk - 1)
                      case measure => omega
                      case rel => exact ⟨k + 1, sb, z, o, A2, c2, by go_num, rfl, by omega, by omega, HQ14, HS14, hT, HR914, HR214⟩
            · have CLO := Lib.hid (CLO.out true ⟨fun _ => sS, fun _ => rfl⟩)
              go_wp2_with fail
              with_reducible refine (CLO.out).mono ?_
              rintro e w8 ⟨rfl, bb⟩
              have HQ8 := Lib.hid (HQ3.out.trans (bb.mono HQ3.out.size))
              clear bb CLO
              go_wp2_with fail
              with_reducible refine (C3.out _).mono ?_
              rintro e w9 ⟨rfl, bb⟩
              have HQ9 := Lib.hid (HQ8.out.trans (bb.mono HQ8.out.size))
              clear bb
              go_wp2
              go_ret
              exact ⟨rfl, HQ9.out⟩
          · obtain rfl : om = k := by omega
            have HQ8 := Lib.hid hb.out
            clear hb hS hT hR9 hR2
            go_wp2_with fail
            with_reducible refine (C3.out _).mono ?_
            rintro e w9 ⟨rfl, bb⟩
            have HQ9 := Lib.hid (HQ8.out.trans (bb.mono HQ8.out.size))
            clear bb
            go_wp2
            go_ret
            exact ⟨rfl, HQ9.out⟩
      · have k5 : (r != 0) = true := by simp [hz]
        have k6 : (r == 0) = false := by simp [hz]
        have HZ := Lib.hid hz
        clear hz hr hol hw1 ht hI hl hn hc hO hP hp hpn hpc hPO g1 g2
        go_enter Try.func3, Try.ntmps3
        go_wp2_with fail
        with_reducible refine (CLF.out).mono ?_
        rintro e w2 ⟨rfl, bb⟩
        have Q2 := Lib.hid bb
        clear bb
        go_wp2_with fail
        with_reducible refine (CN.out _ Q2.out).mono ?_
        rintro e w4 ⟨p4, rfl, hp4, _, bb⟩
        have Q4 := Lib.hid (Q2.out.trans (bb.mono Q2.out.size))
        have hp := hp4 HZ.out
        subst hp
        clear hp4
        clear bb
        go_wp2_with fail
        with_reducible refine (CR.out _ Q4.out).mono ?_
        rintro e w5 ⟨nn, A5, m5, c5, rfl, _, bb⟩
        have Q5 := Lib.hid (Q4.out.trans (bb.mono Q4.out.size))
        have CIS := Lib.hid fun W => is13_nil r HZ.out nn A5 m5 c5 W
        have Q6 := Lib.hid (Q5.out.trans (((Below.refl w5.heap.size w5).alloc (Nat.le_refl _) (.cells #[.int .i64 nn, .slice A5 m5 c5, .int .i64 r] 31)).mono Q5.out.size))
        clear bb
        go_wp2_with fail
        with_reducible refine (CIS.out _).mono ?_
        rintro e w7 ⟨rfl, bb⟩
        have Q7 := Lib.hid (Q6.out.trans (bb.mono Q6.out.size))
        clear bb
        go_wp2_with fail
        with_reducible refine (C3.out _).mono ?_
        rintro e w8 ⟨rfl, bb⟩
        have Q8 := Lib.hid (Q7.out.trans (bb.mono Q7.out.size))
        clear bb
        go_wp2
        go_ret
        exact ⟨rfl, Q8.out⟩
  · have CLF := Lib.hid (CL1.out true ⟨fun _ => g1, fun _ => rfl⟩)
    clear CL1
    go_enter Try.func3, Try.ntmps3
    go_wp2_with fail
    with_reducible refine (CLF.out).mono ?_
    rintro e w2 ⟨rfl, bb⟩
    have Q2 := Lib.hid bb
    clear bb
    go_wp2_with fail
    with_reducible refine (C3.out _).mono ?_
    rintro e w8 ⟨rfl, bb⟩
    have Q8 := Lib.hid (Q2.out.trans (bb.mono Q2.out.size))
    clear bb
    go_wp2
    go_ret
    exact ⟨rfl, Q8.out⟩
end Go.Proofs.Ytmijlijgcaaiiaa
