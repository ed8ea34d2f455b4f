/- Weaves: the law WeaveSplices, walked. -/
import Derived.Test.YtbeclkhahdcmbaaGreatWvN
import Derived.Test.YtbeclkhahdcmbaaGreatInW
import Derived.Test.YtbeclkhahdcmbaaGreatInY
import Derived.Test.YtbeclkhahdcmbaaGreatSplO
import Derived.Test.YtbeclkhahdcmbaaGreatInO
import Derived.Deep.DeepCutAuto
import Derived.BigQuiet
namespace Go.Proofs.YtbeclkhahdcmbaaGreat
open Go.RowKit Go.Sort
set_option linter.unusedVariables false
abbrev weZ : Array Value := #[.int .i64 0, .slice none 0 0, .int .i64 0]
theorem rows_row3' {w : World} {A : Option Addr} {l : List In} (h : RowsAt encI 5 w A l) {t : TypeId} {b : Nat} {cs : Array Value} (r : RawAt t w b cs) (hs : cs.size = 3) (vs : Array Value) : RowsAt encI 5 (w.setRow b vs) A l := by
  intro hl
  obtain ⟨bA, off, rfl, h1, h2⟩ := h hl
  have hne : bA ≠ b := by
    rintro rfl
    have := h2 0 hl 4 (by omega)
    rw [RawAt.cell r, Array.getElem?_eq_none (by omega)] at this
    cases this
  exact ⟨bA, off, rfl, by simpa using h1, fun j hj c hc => (cell_setRow_other w b vs _ hne).trans (h2 j hj c hc)⟩
theorem we13f' (x : Int) (A : Option Addr) (m c : Nat) (r : Int) (w : World) : (Instr.field 33 (.agg #[.int .i64 x, .slice A m c, .int .i64 r]) 2).run Tryz.prog w = .ok (.int .i64 r) w := by kernel_rfl
set_option maxHeartbeats 32000000 in
set_option maxRecDepth 100000 in
theorem weaveSplices_walk (n : Int) (A : Option Addr) (m c' : Nat) (l : List In) (x : Spl) (w : World) (_wf : (Lit.int .i64 n).wf = true) (hI : RowsAt encI 5 w A l) (hl : l.length = m) (hn : m ≤ maxLen) (hc : Caps A m c') (hO : ∀ s ∈ l, InOk s) (hS : SplOk w x) :
    Calls Tryz.prog 3 #[.int .i64 n, .slice A m c', .agg #[.int .i64 x.f, .int .i64 x.t, .slice x.A x.n x.c, .slice x.B x.k x.d]] w fun e w' => e = .returned (.bool true) ∧ Below w.heap.size w w' := by
  obtain ⟨f, t, RA, rn, rc, rem, BA, bk, bd, add⟩ := x
  obtain ⟨lr, ints, wfr, la, mx, caps, rows, ok⟩ := hS
  simp only at lr ints wfr la mx caps rows ok ⊢
  have C4 := Lib.hid fun W => four_any W
  obtain ⟨W1, hW1⟩ : ∃ W1, W1 = w.alloc (.cells #[.int .i64 f, .int .i64 t, .slice RA rn rc, .slice BA bk bd] 25) := ⟨_, rfl⟩
  have x1 : Below w.heap.size w W1 := by rw [hW1]; exact (Below.refl _ _).alloc (Nat.le_refl _) _
  have r1 : RawAt 25 W1 w.heap.size #[.int .i64 f, .int .i64 t, .slice RA rn rc, .slice BA bk bd] := by rw [hW1]; exact heap_alloc_new w _
  have HW1 := Lib.hid hW1
  have X1 := Lib.hid x1
  have Hb := Lib.hid r1
  have CLO := Lib.hid fun (b : Bool) (hb : b = true ↔ ¬ Short14 n l) => long14_any n A m c' l b W1 (hI.below x1) hl hn (fun x hx => (hO x hx).2.2.2.2) hb
  have CLB := Lib.hid fun (b : Bool) (hb : b = true ↔ ¬ Short14 n add) (W : World) (hW : Below w.heap.size w W) => long14_any n BA bk bd add b W (rows.below hW) la mx (fun x hx => (ok x hx).2.2.2.2) hb
  clear hW1 x1 r1
  by_cases g : Short14 n l
  · have CL1 := Lib.hid (CLO.out false ⟨fun h => absurd h (by simp), fun h => absurd g h⟩)
    by_cases g' : Short14 n add
    · have CL2 := Lib.hid (CLB.out false ⟨fun h => absurd h (by simp), fun h => absurd g' h⟩)
      by_cases gR : rn ≤ 60
      · have kR : decide ((60 : Int) < rn) = false := decide_eq_false (by omega)
        clear CLO CLB
        obtain ⟨g0, g1, g2, g3⟩ := g
        obtain ⟨_, _, g4, g5⟩ := g'
        have hm : m ≤ 60 := by rw [← hl]; exact g2
        have hbk : bk ≤ 60 := by rw [← la]; exact g4
        have ht : ∀ x ∈ l, x.tx.size ≤ 100000000 := fun x hx => Nat.le_trans (g3 x hx) (by omega)
        have hta : ∀ x ∈ add, x.tx.size ≤ 100000000 := fun x hx => Nat.le_trans (g5 x hx) (by omega)
        have hwl : ∀ a ∈ l, (Lit.int .i64 a.id).wf = true := fun a ha => (hO a ha).1
        have hwa : ∀ a ∈ add, (Lit.int .i64 a.id).wf = true := fun a ha => (ok a ha).1
        obtain ⟨r, hr⟩ : ∃ r, r = iwrong n l := ⟨_, rfl⟩
        have CN := Lib.hid fun (W : World) (hW : Below w.heap.size w W) => iNew_any n A m c' l W (hI.below hW) hc hl hwl ht r hr.symm
        have CR := Lib.hid fun (W : World) (hW : Below w.heap.size w W) => rNew13_any n A m c' l W (hI.below hW) hc hl ht r hr.symm
        have ROWS := Lib.hid rows
        have INTS := Lib.hid ints
        have WFR := Lib.hid wfr
        have CAPS := Lib.hid caps
        have LR := Lib.hid lr
        have LA := Lib.hid la
        by_cases hz : r = 0
        · have hr0 : iwrong n l = 0 := hr.symm.trans hz
          have hos := woset_new hr0 g3
          have hsz : ∀ a ∈ ord ilt (l.map icl), a.tx.size ≤ 160 := fun a ha => (ord_size hr0 a ha).1
          have how : ∀ a ∈ ord ilt (l.map icl), (Lit.int .i64 a.id).wf = true := fun a ha => by
            obtain ⟨y, hy, rfl⟩ := List.mem_map.1 ((ord_perm ilt ilt_swo _).mem_iff.1 ha)
            exact hwl y hy
          have hol : (ord ilt (l.map icl)).length = m := by rw [(ord_perm ilt ilt_swo _).length_eq, List.length_map]; exact hl
          obtain ⟨o, ho⟩ : ∃ o, o = ord ilt (l.map icl) := ⟨_, rfl⟩
          rw [← ho] at hos hsz how hol CN
          have CRN := Lib.hid fun (W : World) (hW : Below w.heap.size w W) => (CR.out W hW).mono fun e w' ⟨nn, A2, m2, c2, he, hres, hb⟩ => (by
            obtain ⟨h1, h2, h3⟩ := hres hz
            rw [← ho] at h3
            rw [h1, h2, hl, hz] at he
            exact ⟨A2, c2, he, h3, hb⟩ : ∃ A2 c2, e = Ending.returned (.agg #[.int .i64 n, .slice A2 m c2, .int .i64 0]) ∧ RowsAt encI 5 w' A2 o ∧ Below W.heap.size W w')
          subst hz
          obtain ⟨rs, hrs⟩ : ∃ rs, rs = if remOk o rem then iwrong n (left o rem ++ add) else 6 := ⟨_, rfl⟩
          obtain ⟨o2, ho2⟩ : ∃ o2, o2 = ord ilt ((left o rem ++ add).map icl) := ⟨_, rfl⟩
          have hol2 : o2.length = (left o rem ++ add).length := by rw [ho2, (ord_perm ilt ilt_swo _).length_eq, List.length_map]
          have CS := Lib.hid fun (sb : Nat) (W : World) (hW : Below w.heap.size w W) (hS : ISet W sb n o) => iSplice_any hS (by omega) how (fun a ha => Nat.le_trans (hsz a ha) (by omega)) RA rn rc rem (INTS.out.below hW) LR.out (by omega) WFR.out BA bk bd add (ROWS.out.below hW) LA.out CAPS.out (by omega) hwa hta rs hrs
          have CSR := Lib.hid fun (A2 : Option Addr) (c2 : Nat) (W : World) (hQ : RowsAt encI 5 W A2 o) (hW : Below w.heap.size w W) => (rSplice13_any n 0 A2 m c2 o RA rn rc rem BA bk bd add W hQ hol (by omega) hos.apart (INTS.out.below hW) LR.out (by omega) (ROWS.out.below hW) LA.out CAPS.out (by omega) (fun a ha => Nat.le_trans (hsz a ha) (by omega)) hta rs hrs).mono fun e w' ⟨nn, A3, m3, c3, he, hres, hb⟩ => (⟨nn, A3, m3, c3, he, fun h => by
            obtain ⟨h1, h2, h3⟩ := hres h
            rw [← ho2] at h3
            exact ⟨h1, by rw [hol2]; exact h2.symm, h3⟩, hb⟩ : ∃ nn A3 m3 c3, e = Ending.returned (.agg #[.int .i64 nn, .slice A3 m3 c3, .int .i64 rs]) ∧ (rs = 0 → nn = n ∧ o2.length = m3 ∧ RowsAt encI 5 w' A3 o2) ∧ Below W.heap.size W w')
          rw [← ho2] at CS
          have HTX : Hid (rs = 0 → wOSet n o2) := Lib.hid fun h => by
            rw [ho2]
            have hi : iwrong n (left o rem ++ add) = 0 := by
              by_cases q : remOk o rem
              · rw [if_pos q] at hrs; rw [← hrs]; exact h
              · rw [if_neg q] at hrs; omega
            refine woset_new hi fun x hx => ?_
            rcases List.mem_append.1 hx with h1 | h1
            · exact Nat.le_trans (hsz x (List.mem_filter.1 h1).1) (by omega)
            · exact g5 x h1
          have HOS := Lib.hid hos
          have HOL := Lib.hid hol
          clear hr hr0 CR hol2 ho2 hI hl ht hO hc g3 g2 g4 g5 hwl hwa hta hos hsz how hrs hol ho ints wfr caps rows lr la
          go_enter Tryz.func3, Tryz.ntmps3
          go_wp2_with fail
          rw [← HW1.out]
          with_reducible refine (CL1.out).mono ?_
          rintro e w2 ⟨rfl, b2⟩
          have HQ2 := Lib.hid (X1.out.trans (b2.mono X1.out.size))
          have Hb := Lib.hid (RawAt.below Hb.out b2 Hb.out.lt)
          clear b2
          have p0 : w2.cell? ⟨w.heap.size, 0, none⟩ = some (.int .i64 f) := RawAt.cell Hb.out 0
          have p1 : w2.cell? ⟨w.heap.size, 1, none⟩ = some (.int .i64 t) := RawAt.cell Hb.out 1
          have p2 : w2.cell? ⟨w.heap.size, 2, none⟩ = some (.slice RA rn rc) := RawAt.cell Hb.out 2
          have p3 : w2.cell? ⟨w.heap.size, 3, none⟩ = some (.slice BA bk bd) := RawAt.cell Hb.out 3
          go_wp2_with fail
          with_reducible refine (CL2.out _ HQ2.out).mono ?_
          rintro e w3 ⟨rfl, b3⟩
          have HQ := Lib.hid (HQ2.out.trans (b3.mono HQ2.out.size))
          have Hb := Lib.hid (RawAt.below Hb.out b3 Hb.out.lt)
          clear b3 p0 p1 p2 p3
          clear HQ2
          have p0 : w3.cell? ⟨w.heap.size, 0, none⟩ = some (.int .i64 f) := RawAt.cell Hb.out 0
          have p1 : w3.cell? ⟨w.heap.size, 1, none⟩ = some (.int .i64 t) := RawAt.cell Hb.out 1
          have p2 : w3.cell? ⟨w.heap.size, 2, none⟩ = some (.slice RA rn rc) := RawAt.cell Hb.out 2
          have p3 : w3.cell? ⟨w.heap.size, 3, none⟩ = some (.slice BA bk bd) := RawAt.cell Hb.out 3
          go_wp2_with fail
          with_reducible refine (CN.out _ HQ.out).mono ?_
          rintro e w4 ⟨p, rfl, hp1, hp2, b4⟩
          obtain ⟨sb, rfl, hs⟩ := hp2 (by first | exact trivial | rfl)
          have HQ := Lib.hid (HQ.out.trans (b4.mono HQ.out.size))
          have Hb := Lib.hid (RawAt.below Hb.out b4 Hb.out.lt)
          have HI4 := Lib.hid hs
          have CW := Lib.hid (wvNew_set HI4.out HOS.out)
          clear b4 hp1 hp2 hs p0 p1 p2 p3 CN
          go_wp2_with fail
          with_reducible refine (CW.out).mono ?_
          rintro e w5 ⟨a5, h5, rfl, hT5, b5⟩
          have HQ := Lib.hid (HQ.out.trans (b5.mono HQ.out.size))
          have Hb := Lib.hid (RawAt.below Hb.out b5 Hb.out.lt)
          have HI5 := Lib.hid (HI4.out.below b5)
          have HT5 := Lib.hid hT5
          clear b5 HI4 CW hT5
          have p0 : w5.cell? ⟨w.heap.size, 0, none⟩ = some (.int .i64 f) := RawAt.cell Hb.out 0
          have p1 : w5.cell? ⟨w.heap.size, 1, none⟩ = some (.int .i64 t) := RawAt.cell Hb.out 1
          have p2 : w5.cell? ⟨w.heap.size, 2, none⟩ = some (.slice RA rn rc) := RawAt.cell Hb.out 2
          have p3 : w5.cell? ⟨w.heap.size, 3, none⟩ = some (.slice BA bk bd) := RawAt.cell Hb.out 3
          have x6 : Below w5.heap.size w5 (w5.alloc (.cells #[.int .i64 f, .int .i64 t] 38)) := (Below.refl _ _).alloc (Nat.le_refl _) _
          have Ha : Hid (RawAt 38 (w5.alloc (.cells #[.int .i64 f, .int .i64 t] 38)) w5.heap.size #[.int .i64 f, .int .i64 t]) := Lib.hid (heap_alloc_new w5 _)
          have HQ := Lib.hid (HQ.out.trans (x6.mono HQ.out.size))
          have CSS := Lib.hid (CS.out sb _ HQ.out (HI5.out.below x6))
          have HI6 := Lib.hid (HI5.out.below x6)
          have HT6 := Lib.hid (HT5.out.below x6)
          have hba : w.heap.size < w5.heap.size := RawAt.lt Hb.out
          have Hb := Lib.hid (RawAt.below Hb.out x6 Hb.out.lt)
          have q2 : (w5.alloc (.cells #[.int .i64 f, .int .i64 t] 38)).cell? ⟨w.heap.size, 2, none⟩ = some (.slice RA rn rc) := RawAt.cell Hb.out 2
          have q3 : (w5.alloc (.cells #[.int .i64 f, .int .i64 t] 38)).cell? ⟨w.heap.size, 3, none⟩ = some (.slice BA bk bd) := RawAt.cell Hb.out 3
          clear x6 CS HI5 HT5
          go_wp2_with fail
          with_reducible refine (CSS.out).mono ?_
          rintro e w7 ⟨pt, rfl, hq1, hq2, b7⟩
          have HQ1 := Lib.hid hq1
          have HQ2 := Lib.hid hq2
          have HQ := Lib.hid (HQ.out.trans (b7.mono HQ.out.size))
          have HI7 := Lib.hid (HI6.out.below b7)
          have HT7 := Lib.hid (HT6.out.below b7)
          have Hb := Lib.hid (RawAt.below Hb.out b7 Hb.out.lt)
          have Ha := Lib.hid (RawAt.below Ha.out b7 (RawAt.lt Ha.out))
          clear b7 hq1 hq2 CSS HI6 HT6 p0 p1 p2 p3 q2 q3
          generalize w5.heap.size = ba at *
          go_upto_region 9 with fail
          go_cut [13] from 14 (fun s13 wx => ∃ (bz : Nat) (nn : Int) (A3 : Option Addr) (m3 c3 : Nat), s13 = .pointer (some ⟨bz, 0, none⟩) ∧ Hid (RawAt 33 wx bz #[.int .i64 nn, .slice A3 m3 c3, .int .i64 rs]) ∧ Hid (rs = 0 → nn = n ∧ o2.length = m3 ∧ RowsAt encI 5 wx A3 o2) ∧ Hid (RawAt 25 wx w.heap.size #[.int .i64 f, .int .i64 t, .slice RA rn rc, .slice BA bk bd]) ∧ Hid (RawAt 38 wx ba #[.int .i64 f, .int .i64 t]) ∧ Hid (Below w7.heap.size w7 wx))
          case first =>
            have Rb0 := Hb.out
            have Ra0 := Ha.out
            have hW : Below w7.heap.size w7 w7.drew := (Below.refl _ _).drew
            have MK : Hid (∀ V : World, RawAt 25 V w.heap.size #[.int .i64 f, .int .i64 t, .slice RA rn rc, .slice BA bk bd] → (fun V => V.cell? ⟨w.heap.size, 2, none⟩ = some (.slice RA rn rc) ∧ V.cell? ⟨w.heap.size, 3, none⟩ = some (.slice BA bk bd)) V) := Lib.hid fun V h => ⟨RawAt.cell h 2, RawAt.cell h 3⟩
            refine wp_region_noPanic ?_
            refine wp_region_held_drew (S := fun V => V.cell? ⟨w.heap.size, 2, none⟩ = some (.slice RA rn rc) ∧ V.cell? ⟨w.heap.size, 3, none⟩ = some (.slice BA bk bd)) (by kernel_rfl) (MK.out _ Hb.out) (fun hHeld => ?_)
            have Rb : RawAt 25 w7.drew w.heap.size #[.int .i64 f, .int .i64 t, .slice RA rn rc, .slice BA bk bd] := Rb0
            have Ra : RawAt 38 w7.drew ba #[.int .i64 f, .int .i64 t] := Ra0
            refine wpAnyH_take (i := 0) (v := ?_) rfl (by kernel_rfl) (by kernel_rfl) (by kernel_rfl) (fun _ _ _ h => h) (Or.inl ⟨by rfl, ?_⟩) hHeld ?_
            rotate_left
            · intro w hSw
              (try dsimp only at hSw)
              go_simp
              try with_reducible rfl
            go_simp
            refine wpAnyH_take (i := 1) (v := ?_) rfl (by kernel_rfl) (by kernel_rfl) (by kernel_rfl) (fun _ _ _ h => h) (Or.inl ⟨by rfl, ?_⟩) hHeld ?_
            rotate_left
            · intro w hSw
              (try dsimp only at hSw)
              go_simp
              try with_reducible rfl
            go_simp
            refine wpAnyH_take (i := 3) (v := ?_) rfl (by kernel_rfl) (by kernel_rfl) (by kernel_rfl) (fun _ _ _ h => h) (Or.inl ⟨by rfl, ?_⟩) hHeld ?_
            rotate_left
            · intro w hSw
              (try dsimp only at hSw)
              go_simp
              try with_reducible rfl
            go_simp
            refine wpAnyH_take (i := 4) (v := ?_) rfl (by kernel_rfl) (by kernel_rfl) (by kernel_rfl) (fun _ _ _ h => h) (Or.inl ⟨by rfl, ?_⟩) hHeld ?_
            rotate_left
            · intro w hSw
              (try dsimp only at hSw)
              go_simp
              try with_reducible rfl
            go_simp
            refine wpAnyH_take (i := 5) (v := ?_) rfl (by kernel_rfl) (by kernel_rfl) (by kernel_rfl) (fun _ _ _ h => h) (Or.inl ⟨by rfl, ?_⟩) hHeld ?_
            rotate_left
            · intro w hSw
              (try dsimp only at hSw)
              go_simp
              try with_reducible rfl
            go_simp
            refine wpAnyH_take (i := 6) (v := ?_) rfl (by kernel_rfl) (by kernel_rfl) (by kernel_rfl) (fun _ _ _ h => h) (Or.inl ⟨by rfl, ?_⟩) hHeld ?_
            rotate_left
            · intro w hSw
              (try dsimp only at hSw)
              go_simp
              try with_reducible rfl
            go_simp
            refine wpAnyH_ready (rs := [2, 8]) (by kernel_rfl) (by simp) ?_
            refine AllReadyH.cons rfl (fun K hK => ?_) (AllReadyH.cons rfl (fun K hK => ?_) AllReadyH.nil)
            · go_simp
              go_wp2_with (first | (go_at_call 7; ((refine (CRN.out _ (HQ.out.trans (hW.mono HQ.out.size))).mono ?_); rintro e wN ⟨A2, c2, rfl, hR2, b9⟩)))
              have Rb := RawAt.below Rb b9 (RawAt.lt Rb)
              have Ra := RawAt.below Ra b9 (RawAt.lt Ra)
              have hW := hW.trans (b9.mono hW.size)
              clear b9
              refine hK.out _ _ (by with_reducible exact MK.out _ Rb) (fun hHeld => ?_)
              clear hK K
              go_simp
              refine wpAnyH_ready (rs := [7, 8]) (by kernel_rfl) (by simp) ?_
              refine AllReadyH.cons rfl (fun K hK => ?_) (AllReadyH.cons rfl (fun K hK => ?_) AllReadyH.nil)
              · go_simp
                go_wp2_with (first | (go_at_call 10; ((refine (CSR.out A2 c2 _ hR2 (HQ.out.trans (hW.mono HQ.out.size))).mono ?_); rintro e wH ⟨nn, A3, m3, c3, rfl, hR3, b9⟩)))
                have Rb := RawAt.below Rb b9 (RawAt.lt Rb)
                have Ra := RawAt.below Ra b9 (RawAt.lt Ra)
                have hW := hW.trans (b9.mono hW.size)
                clear b9
                refine hK.out _ _ (by with_reducible exact MK.out _ Rb) (fun hHeld => ?_)
                clear hK K
                go_simp
                refine wpAnyH_ready (rs := [8]) (by kernel_rfl) (by simp) ?_
                refine AllReadyH.cons rfl (fun K hK => ?_) ?_
                rotate_left
                · exact AllReadyH.nil
                go_simp
                go_wp2_with (fail)
                have Rb : RawAt 25 (wH.alloc (.cells weZ 33)) w.heap.size #[.int .i64 f, .int .i64 t, .slice RA rn rc, .slice BA bk bd] := (RawAt.below Rb ((Below.refl wH.heap.size wH).alloc (Nat.le_refl _) (.cells weZ 33)) (RawAt.lt Rb) : RawAt 25 (wH.alloc (.cells weZ 33)) w.heap.size #[.int .i64 f, .int .i64 t, .slice RA rn rc, .slice BA bk bd])
                have Ra : RawAt 38 (wH.alloc (.cells weZ 33)) ba #[.int .i64 f, .int .i64 t] := (RawAt.below Ra ((Below.refl wH.heap.size wH).alloc (Nat.le_refl _) (.cells weZ 33)) (RawAt.lt Ra) : RawAt 38 (wH.alloc (.cells weZ 33)) ba #[.int .i64 f, .int .i64 t])
                have RZ : RawAt 33 (wH.alloc (.cells weZ 33)) wH.heap.size weZ := heap_alloc_new wH _
                have hR3 : rs = 0 → nn = n ∧ o2.length = m3 ∧ RowsAt encI 5 (wH.alloc (.cells weZ 33)) A3 o2 := fun h => ⟨(hR3 h).1, (hR3 h).2.1, (hR3 h).2.2.below ((Below.refl wH.heap.size wH).alloc (Nat.le_refl _) (.cells weZ 33))⟩
                have hltZ : w.heap.size < wH.heap.size := by have := hW.size; have := RawAt.lt Hb.out; omega
                have hlaZ : ba < wH.heap.size := by have := hW.size; have := RawAt.lt Ha.out; omega
                have hleZ : w7.heap.size ≤ wH.heap.size := by have := hW.size; omega
                have hW : Below w7.heap.size w7 (wH.alloc (.cells weZ 33)) := hW.trans (((Below.refl wH.heap.size wH).alloc (Nat.le_refl _) (.cells weZ 33)).mono hW.size)
                refine hK.out _ _ (by with_reducible exact MK.out _ Rb) (fun hHeld => ?_)
                clear hK K
                go_simp
                refine wpAnyH_ready (rs := [9]) (by kernel_rfl) (by simp) ?_
                refine AllReadyH.cons rfl (fun K hK => ?_) ?_
                rotate_left
                · exact AllReadyH.nil
                have RbS := raw_row_ne Rb RZ (Nat.ne_of_lt hltZ) #[.int .i64 nn, .slice A3 m3 c3, .int .i64 rs]
                have RaS := raw_row_ne Ra RZ (Nat.ne_of_lt hlaZ) #[.int .i64 nn, .slice A3 m3 c3, .int .i64 rs]
                have hR4 := fun h => (⟨(hR3 h).1, (hR3 h).2.1, rows_row3' (hR3 h).2.2 RZ rfl #[.int .i64 nn, .slice A3 m3 c3, .int .i64 rs]⟩ : nn = n ∧ o2.length = m3 ∧ RowsAt encI 5 _ A3 o2)
                refine step_store_row rfl 33 _ _ rfl wH.heap.size #[.int .i64 nn, .slice A3 m3 c3, .int .i64 rs] rfl rfl RZ (by kernel_rfl) rfl (by simp [Value.oneCell']) ?_
                refine hK.out _ _ (by with_reducible exact MK.out _ RbS) (fun hHeld => ?_)
                clear hK K
                go_simp
                refine wpAnyH_done (by kernel_rfl) ?_ _
                refine NoPanic.normal ?_
                go_wp2_with fail
                have RN := raw_row RZ #[.int .i64 nn, .slice A3 m3 c3, .int .i64 rs]
                have HN := Lib.hid (below_setRow (g := wH.heap.size) hW hleZ #[.int .i64 nn, .slice A3 m3 c3, .int .i64 rs])
                go_meet
                exact ⟨wH.heap.size, nn, A3, m3, c3, rfl, Lib.hid RN, Lib.hid hR4, Lib.hid RbS, Lib.hid RaS, HN⟩
              · go_simp
                go_wp2_with (fail)
                have Rb : RawAt 25 (wN.alloc (.cells weZ 33)) w.heap.size #[.int .i64 f, .int .i64 t, .slice RA rn rc, .slice BA bk bd] := (RawAt.below Rb ((Below.refl wN.heap.size wN).alloc (Nat.le_refl _) (.cells weZ 33)) (RawAt.lt Rb) : RawAt 25 (wN.alloc (.cells weZ 33)) w.heap.size #[.int .i64 f, .int .i64 t, .slice RA rn rc, .slice BA bk bd])
                have Ra : RawAt 38 (wN.alloc (.cells weZ 33)) ba #[.int .i64 f, .int .i64 t] := (RawAt.below Ra ((Below.refl wN.heap.size wN).alloc (Nat.le_refl _) (.cells weZ 33)) (RawAt.lt Ra) : RawAt 38 (wN.alloc (.cells weZ 33)) ba #[.int .i64 f, .int .i64 t])
                have RZ : RawAt 33 (wN.alloc (.cells weZ 33)) wN.heap.size weZ := heap_alloc_new wN _
                have hR2 : RowsAt encI 5 (wN.alloc (.cells weZ 33)) A2 o := hR2.below ((Below.refl wN.heap.size wN).alloc (Nat.le_refl _) (.cells weZ 33))
                have hltZ : w.heap.size < wN.heap.size := by have := hW.size; have := RawAt.lt Hb.out; omega
                have hlaZ : ba < wN.heap.size := by have := hW.size; have := RawAt.lt Ha.out; omega
                have hleZ : w7.heap.size ≤ wN.heap.size := by have := hW.size; omega
                have hW : Below w7.heap.size w7 (wN.alloc (.cells weZ 33)) := hW.trans (((Below.refl wN.heap.size wN).alloc (Nat.le_refl _) (.cells weZ 33)).mono hW.size)
                refine hK.out _ _ (by with_reducible exact MK.out _ Rb) (fun hHeld => ?_)
                clear hK K
                go_simp
                refine wpAnyH_ready (rs := [7]) (by kernel_rfl) (by simp) ?_
                refine AllReadyH.cons rfl (fun K hK => ?_) ?_
                rotate_left
                · exact AllReadyH.nil
                go_simp
                go_wp2_with (first | (go_at_call 10; ((refine (CSR.out A2 c2 _ hR2 (HQ.out.trans (hW.mono HQ.out.size))).mono ?_); rintro e wH ⟨nn, A3, m3, c3, rfl, hR3, b9⟩)))
                have Rb := RawAt.below Rb b9 (RawAt.lt Rb)
                have Ra := RawAt.below Ra b9 (RawAt.lt Ra)
                have RZ := RawAt.below RZ b9 (RawAt.lt RZ)
                have hW := hW.trans (b9.mono hW.size)
                clear b9
                refine hK.out _ _ (by with_reducible exact MK.out _ Rb) (fun hHeld => ?_)
                clear hK K
                go_simp
                refine wpAnyH_ready (rs := [9]) (by kernel_rfl) (by simp) ?_
                refine AllReadyH.cons rfl (fun K hK => ?_) ?_
                rotate_left
                · exact AllReadyH.nil
                have RbS := raw_row_ne Rb RZ (Nat.ne_of_lt hltZ) #[.int .i64 nn, .slice A3 m3 c3, .int .i64 rs]
                have RaS := raw_row_ne Ra RZ (Nat.ne_of_lt hlaZ) #[.int .i64 nn, .slice A3 m3 c3, .int .i64 rs]
                have hR4 := fun h => (⟨(hR3 h).1, (hR3 h).2.1, rows_row3' (hR3 h).2.2 RZ rfl #[.int .i64 nn, .slice A3 m3 c3, .int .i64 rs]⟩ : nn = n ∧ o2.length = m3 ∧ RowsAt encI 5 _ A3 o2)
                refine step_store_row rfl 33 _ _ rfl wN.heap.size #[.int .i64 nn, .slice A3 m3 c3, .int .i64 rs] rfl rfl RZ (by kernel_rfl) rfl (by simp [Value.oneCell']) ?_
                refine hK.out _ _ (by with_reducible exact MK.out _ RbS) (fun hHeld => ?_)
                clear hK K
                go_simp
                refine wpAnyH_done (by kernel_rfl) ?_ _
                refine NoPanic.normal ?_
                go_wp2_with fail
                have RN := raw_row RZ #[.int .i64 nn, .slice A3 m3 c3, .int .i64 rs]
                have HN := Lib.hid (below_setRow (g := wN.heap.size) hW hleZ #[.int .i64 nn, .slice A3 m3 c3, .int .i64 rs])
                go_meet
                exact ⟨wN.heap.size, nn, A3, m3, c3, rfl, Lib.hid RN, Lib.hid hR4, Lib.hid RbS, Lib.hid RaS, HN⟩
            · go_simp
              go_wp2_with (fail)
              have Rb : RawAt 25 (w7.alloc (.cells weZ 33)).drew w.heap.size #[.int .i64 f, .int .i64 t, .slice RA rn rc, .slice BA bk bd] := (RawAt.below Rb0 ((Below.refl w7.heap.size w7).alloc (Nat.le_refl _) (.cells weZ 33)) (RawAt.lt Rb0) : RawAt 25 (w7.alloc (.cells weZ 33)) w.heap.size #[.int .i64 f, .int .i64 t, .slice RA rn rc, .slice BA bk bd])
              have Ra : RawAt 38 (w7.alloc (.cells weZ 33)).drew ba #[.int .i64 f, .int .i64 t] := (RawAt.below Ra0 ((Below.refl w7.heap.size w7).alloc (Nat.le_refl _) (.cells weZ 33)) (RawAt.lt Ra0) : RawAt 38 (w7.alloc (.cells weZ 33)) ba #[.int .i64 f, .int .i64 t])
              have RZ : RawAt 33 (w7.alloc (.cells weZ 33)).drew w7.heap.size weZ := heap_alloc_new w7 _
              have hltZ : w.heap.size < w7.heap.size := RawAt.lt Hb.out
              have hlaZ : ba < w7.heap.size := RawAt.lt Ha.out
              have hleZ : w7.heap.size ≤ w7.heap.size := Nat.le_refl _
              have hW : Below w7.heap.size w7 (w7.alloc (.cells weZ 33)).drew := (((Below.refl w7.heap.size w7).alloc (Nat.le_refl _) (.cells weZ 33))).drew
              refine hK.out _ _ (by with_reducible exact MK.out _ Rb) (fun hHeld => ?_)
              clear hK K
              go_simp
              refine wpAnyH_ready (rs := [2]) (by kernel_rfl) (by simp) ?_
              refine AllReadyH.cons rfl (fun K hK => ?_) ?_
              rotate_left
              · exact AllReadyH.nil
              go_simp
              go_wp2_with (first | (go_at_call 7; ((refine (CRN.out _ (HQ.out.trans (hW.mono HQ.out.size))).mono ?_); rintro e wN ⟨A2, c2, rfl, hR2, b9⟩)))
              have Rb := RawAt.below Rb b9 (RawAt.lt Rb)
              have Ra := RawAt.below Ra b9 (RawAt.lt Ra)
              have RZ := RawAt.below RZ b9 (RawAt.lt RZ)
              have hW := hW.trans (b9.mono hW.size)
              clear b9
              refine hK.out _ _ (by with_reducible exact MK.out _ Rb) (fun hHeld => ?_)
              clear hK K
              go_simp
              refine wpAnyH_ready (rs := [7]) (by kernel_rfl) (by simp) ?_
              refine AllReadyH.cons rfl (fun K hK => ?_) ?_
              rotate_left
              · exact AllReadyH.nil
              go_simp
              go_wp2_with (first | (go_at_call 10; ((refine (CSR.out A2 c2 _ hR2 (HQ.out.trans (hW.mono HQ.out.size))).mono ?_); rintro e wH ⟨nn, A3, m3, c3, rfl, hR3, b9⟩)))
              have Rb := RawAt.below Rb b9 (RawAt.lt Rb)
              have Ra := RawAt.below Ra b9 (RawAt.lt Ra)
              have RZ := RawAt.below RZ b9 (RawAt.lt RZ)
              have hW := hW.trans (b9.mono hW.size)
              clear b9
              refine hK.out _ _ (by with_reducible exact MK.out _ Rb) (fun hHeld => ?_)
              clear hK K
              go_simp
              refine wpAnyH_ready (rs := [9]) (by kernel_rfl) (by simp) ?_
              refine AllReadyH.cons rfl (fun K hK => ?_) ?_
              rotate_left
              · exact AllReadyH.nil
              have RbS := raw_row_ne Rb RZ (Nat.ne_of_lt hltZ) #[.int .i64 nn, .slice A3 m3 c3, .int .i64 rs]
              have RaS := raw_row_ne Ra RZ (Nat.ne_of_lt hlaZ) #[.int .i64 nn, .slice A3 m3 c3, .int .i64 rs]
              have hR4 := fun h => (⟨(hR3 h).1, (hR3 h).2.1, rows_row3' (hR3 h).2.2 RZ rfl #[.int .i64 nn, .slice A3 m3 c3, .int .i64 rs]⟩ : nn = n ∧ o2.length = m3 ∧ RowsAt encI 5 _ A3 o2)
              refine step_store_row rfl 33 _ _ rfl w7.heap.size #[.int .i64 nn, .slice A3 m3 c3, .int .i64 rs] rfl rfl RZ (by kernel_rfl) rfl (by simp [Value.oneCell']) ?_
              refine hK.out _ _ (by with_reducible exact MK.out _ RbS) (fun hHeld => ?_)
              clear hK K
              go_simp
              refine wpAnyH_done (by kernel_rfl) ?_ _
              refine NoPanic.normal ?_
              go_wp2_with fail
              have RN := raw_row RZ #[.int .i64 nn, .slice A3 m3 c3, .int .i64 rs]
              have HN := Lib.hid (below_setRow (g := w7.heap.size) hW hleZ #[.int .i64 nn, .slice A3 m3 c3, .int .i64 rs])
              go_meet
              exact ⟨w7.heap.size, nn, A3, m3, c3, rfl, Lib.hid RN, Lib.hid hR4, Lib.hid RbS, Lib.hid RaS, HN⟩
          case rest =>
            obtain ⟨bz, nn, A3, m3, c3, rfl, HRZ, HR3, HRb, HRa, HB⟩ := hcut
            have HQc := Lib.hid (HQ.out.trans (HB.out.mono HQ.out.size))
            by_cases hz2 : rs = 0
            · subst hz2
              obtain ⟨hnn, hm3, hA3⟩ := HR3.out (by first | exact trivial | rfl)
              obtain ⟨sq, rfl, hI2⟩ := HQ2.out (by first | exact trivial | rfl)
              have HOS2 := Lib.hid (HTX.out (by first | exact trivial | rfl))
              have hnn := hnn.symm
              subst hnn
              obtain ⟨N, rfl⟩ : ∃ N : Nat, n = (N : Int) := ⟨n.toNat, by omega⟩
              have HIc := Lib.hid (HI7.out.below HB.out)
              have HI2c := Lib.hid (hI2.below HB.out)
              have HTc := Lib.hid (HT7.out.below HB.out)
              have Hbc := HRb
              have Hac := HRa
              have HZc := HRZ
              have HA3 := Lib.hid hA3
              have HM3 := Lib.hid hm3
              have hm60 : m3 ≤ 60 := by rw [← hm3]; exact HOS2.out.len
              obtain ⟨_, _, _, d4, _⟩ := wv_doc HOS.out.wv
              have HD4 := Lib.hid d4
              have CFT := Lib.hid fun (W : World) (r : Bool) (hr : r = true ↔ 0 ≤ f ∧ f ≤ t ∧ t ≤ (N : Int)) => fits14_any N f t W ⟨by omega, by omega⟩ r hr
              have HW0 : Hid (Below wc.heap.size wc wc) := Lib.hid (Below.refl _ _)
              clear HQ1 HQ2 HTX HR3 HRZ HRb HRa HI7 HT7 hI2 hA3 hm3 d4 Hb Ha HQ HB
              have a0 : wc.cell? ⟨ba, 0, none⟩ = some (.int .i64 f) := RawAt.cell (RawAt.below Hac.out HW0.out (RawAt.lt Hac.out)) 0
              have a1 : wc.cell? ⟨ba, 1, none⟩ = some (.int .i64 t) := RawAt.cell (RawAt.below Hac.out HW0.out (RawAt.lt Hac.out)) 1
              by_cases gf : 0 ≤ f ∧ f ≤ t ∧ t ≤ (N : Int)
              · skip
                have CU := Lib.hid (wvUpd_fit HTc.out HOS.out HOS2.out (fun W' hW' => iLen_any (HI2c.out.below hW')) (fun W' hW' => iWithin_any (HI2c.out.below hW') (Nat.le_trans HOS2.out.len (by omega)) _ _) gf.1 gf.2.1 gf.2.2 gf.2.1 gf.2.2 rfl)
                have CFT := Lib.hid fun (W : World) => CFT.out W true ⟨fun _ => gf, fun _ => rfl⟩
                have GF := Lib.hid gf
                clear gf
                go_wp2_with fail
                with_reducible refine (CU.out).mono ?_
                rintro e w10 ⟨a10, h10, L10, rfl, hT10, hL10, b10⟩
                have HL10 := Lib.hid hL10
                have HT10 := Lib.hid hT10
                have HW10 := Lib.hid b10
                clear b10 hT10 hL10 CU a0 a1
                have a0 : w10.cell? ⟨ba, 0, none⟩ = some (.int .i64 f) := RawAt.cell (RawAt.below Hac.out HW10.out (RawAt.lt Hac.out)) 0
                have a1 : w10.cell? ⟨ba, 1, none⟩ = some (.int .i64 t) := RawAt.cell (RawAt.below Hac.out HW10.out (RawAt.lt Hac.out)) 1
                go_wp2_with fail
                with_reducible refine (CFT.out _).mono ?_
                rintro e w11 ⟨rfl, b11⟩
                have HW11 := Lib.hid (HW10.out.trans (b11.mono HW10.out.size))
                have HT11 := Lib.hid (HT10.out.below b11)
                clear b11 a0 a1 HT10 CFT
                go_wp2_with fail
                with_reducible refine (CRN.out _ (HQc.out.trans (HW11.out.mono HQc.out.size))).mono ?_
                rintro e w12 ⟨A2, c2, rfl, hR2, b12⟩
                have HW12 := Lib.hid (HW11.out.trans (b12.mono HW11.out.size))
                have HT12 := Lib.hid (HT11.out.below b12)
                have CY := Lib.hid (is14_yes (HTc.out.below HW12.out) HOS.out.wv 0 A2 m c2 hR2 HOL.out (by omega) (by omega) (fun a ha => (HOS.out.each a ha).2))
                clear b12 hR2 HT11
                go_wp2_with fail
                with_reducible refine (CY.out).mono ?_
                rintro e w13 ⟨rfl, b13⟩
                have HW13 := Lib.hid (HW12.out.trans (b13.mono HW12.out.size))
                have HT13 := Lib.hid (HT12.out.below b13)
                have CA := Lib.hid (iAll_any (HIc.out.below HW13.out) (Nat.le_trans HOS.out.len (by omega)))
                clear b13 CY HT12 CRN CSR
                go_wp2_with fail
                with_reducible refine (CA.out).mono ?_
                rintro e w14 ⟨v14, rfl, hv14, b14⟩
                have HW14 := Lib.hid (HW13.out.trans (b14.mono HW13.out.size))
                have HT14 := Lib.hid (HT13.out.below b14)
                obtain ⟨A4, c4, rfl, hR4, _, _⟩ := rows_of_own encI_len (by omega) hv14
                have HR := Lib.hid hR4
                clear b14 hv14 hR4 CA HT13
                rw [HOL.out]
                go_wp2_with fail
                go_loopg [16, 135] m (fun g v i wr => ∃ (k : Nat), i = .int .i64 k ∧ k ≤ m ∧ m - k ≤ g ∧ Hid (Below w14.heap.size w14 wr) ∧ Hid (wr.ownsRow w14.heap.size 48 5 v (wbes f t (o.take k)).length (kfl encI (wbes f t (o.take k)))))
                case atStart => exact ⟨0, rfl, by omega, by omega, Lib.hid (Below.refl _ _), Lib.hid (World.ownsRow_nil _ _ _ _)⟩
                case round =>
                  obtain ⟨k, rfl, h1, h2, hb, hown⟩ := hrel
                  by_cases hlt : k < m
                  · skip
                    have hkl : k < o.length := by rw [HOL.out]; exact hlt
                    obtain ⟨bA, off, rfl, hbA, hce⟩ := (HR.out.below hb.out).at1 hkl
                    have f0 := hce 0 (by omega)
                    have f1 := hce 1 (by omega)
                    have f2 := hce 2 (by omega)
                    have f3 := hce 3 (by omega)
                    have f4 := hce 4 (by omega)
                    rw [Nat.add_zero] at f0
                    have htk : o.take (k + 1) = o.take k ++ [o[k]] := by rw [List.take_succ_eq_append_getElem hkl]
                    have hws := wbes_snoc f t (o.take k) o[k]
                    rw [← htk] at hws
                    have HWS := Lib.hid hws
                    have hwl : (wbes f t (o.take k)).length ≤ (o.take k).length := List.length_filter_le _ _
                    rw [List.length_take] at hwl
                    clear htk hws hce
                    generalize o[k] = a at *
                    simp [encI] at f0 f1 f2 f3 f4
                    have i1 : (0 : Int) ≤ k := by omega
                    have i2 : (k : Int) < m := by omega
                    have x3 : Below wr.heap.size wr (wr.alloc (.cells #[.int .i64 a.id, .int .i64 a.pl, .int .i64 a.bi, .int .i64 a.ky, .string a.tx] 48)) := (Below.refl _ _).alloc (Nat.le_refl _) _
                    have R3 : RawAt 48 (wr.alloc (.cells #[.int .i64 a.id, .int .i64 a.pl, .int .i64 a.bi, .int .i64 a.ky, .string a.tx] 48)) wr.heap.size #[.int .i64 a.id, .int .i64 a.pl, .int .i64 a.bi, .int .i64 a.ky, .string a.tx] := heap_alloc_new wr _
                    have e0 := RawAt.cell R3 0
                    have e1 := RawAt.cell R3 1
                    have e2 := RawAt.cell R3 2
                    have e3 := RawAt.cell R3 3
                    have e4 := RawAt.cell R3 4
                    simp at e0 e1 e2 e3 e4
                    have HX := Lib.hid (HW14.out.trans (hb.out.mono HW14.out.size))
                    have hXb := RawAt.below Hbc.out HX.out (RawAt.lt Hbc.out)
                    have hYb := RawAt.below hXb x3 (RawAt.lt hXb)
                    have p0 : (wr.alloc (.cells #[.int .i64 a.id, .int .i64 a.pl, .int .i64 a.bi, .int .i64 a.ky, .string a.tx] 48)).cell? ⟨w.heap.size, 0, none⟩ = some (.int .i64 f) := RawAt.cell hYb 0
                    have p1 : (wr.alloc (.cells #[.int .i64 a.id, .int .i64 a.pl, .int .i64 a.bi, .int .i64 a.ky, .string a.tx] 48)).cell? ⟨w.heap.size, 1, none⟩ = some (.int .i64 t) := RawAt.cell hYb 1
                    clear hXb hYb
                    have HB3 := Lib.hid (hb.out.trans (x3.mono hb.out.size))
                    have HO3 := Lib.hid (own_below hown.out x3)
                    obtain ⟨A9, c9, rfl⟩ := own_form hown.out
                    have hz3 : (wr.alloc (.cells #[.int .i64 a.id, .int .i64 a.pl, .int .i64 a.bi, .int .i64 a.ky, .string a.tx] 48)).heap.size = wr.heap.size + 1 := by simp
                    generalize hW3 : wr.alloc (.cells #[.int .i64 a.id, .int .i64 a.pl, .int .i64 a.bi, .int .i64 a.ky, .string a.tx] 48) = W3 at HB3 HO3 hz3
                    have x4 : Below W3.heap.size W3 (W3.alloc (.cells #[.int .i64 a.id, .int .i64 a.pl, .int .i64 a.bi, .int .i64 a.ky, .string a.tx] 48)) := (Below.refl _ _).alloc (Nat.le_refl _) _
                    have R4 : RawAt 48 (W3.alloc (.cells #[.int .i64 a.id, .int .i64 a.pl, .int .i64 a.bi, .int .i64 a.ky, .string a.tx] 48)) W3.heap.size #[.int .i64 a.id, .int .i64 a.pl, .int .i64 a.bi, .int .i64 a.ky, .string a.tx] := heap_alloc_new W3 _
                    have HO4 := Lib.hid (own_below HO3.out x4)
                    have HS4 : Hid (RowsAt encI 5 (W3.alloc (.cells #[.int .i64 a.id, .int .i64 a.pl, .int .i64 a.bi, .int .i64 a.ky, .string a.tx] 48)) (some ⟨wr.heap.size + 1, 0, none⟩) [a]) := Lib.hid (by rw [← hz3]; exact rows_of_block (enc := encI) (k := 5) encI_len R4 (l := [a]) rfl)
                    have HB4 := Lib.hid (HB3.out.trans (x4.mono HB3.out.size))
                    have hlt4 := hown.out.lt
                    have HW3 := Lib.hid hW3
                    clear R3 x3 hown hb x4 R4 hW3 hz3
                    have HN := HWS.out
                    by_cases g1 : a.pl < f
                    · have k1 : decide (a.pl < f) = true := decide_eq_true g1
                      rw [if_pos (.inl g1)] at HN
                      have HN := Lib.hid HN
                      clear HWS
                      rw [← HW3.out] at HO4 HS4 HB4
                      go_wp2_with (at_builtin; refine wpList_appK (enc := encI) in_slt encI_len (by omega) rfl (.tmp 151) (.tmp 153) rfl (base := w14.heap.size) (v := .slice A9 (wbes f t (o.take k)).length c9) rfl HO4.out _ 1 1 [a] rfl HS4.out ⟨Nat.le_refl _, fun h => by cases h⟩ rfl (kfl_one' encI_one _) (by simp only [maxLen]; omega) (by omega) HB4.out.size ?_; intro v5 w5' hown5 hg5 hor5)
                      have hb5 := Lib.hid (HB4.out.grown hg5 HB4.out.size (fun j hj => (hlt4 j hj).1))
                      have hO5 : Hid (w5'.ownsRow w14.heap.size 48 5 v5 (wbes f t (o.take (k + 1))).length (kfl encI (wbes f t (o.take (k + 1))))) := Lib.hid (by rw [HN.out, kfl_append, List.length_append]; exact hown5)
                      clear hown5 hg5 hor5 HO4 HS4 HB4 HB3 HO3
                      go_wp2
                      go_roundg (gk - 1)
                      case measure => omega
                      case rel => exact ⟨k + 1, by go_num, by omega, by omega, hb5, hO5⟩
                    · have k1 : decide (a.pl < f) = false := decide_eq_false g1
                      by_cases g2 : t < a.pl
                      · have k2 : decide (t < a.pl) = true := decide_eq_true g2
                        rw [if_pos (.inr g2)] at HN
                        have HN := Lib.hid HN
                        clear HWS
                        rw [← HW3.out] at HO4 HS4 HB4
                        go_wp2_with (at_builtin; refine wpList_appK (enc := encI) in_slt encI_len (by omega) rfl (.tmp 151) (.tmp 153) rfl (base := w14.heap.size) (v := .slice A9 (wbes f t (o.take k)).length c9) rfl HO4.out _ 1 1 [a] rfl HS4.out ⟨Nat.le_refl _, fun h => by cases h⟩ rfl (kfl_one' encI_one _) (by simp only [maxLen]; omega) (by omega) HB4.out.size ?_; intro v5 w5' hown5 hg5 hor5)
                        have hb5 := Lib.hid (HB4.out.grown hg5 HB4.out.size (fun j hj => (hlt4 j hj).1))
                        have hO5 : Hid (w5'.ownsRow w14.heap.size 48 5 v5 (wbes f t (o.take (k + 1))).length (kfl encI (wbes f t (o.take (k + 1))))) := Lib.hid (by rw [HN.out, kfl_append, List.length_append]; exact hown5)
                        clear hown5 hg5 hor5 HO4 HS4 HB4 HB3 HO3
                        go_wp2
                        go_roundg (gk - 1)
                        case measure => omega
                        case rel => exact ⟨k + 1, by go_num, by omega, by omega, hb5, hO5⟩
                      · have k2 : decide (t < a.pl) = false := decide_eq_false g2
                        rw [if_neg (by omega)] at HN
                        have HN := Lib.hid HN
                        clear HWS HO4 HS4 HB4
                        rw [← HW3.out] at HB3 HO3
                        go_wp2
                        go_roundg (gk - 1)
                        case measure => omega
                        case rel => exact ⟨k + 1, by go_num, by omega, by omega, HB3, Lib.hid (by rw [HN.out]; exact HO3.out)⟩
                  · obtain rfl : m = k := by omega
                    have e2 : o.take m = o := List.take_of_length_le (by rw [HOL.out]; exact Nat.le_refl _)
                    have ho2 := hown.out
                    rw [e2] at ho2
                    obtain ⟨bs, hbs⟩ : ∃ bs, bs = wbes f t o := ⟨_, rfl⟩
                    rw [← hbs] at ho2
                    obtain ⟨Ab, cb, rfl, hRb, _, _⟩ := rows_of_own encI_len (by omega) ho2
                    have HBS := Lib.hid hbs
                    have HRB := Lib.hid hRb
                    have HWr := Lib.hid (HW14.out.trans (hb.out.mono HW14.out.size))
                    have HVr := Lib.hid hb.out
                    have CB := Lib.hid (iAll_any (HI2c.out.below HWr.out) (Nat.le_trans HOS2.out.len (by omega)))
                    obtain ⟨q, hq⟩ : ∃ q, q = bs.length := ⟨_, rfl⟩
                    have HQL := Lib.hid hq
                    have hqm : q ≤ m := by rw [hq, hbs, ← HOL.out]; exact List.length_filter_le _ _
                    rw [← hq]
                    clear e2 ho2 hown hb hbs hRb hq HR
                    go_wp2_with fail
                    with_reducible refine (CB.out).mono ?_
                    rintro e w15 ⟨v15, rfl, hv15, b15⟩
                    have HW15 := Lib.hid (HWr.out.trans (b15.mono HWr.out.size))
                    have HRB := Lib.hid (HRB.out.below b15)
                    have HV15 := Lib.hid (HVr.out.trans (b15.mono HVr.out.size))
                    obtain ⟨A5, c5, rfl, hR5, _, _⟩ := rows_of_own encI_len (by omega) hv15
                    have HR5 := Lib.hid hR5
                    clear b15 hv15 hR5 CB
                    rw [HM3.out]
                    go_wp2_with fail
                    go_loopg [19, 159] m3 (fun g s i wq => ∃ (j k : Nat), s = .int .i64 k ∧ i = .int .i64 j ∧ j ≤ m3 ∧ m3 - j ≤ g ∧ k ≤ q ∧ Hid (wbes f t (o2.take j) = bs.take k) ∧ Hid (Below w15.heap.size w15 wq))
                    case atStart => exact ⟨0, 0, rfl, rfl, by omega, by omega, by omega, Lib.hid (by simp [wbes]), Lib.hid (Below.refl _ _)⟩
                    case round =>
                      obtain ⟨j, k2, rfl, rfl, h1, h2, h3, hJ, hb⟩ := hrel
                      by_cases hlt : j < m3
                      · skip
                        have hkl : j < o2.length := by rw [HM3.out]; exact hlt
                        obtain ⟨bA, off, rfl, hbA, hce⟩ := (HR5.out.below hb.out).at1 hkl
                        have f0 := hce 0 (by omega)
                        have f1 := hce 1 (by omega)
                        have f2 := hce 2 (by omega)
                        have f3 := hce 3 (by omega)
                        have f4 := hce 4 (by omega)
                        rw [Nat.add_zero] at f0
                        have htk : o2.take (j + 1) = o2.take j ++ [o2[j]] := by rw [List.take_succ_eq_append_getElem hkl]
                        have hws := wbes_snoc f t (o2.take j) o2[j]
                        rw [← htk] at hws
                        have HWS := Lib.hid hws
                        have hwl : (wbes f t (o2.take j)).length ≤ (o2.take j).length := List.length_filter_le _ _
                        rw [List.length_take] at hwl
                        clear htk hws hce
                        generalize o2[j] = a at *
                        simp [encI] at f0 f1 f2 f3 f4
                        have i1 : (0 : Int) ≤ j := by omega
                        have i2 : (j : Int) < m3 := by omega
                        have x3 : Below wr.heap.size wr (wr.alloc (.cells #[.int .i64 a.id, .int .i64 a.pl, .int .i64 a.bi, .int .i64 a.ky, .string a.tx] 48)) := (Below.refl _ _).alloc (Nat.le_refl _) _
                        have R3 : RawAt 48 (wr.alloc (.cells #[.int .i64 a.id, .int .i64 a.pl, .int .i64 a.bi, .int .i64 a.ky, .string a.tx] 48)) wr.heap.size #[.int .i64 a.id, .int .i64 a.pl, .int .i64 a.bi, .int .i64 a.ky, .string a.tx] := heap_alloc_new wr _
                        have e0 := RawAt.cell R3 0
                        have e1 := RawAt.cell R3 1
                        have e2 := RawAt.cell R3 2
                        have e3 := RawAt.cell R3 3
                        have e4 := RawAt.cell R3 4
                        simp at e0 e1 e2 e3 e4
                        have HX := Lib.hid (HW15.out.trans (hb.out.mono HW15.out.size))
                        have hXb := RawAt.below Hbc.out HX.out (RawAt.lt Hbc.out)
                        have hYb := RawAt.below hXb x3 (RawAt.lt hXb)
                        have p0 : (wr.alloc (.cells #[.int .i64 a.id, .int .i64 a.pl, .int .i64 a.bi, .int .i64 a.ky, .string a.tx] 48)).cell? ⟨w.heap.size, 0, none⟩ = some (.int .i64 f) := RawAt.cell hYb 0
                        have p1 : (wr.alloc (.cells #[.int .i64 a.id, .int .i64 a.pl, .int .i64 a.bi, .int .i64 a.ky, .string a.tx] 48)).cell? ⟨w.heap.size, 1, none⟩ = some (.int .i64 t) := RawAt.cell hYb 1
                        clear hXb hYb
                        have HB3 := Lib.hid (hb.out.trans (x3.mono hb.out.size))
                        by_cases g1 : a.pl < f
                        · have k1 : decide (a.pl < f) = true := decide_eq_true g1
                          have HN := Lib.hid (HWS.out.trans (if_pos (Or.inl g1)))
                          clear HWS
                          have HBD := Lib.hid (HB3.out.drew)
                          by_cases gq : k2 < q
                          · have kq : decide ((q : Int) ≤ k2) = false := decide_eq_false (by omega)
                            have kqn : decide (q ≤ k2) = false := decide_eq_false (by omega)
                            have hkb : k2 < bs.length := by rw [← HQL.out]; exact gq
                            obtain ⟨bB, of2, rfl, hbB, hcd⟩ := ((HRB.out.below hb.out).below x3).at1 hkb
                            have d0 := hcd 0 (by omega)
                            have d1 := hcd 1 (by omega)
                            have d2 := hcd 2 (by omega)
                            have d3 := hcd 3 (by omega)
                            have d4 := hcd 4 (by omega)
                            rw [Nat.add_zero] at d0
                            have htk2 : bs.take (k2 + 1) = bs.take k2 ++ [bs[k2]] := by rw [List.take_succ_eq_append_getElem hkb]
                            have HTK := Lib.hid htk2
                            clear hcd htk2
                            generalize bs[k2] = d at *
                            simp [encI] at d0 d1 d2 d3 d4
                            obtain ⟨v0, v1, v2, v3, v4⟩ := d
                            obtain ⟨u0, u1, u2, u3, u4⟩ := a
                            simp only at *
                            have j1 : (0 : Int) ≤ k2 := by omega
                            have j2 : (k2 : Int) < q := by omega
                            go_upto_region 29 with fail
                            have HS : Hid ((fun V => (V.cell? ⟨wr.heap.size, 0, none⟩ = some (.int .i64 u0) ∧ V.cell? ⟨wr.heap.size, 1, none⟩ = some (.int .i64 u1) ∧ V.cell? ⟨wr.heap.size, 2, none⟩ = some (.int .i64 u2) ∧ V.cell? ⟨wr.heap.size, 3, none⟩ = some (.int .i64 u3) ∧ V.cell? ⟨wr.heap.size, 4, none⟩ = some (.string u4)) ∧ (V.cell? ⟨bB, of2 + k2 * 5, none⟩ = some (.int .i64 v0) ∧ V.cell? ⟨bB, of2 + k2 * 5 + 1, none⟩ = some (.int .i64 v1) ∧ V.cell? ⟨bB, of2 + k2 * 5 + 2, none⟩ = some (.int .i64 v2) ∧ V.cell? ⟨bB, of2 + k2 * 5 + 3, none⟩ = some (.int .i64 v3) ∧ V.cell? ⟨bB, of2 + k2 * 5 + 4, none⟩ = some (.string v4))) (wr.alloc (.cells #[.int .i64 u0, .int .i64 u1, .int .i64 u2, .int .i64 u3, .string u4] 48)).drew) := Lib.hid ⟨⟨RawAt.cell (RawAt.drew_ R3) 0, RawAt.cell (RawAt.drew_ R3) 1, RawAt.cell (RawAt.drew_ R3) 2, RawAt.cell (RawAt.drew_ R3) 3, RawAt.cell (RawAt.drew_ R3) 4⟩, ⟨d0, d1, d2, d3, d4⟩⟩
                            clear e0 e1 e2 e3 e4 d0 d1 d2 d3 d4
                            by_cases c0 : v0 = u0
                            · subst c0
                              by_cases c1 : v1 = u1
                              · subst c1
                                by_cases c2 : v2 = u2
                                · subst c2
                                  by_cases c3 : v3 = u3
                                  · subst c3
                                    by_cases c4 : v4 = u4
                                    · subst c4
                                      have HJ3 : Hid (wbes f t (o2.take (j + 1)) = bs.take (k2 + 1)) := Lib.hid (by rw [HN.out, HTK.out, hJ.out])
                                      clear HN HTK
                                      refine wp_region_noPanic ?_
                                      refine wp_region_held_drew (S := (fun V => (V.cell? ⟨wr.heap.size, 0, none⟩ = some (.int .i64 v0) ∧ V.cell? ⟨wr.heap.size, 1, none⟩ = some (.int .i64 v1) ∧ V.cell? ⟨wr.heap.size, 2, none⟩ = some (.int .i64 v2) ∧ V.cell? ⟨wr.heap.size, 3, none⟩ = some (.int .i64 v3) ∧ V.cell? ⟨wr.heap.size, 4, none⟩ = some (.string v4)) ∧ (V.cell? ⟨bB, of2 + k2 * 5, none⟩ = some (.int .i64 v0) ∧ V.cell? ⟨bB, of2 + k2 * 5 + 1, none⟩ = some (.int .i64 v1) ∧ V.cell? ⟨bB, of2 + k2 * 5 + 2, none⟩ = some (.int .i64 v2) ∧ V.cell? ⟨bB, of2 + k2 * 5 + 3, none⟩ = some (.int .i64 v3) ∧ V.cell? ⟨bB, of2 + k2 * 5 + 4, none⟩ = some (.string v4)))) (by kernel_rfl) (HS.out) (fun hHeld => ?_)
                                      refine wpAnyH_take (i := 0) (v := ?_) rfl (by kernel_rfl) (by kernel_rfl) (by kernel_rfl) (fun _ _ _ h => h) (Or.inl ⟨by rfl, ?_⟩) hHeld ?_
                                      rotate_left
                                      · intro w hSw
                                        (try dsimp only at hSw)
                                        go_simp
                                        try with_reducible rfl
                                      go_simp
                                      refine wpAnyH_take (i := 1) (v := ?_) rfl (by kernel_rfl) (by kernel_rfl) (by kernel_rfl) (fun _ _ _ h => h) (Or.inl ⟨by rfl, ?_⟩) hHeld ?_
                                      rotate_left
                                      · intro w hSw
                                        (try dsimp only at hSw)
                                        go_simp
                                        try with_reducible rfl
                                      go_simp
                                      refine wpAnyH_take (i := 2) (v := ?_) rfl (by kernel_rfl) (by kernel_rfl) (by kernel_rfl) (fun _ _ _ h => h) (Or.inl ⟨by rfl, ?_⟩) hHeld ?_
                                      rotate_left
                                      · intro w hSw
                                        (try dsimp only at hSw)
                                        go_simp
                                        try with_reducible rfl
                                      go_simp
                                      refine wpAnyH_take (i := 3) (v := ?_) rfl (by kernel_rfl) (by kernel_rfl) (by kernel_rfl) (fun _ _ _ h => h) (Or.inl ⟨by rfl, ?_⟩) hHeld ?_
                                      rotate_left
                                      · intro w hSw
                                        (try dsimp only at hSw)
                                        go_simp
                                        try with_reducible rfl
                                      go_simp
                                      refine wpAnyH_take (i := 4) (v := ?_) rfl (by kernel_rfl) (by kernel_rfl) (by kernel_rfl) (fun _ _ _ h => h) (Or.inl ⟨by rfl, ?_⟩) hHeld ?_
                                      rotate_left
                                      · intro w hSw
                                        (try dsimp only at hSw)
                                        go_simp
                                        try with_reducible rfl
                                      go_simp
                                      refine wpAnyH_take (i := 5) (v := ?_) rfl (by kernel_rfl) (by kernel_rfl) (by kernel_rfl) (fun _ _ _ h => h) (Or.inl ⟨by rfl, ?_⟩) hHeld ?_
                                      rotate_left
                                      · intro w hSw
                                        (try dsimp only at hSw)
                                        go_simp
                                        try with_reducible rfl
                                      go_simp
                                      refine wpAnyH_take (i := 6) (v := ?_) rfl (by kernel_rfl) (by kernel_rfl) (by kernel_rfl) (fun _ _ _ h => h) (Or.inl ⟨by rfl, ?_⟩) hHeld ?_
                                      rotate_left
                                      · intro w hSw
                                        (try dsimp only at hSw)
                                        go_simp
                                        try with_reducible rfl
                                      go_simp
                                      refine wpAnyH_take (i := 7) (v := ?_) rfl (by kernel_rfl) (by kernel_rfl) (by kernel_rfl) (fun _ _ _ h => h) (Or.inl ⟨by rfl, ?_⟩) hHeld ?_
                                      rotate_left
                                      · intro w hSw
                                        (try dsimp only at hSw)
                                        go_simp
                                        try with_reducible rfl
                                      go_simp
                                      refine wpAnyH_take (i := 8) (v := ?_) rfl (by kernel_rfl) (by kernel_rfl) (by kernel_rfl) (fun _ _ _ h => h) (Or.inl ⟨by rfl, ?_⟩) hHeld ?_
                                      rotate_left
                                      · intro w hSw
                                        (try dsimp only at hSw)
                                        go_simp
                                        try with_reducible rfl
                                      go_simp
                                      refine wpAnyH_take (i := 9) (v := ?_) rfl (by kernel_rfl) (by kernel_rfl) (by kernel_rfl) (fun _ _ _ h => h) (Or.inl ⟨by rfl, ?_⟩) hHeld ?_
                                      rotate_left
                                      · intro w hSw
                                        (try dsimp only at hSw)
                                        go_simp
                                        try with_reducible rfl
                                      go_simp
                                      refine wpAnyH_take (i := 10) (v := ?_) rfl (by kernel_rfl) (by kernel_rfl) (by kernel_rfl) (fun _ _ _ h => h) (Or.inl ⟨by rfl, ?_⟩) hHeld ?_
                                      rotate_left
                                      · intro w hSw
                                        (try dsimp only at hSw)
                                        go_simp
                                        try with_reducible rfl
                                      go_simp
                                      refine wpAnyH_take (i := 11) (v := ?_) rfl (by kernel_rfl) (by kernel_rfl) (by kernel_rfl) (fun _ _ _ h => h) (Or.inl ⟨by rfl, ?_⟩) hHeld ?_
                                      rotate_left
                                      · intro w hSw
                                        (try dsimp only at hSw)
                                        go_simp
                                        try with_reducible rfl
                                      go_simp
                                      refine wpAnyH_done (by kernel_rfl) ?_ _
                                      refine NoPanic.normal ?_
                                      go_wp2
                                      go_roundg (gk - 1)
                                      case measure => omega
                                      case rel => exact ⟨j + 1, k2 + 1, by go_num, by go_num, by omega, by omega, by omega, HJ3, HBD⟩
                                    · have z4 : ¬ v4.toList = u4.toList := fun h => c4 (Go.WideShapes.bytes_inj (by rw [← ByteArray.toList_eq, ← ByteArray.toList_eq]; exact h))
                                      refine wp_region_noPanic ?_
                                      refine wp_region_held_drew (S := (fun V => (V.cell? ⟨wr.heap.size, 0, none⟩ = some (.int .i64 v0) ∧ V.cell? ⟨wr.heap.size, 1, none⟩ = some (.int .i64 v1) ∧ V.cell? ⟨wr.heap.size, 2, none⟩ = some (.int .i64 v2) ∧ V.cell? ⟨wr.heap.size, 3, none⟩ = some (.int .i64 v3) ∧ V.cell? ⟨wr.heap.size, 4, none⟩ = some (.string u4)) ∧ (V.cell? ⟨bB, of2 + k2 * 5, none⟩ = some (.int .i64 v0) ∧ V.cell? ⟨bB, of2 + k2 * 5 + 1, none⟩ = some (.int .i64 v1) ∧ V.cell? ⟨bB, of2 + k2 * 5 + 2, none⟩ = some (.int .i64 v2) ∧ V.cell? ⟨bB, of2 + k2 * 5 + 3, none⟩ = some (.int .i64 v3) ∧ V.cell? ⟨bB, of2 + k2 * 5 + 4, none⟩ = some (.string v4)))) (by kernel_rfl) (HS.out) (fun hHeld => ?_)
                                      refine wpAnyH_take (i := 0) (v := ?_) rfl (by kernel_rfl) (by kernel_rfl) (by kernel_rfl) (fun _ _ _ h => h) (Or.inl ⟨by rfl, ?_⟩) hHeld ?_
                                      rotate_left
                                      · intro w hSw
                                        (try dsimp only at hSw)
                                        go_simp
                                        try with_reducible rfl
                                      go_simp
                                      refine wpAnyH_take (i := 1) (v := ?_) rfl (by kernel_rfl) (by kernel_rfl) (by kernel_rfl) (fun _ _ _ h => h) (Or.inl ⟨by rfl, ?_⟩) hHeld ?_
                                      rotate_left
                                      · intro w hSw
                                        (try dsimp only at hSw)
                                        go_simp
                                        try with_reducible rfl
                                      go_simp
                                      refine wpAnyH_take (i := 2) (v := ?_) rfl (by kernel_rfl) (by kernel_rfl) (by kernel_rfl) (fun _ _ _ h => h) (Or.inl ⟨by rfl, ?_⟩) hHeld ?_
                                      rotate_left
                                      · intro w hSw
                                        (try dsimp only at hSw)
                                        go_simp
                                        try with_reducible rfl
                                      go_simp
                                      refine wpAnyH_take (i := 3) (v := ?_) rfl (by kernel_rfl) (by kernel_rfl) (by kernel_rfl) (fun _ _ _ h => h) (Or.inl ⟨by rfl, ?_⟩) hHeld ?_
                                      rotate_left
                                      · intro w hSw
                                        (try dsimp only at hSw)
                                        go_simp
                                        try with_reducible rfl
                                      go_simp
                                      refine wpAnyH_take (i := 4) (v := ?_) rfl (by kernel_rfl) (by kernel_rfl) (by kernel_rfl) (fun _ _ _ h => h) (Or.inl ⟨by rfl, ?_⟩) hHeld ?_
                                      rotate_left
                                      · intro w hSw
                                        (try dsimp only at hSw)
                                        go_simp
                                        try with_reducible rfl
                                      go_simp
                                      refine wpAnyH_take (i := 5) (v := ?_) rfl (by kernel_rfl) (by kernel_rfl) (by kernel_rfl) (fun _ _ _ h => h) (Or.inl ⟨by rfl, ?_⟩) hHeld ?_
                                      rotate_left
                                      · intro w hSw
                                        (try dsimp only at hSw)
                                        go_simp
                                        try with_reducible rfl
                                      go_simp
                                      refine wpAnyH_take (i := 6) (v := ?_) rfl (by kernel_rfl) (by kernel_rfl) (by kernel_rfl) (fun _ _ _ h => h) (Or.inl ⟨by rfl, ?_⟩) hHeld ?_
                                      rotate_left
                                      · intro w hSw
                                        (try dsimp only at hSw)
                                        go_simp
                                        try with_reducible rfl
                                      go_simp
                                      refine wpAnyH_take (i := 7) (v := ?_) rfl (by kernel_rfl) (by kernel_rfl) (by kernel_rfl) (fun _ _ _ h => h) (Or.inl ⟨by rfl, ?_⟩) hHeld ?_
                                      rotate_left
                                      · intro w hSw
                                        (try dsimp only at hSw)
                                        go_simp
                                        try with_reducible rfl
                                      go_simp
                                      refine wpAnyH_take (i := 8) (v := ?_) rfl (by kernel_rfl) (by kernel_rfl) (by kernel_rfl) (fun _ _ _ h => h) (Or.inl ⟨by rfl, ?_⟩) hHeld ?_
                                      rotate_left
                                      · intro w hSw
                                        (try dsimp only at hSw)
                                        go_simp
                                        try with_reducible rfl
                                      go_simp
                                      refine wpAnyH_take (i := 9) (v := ?_) rfl (by kernel_rfl) (by kernel_rfl) (by kernel_rfl) (fun _ _ _ h => h) (Or.inl ⟨by rfl, ?_⟩) hHeld ?_
                                      rotate_left
                                      · intro w hSw
                                        (try dsimp only at hSw)
                                        go_simp
                                        try with_reducible rfl
                                      go_simp
                                      refine wpAnyH_take (i := 10) (v := ?_) rfl (by kernel_rfl) (by kernel_rfl) (by kernel_rfl) (fun _ _ _ h => h) (Or.inl ⟨by rfl, ?_⟩) hHeld ?_
                                      rotate_left
                                      · intro w hSw
                                        (try dsimp only at hSw)
                                        go_simp
                                        try with_reducible rfl
                                      go_simp
                                      refine wpAnyH_take (i := 11) (v := ?_) rfl (by kernel_rfl) (by kernel_rfl) (by kernel_rfl) (fun _ _ _ h => h) (Or.inl ⟨by rfl, ?_⟩) hHeld ?_
                                      rotate_left
                                      · intro w hSw
                                        (try dsimp only at hSw)
                                        go_simp
                                        try with_reducible rfl
                                      go_simp
                                      refine wpAnyH_done (by kernel_rfl) ?_ _
                                      refine NoPanic.normal ?_
                                      go_wp2_with fail
                                      with_reducible refine (C4.out _).mono ?_
                                      rintro e wz ⟨rfl, bz9⟩
                                      have HZ9 := Lib.hid ((HBD.out).trans (bz9.mono HBD.out.size))
                                      clear bz9
                                      go_wp2
                                      go_ret
                                      exact ⟨rfl, HQc.out.trans ((HW15.out.trans (HZ9.out.mono HW15.out.size)).mono HQc.out.size)⟩
                                  · have z3 : (v3 == u3) = false := by simpa using c3
                                    refine wp_region_noPanic ?_
                                    refine wp_region_held_drew (S := (fun V => (V.cell? ⟨wr.heap.size, 0, none⟩ = some (.int .i64 v0) ∧ V.cell? ⟨wr.heap.size, 1, none⟩ = some (.int .i64 v1) ∧ V.cell? ⟨wr.heap.size, 2, none⟩ = some (.int .i64 v2) ∧ V.cell? ⟨wr.heap.size, 3, none⟩ = some (.int .i64 u3) ∧ V.cell? ⟨wr.heap.size, 4, none⟩ = some (.string u4)) ∧ (V.cell? ⟨bB, of2 + k2 * 5, none⟩ = some (.int .i64 v0) ∧ V.cell? ⟨bB, of2 + k2 * 5 + 1, none⟩ = some (.int .i64 v1) ∧ V.cell? ⟨bB, of2 + k2 * 5 + 2, none⟩ = some (.int .i64 v2) ∧ V.cell? ⟨bB, of2 + k2 * 5 + 3, none⟩ = some (.int .i64 v3) ∧ V.cell? ⟨bB, of2 + k2 * 5 + 4, none⟩ = some (.string v4)))) (by kernel_rfl) (HS.out) (fun hHeld => ?_)
                                    refine wpAnyH_take (i := 0) (v := ?_) rfl (by kernel_rfl) (by kernel_rfl) (by kernel_rfl) (fun _ _ _ h => h) (Or.inl ⟨by rfl, ?_⟩) hHeld ?_
                                    rotate_left
                                    · intro w hSw
                                      (try dsimp only at hSw)
                                      go_simp
                                      try with_reducible rfl
                                    go_simp
                                    refine wpAnyH_take (i := 1) (v := ?_) rfl (by kernel_rfl) (by kernel_rfl) (by kernel_rfl) (fun _ _ _ h => h) (Or.inl ⟨by rfl, ?_⟩) hHeld ?_
                                    rotate_left
                                    · intro w hSw
                                      (try dsimp only at hSw)
                                      go_simp
                                      try with_reducible rfl
                                    go_simp
                                    refine wpAnyH_take (i := 2) (v := ?_) rfl (by kernel_rfl) (by kernel_rfl) (by kernel_rfl) (fun _ _ _ h => h) (Or.inl ⟨by rfl, ?_⟩) hHeld ?_
                                    rotate_left
                                    · intro w hSw
                                      (try dsimp only at hSw)
                                      go_simp
                                      try with_reducible rfl
                                    go_simp
                                    refine wpAnyH_take (i := 3) (v := ?_) rfl (by kernel_rfl) (by kernel_rfl) (by kernel_rfl) (fun _ _ _ h => h) (Or.inl ⟨by rfl, ?_⟩) hHeld ?_
                                    rotate_left
                                    · intro w hSw
                                      (try dsimp only at hSw)
                                      go_simp
                                      try with_reducible rfl
                                    go_simp
                                    refine wpAnyH_take (i := 4) (v := ?_) rfl (by kernel_rfl) (by kernel_rfl) (by kernel_rfl) (fun _ _ _ h => h) (Or.inl ⟨by rfl, ?_⟩) hHeld ?_
                                    rotate_left
                                    · intro w hSw
                                      (try dsimp only at hSw)
                                      go_simp
                                      try with_reducible rfl
                                    go_simp
                                    refine wpAnyH_take (i := 5) (v := ?_) rfl (by kernel_rfl) (by kernel_rfl) (by kernel_rfl) (fun _ _ _ h => h) (Or.inl ⟨by rfl, ?_⟩) hHeld ?_
                                    rotate_left
                                    · intro w hSw
                                      (try dsimp only at hSw)
                                      go_simp
                                      try with_reducible rfl
                                    go_simp
                                    refine wpAnyH_take (i := 6) (v := ?_) rfl (by kernel_rfl) (by kernel_rfl) (by kernel_rfl) (fun _ _ _ h => h) (Or.inl ⟨by rfl, ?_⟩) hHeld ?_
                                    rotate_left
                                    · intro w hSw
                                      (try dsimp only at hSw)
                                      go_simp
                                      try with_reducible rfl
                                    go_simp
                                    refine wpAnyH_take (i := 7) (v := ?_) rfl (by kernel_rfl) (by kernel_rfl) (by kernel_rfl) (fun _ _ _ h => h) (Or.inl ⟨by rfl, ?_⟩) hHeld ?_
                                    rotate_left
                                    · intro w hSw
                                      (try dsimp only at hSw)
                                      go_simp
                                      try with_reducible rfl
                                    go_simp
                                    refine wpAnyH_take (i := 8) (v := ?_) rfl (by kernel_rfl) (by kernel_rfl) (by kernel_rfl) (fun _ _ _ h => h) (Or.inl ⟨by rfl, ?_⟩) hHeld ?_
                                    rotate_left
                                    · intro w hSw
                                      (try dsimp only at hSw)
                                      go_simp
                                      try with_reducible rfl
                                    go_simp
                                    refine wpAnyH_take (i := 9) (v := ?_) rfl (by kernel_rfl) (by kernel_rfl) (by kernel_rfl) (fun _ _ _ h => h) (Or.inl ⟨by rfl, ?_⟩) hHeld ?_
                                    rotate_left
                                    · intro w hSw
                                      (try dsimp only at hSw)
                                      go_simp
                                      try with_reducible rfl
                                    go_simp
                                    refine wpAnyH_take (i := 10) (v := ?_) rfl (by kernel_rfl) (by kernel_rfl) (by kernel_rfl) (fun _ _ _ h => h) (Or.inl ⟨by rfl, ?_⟩) hHeld ?_
                                    rotate_left
                                    · intro w hSw
                                      (try dsimp only at hSw)
                                      go_simp
                                      try with_reducible rfl
                                    go_simp
                                    refine wpAnyH_take (i := 11) (v := ?_) rfl (by kernel_rfl) (by kernel_rfl) (by kernel_rfl) (fun _ _ _ h => h) (Or.inl ⟨by rfl, ?_⟩) hHeld ?_
                                    rotate_left
                                    · intro w hSw
                                      (try dsimp only at hSw)
                                      go_simp
                                      try with_reducible rfl
                                    go_simp
                                    refine wpAnyH_done (by kernel_rfl) ?_ _
                                    refine NoPanic.normal ?_
                                    go_wp2_with fail
                                    with_reducible refine (C4.out _).mono ?_
                                    rintro e wz ⟨rfl, bz9⟩
                                    have HZ9 := Lib.hid ((HBD.out).trans (bz9.mono HBD.out.size))
                                    clear bz9
                                    go_wp2
                                    go_ret
                                    exact ⟨rfl, HQc.out.trans ((HW15.out.trans (HZ9.out.mono HW15.out.size)).mono HQc.out.size)⟩
                                · have z2 : (v2 == u2) = false := by simpa using c2
                                  refine wp_region_noPanic ?_
                                  refine wp_region_held_drew (S := (fun V => (V.cell? ⟨wr.heap.size, 0, none⟩ = some (.int .i64 v0) ∧ V.cell? ⟨wr.heap.size, 1, none⟩ = some (.int .i64 v1) ∧ V.cell? ⟨wr.heap.size, 2, none⟩ = some (.int .i64 u2) ∧ V.cell? ⟨wr.heap.size, 3, none⟩ = some (.int .i64 u3) ∧ V.cell? ⟨wr.heap.size, 4, none⟩ = some (.string u4)) ∧ (V.cell? ⟨bB, of2 + k2 * 5, none⟩ = some (.int .i64 v0) ∧ V.cell? ⟨bB, of2 + k2 * 5 + 1, none⟩ = some (.int .i64 v1) ∧ V.cell? ⟨bB, of2 + k2 * 5 + 2, none⟩ = some (.int .i64 v2) ∧ V.cell? ⟨bB, of2 + k2 * 5 + 3, none⟩ = some (.int .i64 v3) ∧ V.cell? ⟨bB, of2 + k2 * 5 + 4, none⟩ = some (.string v4)))) (by kernel_rfl) (HS.out) (fun hHeld => ?_)
                                  refine wpAnyH_take (i := 0) (v := ?_) rfl (by kernel_rfl) (by kernel_rfl) (by kernel_rfl) (fun _ _ _ h => h) (Or.inl ⟨by rfl, ?_⟩) hHeld ?_
                                  rotate_left
                                  · intro w hSw
                                    (try dsimp only at hSw)
                                    go_simp
                                    try with_reducible rfl
                                  go_simp
                                  refine wpAnyH_take (i := 1) (v := ?_) rfl (by kernel_rfl) (by kernel_rfl) (by kernel_rfl) (fun _ _ _ h => h) (Or.inl ⟨by rfl, ?_⟩) hHeld ?_
                                  rotate_left
                                  · intro w hSw
                                    (try dsimp only at hSw)
                                    go_simp
                                    try with_reducible rfl
                                  go_simp
                                  refine wpAnyH_take (i := 2) (v := ?_) rfl (by kernel_rfl) (by kernel_rfl) (by kernel_rfl) (fun _ _ _ h => h) (Or.inl ⟨by rfl, ?_⟩) hHeld ?_
                                  rotate_left
                                  · intro w hSw
                                    (try dsimp only at hSw)
                                    go_simp
                                    try with_reducible rfl
                                  go_simp
                                  refine wpAnyH_take (i := 3) (v := ?_) rfl (by kernel_rfl) (by kernel_rfl) (by kernel_rfl) (fun _ _ _ h => h) (Or.inl ⟨by rfl, ?_⟩) hHeld ?_
                                  rotate_left
                                  · intro w hSw
                                    (try dsimp only at hSw)
                                    go_simp
                                    try with_reducible rfl
                                  go_simp
                                  refine wpAnyH_take (i := 4) (v := ?_) rfl (by kernel_rfl) (by kernel_rfl) (by kernel_rfl) (fun _ _ _ h => h) (Or.inl ⟨by rfl, ?_⟩) hHeld ?_
                                  rotate_left
                                  · intro w hSw
                                    (try dsimp only at hSw)
                                    go_simp
                                    try with_reducible rfl
                                  go_simp
                                  refine wpAnyH_take (i := 5) (v := ?_) rfl (by kernel_rfl) (by kernel_rfl) (by kernel_rfl) (fun _ _ _ h => h) (Or.inl ⟨by rfl, ?_⟩) hHeld ?_
                                  rotate_left
                                  · intro w hSw
                                    (try dsimp only at hSw)
                                    go_simp
                                    try with_reducible rfl
                                  go_simp
                                  refine wpAnyH_take (i := 6) (v := ?_) rfl (by kernel_rfl) (by kernel_rfl) (by kernel_rfl) (fun _ _ _ h => h) (Or.inl ⟨by rfl, ?_⟩) hHeld ?_
                                  rotate_left
                                  · intro w hSw
                                    (try dsimp only at hSw)
                                    go_simp
                                    try with_reducible rfl
                                  go_simp
                                  refine wpAnyH_take (i := 7) (v := ?_) rfl (by kernel_rfl) (by kernel_rfl) (by kernel_rfl) (fun _ _ _ h => h) (Or.inl ⟨by rfl, ?_⟩) hHeld ?_
                                  rotate_left
                                  · intro w hSw
                                    (try dsimp only at hSw)
                                    go_simp
                                    try with_reducible rfl
                                  go_simp
                                  refine wpAnyH_take (i := 8) (v := ?_) rfl (by kernel_rfl) (by kernel_rfl) (by kernel_rfl) (fun _ _ _ h => h) (Or.inl ⟨by rfl, ?_⟩) hHeld ?_
                                  rotate_left
                                  · intro w hSw
                                    (try dsimp only at hSw)
                                    go_simp
                                    try with_reducible rfl
                                  go_simp
                                  refine wpAnyH_take (i := 9) (v := ?_) rfl (by kernel_rfl) (by kernel_rfl) (by kernel_rfl) (fun _ _ _ h => h) (Or.inl ⟨by rfl, ?_⟩) hHeld ?_
                                  rotate_left
                                  · intro w hSw
                                    (try dsimp only at hSw)
                                    go_simp
                                    try with_reducible rfl
                                  go_simp
                                  refine wpAnyH_take (i := 10) (v := ?_) rfl (by kernel_rfl) (by kernel_rfl) (by kernel_rfl) (fun _ _ _ h => h) (Or.inl ⟨by rfl, ?_⟩) hHeld ?_
                                  rotate_left
                                  · intro w hSw
                                    (try dsimp only at hSw)
                                    go_simp
                                    try with_reducible rfl
                                  go_simp
                                  refine wpAnyH_take (i := 11) (v := ?_) rfl (by kernel_rfl) (by kernel_rfl) (by kernel_rfl) (fun _ _ _ h => h) (Or.inl ⟨by rfl, ?_⟩) hHeld ?_
                                  rotate_left
                                  · intro w hSw
                                    (try dsimp only at hSw)
                                    go_simp
                                    try with_reducible rfl
                                  go_simp
                                  refine wpAnyH_done (by kernel_rfl) ?_ _
                                  refine NoPanic.normal ?_
                                  go_wp2_with fail
                                  with_reducible refine (C4.out _).mono ?_
                                  rintro e wz ⟨rfl, bz9⟩
                                  have HZ9 := Lib.hid ((HBD.out).trans (bz9.mono HBD.out.size))
                                  clear bz9
                                  go_wp2
                                  go_ret
                                  exact ⟨rfl, HQc.out.trans ((HW15.out.trans (HZ9.out.mono HW15.out.size)).mono HQc.out.size)⟩
                              · have z1 : (v1 == u1) = false := by simpa using c1
                                refine wp_region_noPanic ?_
                                refine wp_region_held_drew (S := (fun V => (V.cell? ⟨wr.heap.size, 0, none⟩ = some (.int .i64 v0) ∧ V.cell? ⟨wr.heap.size, 1, none⟩ = some (.int .i64 u1) ∧ V.cell? ⟨wr.heap.size, 2, none⟩ = some (.int .i64 u2) ∧ V.cell? ⟨wr.heap.size, 3, none⟩ = some (.int .i64 u3) ∧ V.cell? ⟨wr.heap.size, 4, none⟩ = some (.string u4)) ∧ (V.cell? ⟨bB, of2 + k2 * 5, none⟩ = some (.int .i64 v0) ∧ V.cell? ⟨bB, of2 + k2 * 5 + 1, none⟩ = some (.int .i64 v1) ∧ V.cell? ⟨bB, of2 + k2 * 5 + 2, none⟩ = some (.int .i64 v2) ∧ V.cell? ⟨bB, of2 + k2 * 5 + 3, none⟩ = some (.int .i64 v3) ∧ V.cell? ⟨bB, of2 + k2 * 5 + 4, none⟩ = some (.string v4)))) (by kernel_rfl) (HS.out) (fun hHeld => ?_)
                                refine wpAnyH_take (i := 0) (v := ?_) rfl (by kernel_rfl) (by kernel_rfl) (by kernel_rfl) (fun _ _ _ h => h) (Or.inl ⟨by rfl, ?_⟩) hHeld ?_
                                rotate_left
                                · intro w hSw
                                  (try dsimp only at hSw)
                                  go_simp
                                  try with_reducible rfl
                                go_simp
                                refine wpAnyH_take (i := 1) (v := ?_) rfl (by kernel_rfl) (by kernel_rfl) (by kernel_rfl) (fun _ _ _ h => h) (Or.inl ⟨by rfl, ?_⟩) hHeld ?_
                                rotate_left
                                · intro w hSw
                                  (try dsimp only at hSw)
                                  go_simp
                                  try with_reducible rfl
                                go_simp
                                refine wpAnyH_take (i := 2) (v := ?_) rfl (by kernel_rfl) (by kernel_rfl) (by kernel_rfl) (fun _ _ _ h => h) (Or.inl ⟨by rfl, ?_⟩) hHeld ?_
                                rotate_left
                                · intro w hSw
                                  (try dsimp only at hSw)
                                  go_simp
                                  try with_reducible rfl
                                go_simp
                                refine wpAnyH_take (i := 3) (v := ?_) rfl (by kernel_rfl) (by kernel_rfl) (by kernel_rfl) (fun _ _ _ h => h) (Or.inl ⟨by rfl, ?_⟩) hHeld ?_
                                rotate_left
                                · intro w hSw
                                  (try dsimp only at hSw)
                                  go_simp
                                  try with_reducible rfl
                                go_simp
                                refine wpAnyH_take (i := 4) (v := ?_) rfl (by kernel_rfl) (by kernel_rfl) (by kernel_rfl) (fun _ _ _ h => h) (Or.inl ⟨by rfl, ?_⟩) hHeld ?_
                                rotate_left
                                · intro w hSw
                                  (try dsimp only at hSw)
                                  go_simp
                                  try with_reducible rfl
                                go_simp
                                refine wpAnyH_take (i := 5) (v := ?_) rfl (by kernel_rfl) (by kernel_rfl) (by kernel_rfl) (fun _ _ _ h => h) (Or.inl ⟨by rfl, ?_⟩) hHeld ?_
                                rotate_left
                                · intro w hSw
                                  (try dsimp only at hSw)
                                  go_simp
                                  try with_reducible rfl
                                go_simp
                                refine wpAnyH_take (i := 6) (v := ?_) rfl (by kernel_rfl) (by kernel_rfl) (by kernel_rfl) (fun _ _ _ h => h) (Or.inl ⟨by rfl, ?_⟩) hHeld ?_
                                rotate_left
                                · intro w hSw
                                  (try dsimp only at hSw)
                                  go_simp
                                  try with_reducible rfl
                                go_simp
                                refine wpAnyH_take (i := 7) (v := ?_) rfl (by kernel_rfl) (by kernel_rfl) (by kernel_rfl) (fun _ _ _ h => h) (Or.inl ⟨by rfl, ?_⟩) hHeld ?_
                                rotate_left
                                · intro w hSw
                                  (try dsimp only at hSw)
                                  go_simp
                                  try with_reducible rfl
                                go_simp
                                refine wpAnyH_take (i := 8) (v := ?_) rfl (by kernel_rfl) (by kernel_rfl) (by kernel_rfl) (fun _ _ _ h => h) (Or.inl ⟨by rfl, ?_⟩) hHeld ?_
                                rotate_left
                                · intro w hSw
                                  (try dsimp only at hSw)
                                  go_simp
                                  try with_reducible rfl
                                go_simp
                                refine wpAnyH_take (i := 9) (v := ?_) rfl (by kernel_rfl) (by kernel_rfl) (by kernel_rfl) (fun _ _ _ h => h) (Or.inl ⟨by rfl, ?_⟩) hHeld ?_
                                rotate_left
                                · intro w hSw
                                  (try dsimp only at hSw)
                                  go_simp
                                  try with_reducible rfl
                                go_simp
                                refine wpAnyH_take (i := 10) (v := ?_) rfl (by kernel_rfl) (by kernel_rfl) (by kernel_rfl) (fun _ _ _ h => h) (Or.inl ⟨by rfl, ?_⟩) hHeld ?_
                                rotate_left
                                · intro w hSw
                                  (try dsimp only at hSw)
                                  go_simp
                                  try with_reducible rfl
                                go_simp
                                refine wpAnyH_take (i := 11) (v := ?_) rfl (by kernel_rfl) (by kernel_rfl) (by kernel_rfl) (fun _ _ _ h => h) (Or.inl ⟨by rfl, ?_⟩) hHeld ?_
                                rotate_left
                                · intro w hSw
                                  (try dsimp only at hSw)
                                  go_simp
                                  try with_reducible rfl
                                go_simp
                                refine wpAnyH_done (by kernel_rfl) ?_ _
                                refine NoPanic.normal ?_
                                go_wp2_with fail
                                with_reducible refine (C4.out _).mono ?_
                                rintro e wz ⟨rfl, bz9⟩
                                have HZ9 := Lib.hid ((HBD.out).trans (bz9.mono HBD.out.size))
                                clear bz9
                                go_wp2
                                go_ret
                                exact ⟨rfl, HQc.out.trans ((HW15.out.trans (HZ9.out.mono HW15.out.size)).mono HQc.out.size)⟩
                            · have z0 : (v0 == u0) = false := by simpa using c0
                              refine wp_region_noPanic ?_
                              refine wp_region_held_drew (S := (fun V => (V.cell? ⟨wr.heap.size, 0, none⟩ = some (.int .i64 u0) ∧ V.cell? ⟨wr.heap.size, 1, none⟩ = some (.int .i64 u1) ∧ V.cell? ⟨wr.heap.size, 2, none⟩ = some (.int .i64 u2) ∧ V.cell? ⟨wr.heap.size, 3, none⟩ = some (.int .i64 u3) ∧ V.cell? ⟨wr.heap.size, 4, none⟩ = some (.string u4)) ∧ (V.cell? ⟨bB, of2 + k2 * 5, none⟩ = some (.int .i64 v0) ∧ V.cell? ⟨bB, of2 + k2 * 5 + 1, none⟩ = some (.int .i64 v1) ∧ V.cell? ⟨bB, of2 + k2 * 5 + 2, none⟩ = some (.int .i64 v2) ∧ V.cell? ⟨bB, of2 + k2 * 5 + 3, none⟩ = some (.int .i64 v3) ∧ V.cell? ⟨bB, of2 + k2 * 5 + 4, none⟩ = some (.string v4)))) (by kernel_rfl) (HS.out) (fun hHeld => ?_)
                              refine wpAnyH_take (i := 0) (v := ?_) rfl (by kernel_rfl) (by kernel_rfl) (by kernel_rfl) (fun _ _ _ h => h) (Or.inl ⟨by rfl, ?_⟩) hHeld ?_
                              rotate_left
                              · intro w hSw
                                (try dsimp only at hSw)
                                go_simp
                                try with_reducible rfl
                              go_simp
                              refine wpAnyH_take (i := 1) (v := ?_) rfl (by kernel_rfl) (by kernel_rfl) (by kernel_rfl) (fun _ _ _ h => h) (Or.inl ⟨by rfl, ?_⟩) hHeld ?_
                              rotate_left
                              · intro w hSw
                                (try dsimp only at hSw)
                                go_simp
                                try with_reducible rfl
                              go_simp
                              refine wpAnyH_take (i := 2) (v := ?_) rfl (by kernel_rfl) (by kernel_rfl) (by kernel_rfl) (fun _ _ _ h => h) (Or.inl ⟨by rfl, ?_⟩) hHeld ?_
                              rotate_left
                              · intro w hSw
                                (try dsimp only at hSw)
                                go_simp
                                try with_reducible rfl
                              go_simp
                              refine wpAnyH_take (i := 3) (v := ?_) rfl (by kernel_rfl) (by kernel_rfl) (by kernel_rfl) (fun _ _ _ h => h) (Or.inl ⟨by rfl, ?_⟩) hHeld ?_
                              rotate_left
                              · intro w hSw
                                (try dsimp only at hSw)
                                go_simp
                                try with_reducible rfl
                              go_simp
                              refine wpAnyH_take (i := 4) (v := ?_) rfl (by kernel_rfl) (by kernel_rfl) (by kernel_rfl) (fun _ _ _ h => h) (Or.inl ⟨by rfl, ?_⟩) hHeld ?_
                              rotate_left
                              · intro w hSw
                                (try dsimp only at hSw)
                                go_simp
                                try with_reducible rfl
                              go_simp
                              refine wpAnyH_take (i := 5) (v := ?_) rfl (by kernel_rfl) (by kernel_rfl) (by kernel_rfl) (fun _ _ _ h => h) (Or.inl ⟨by rfl, ?_⟩) hHeld ?_
                              rotate_left
                              · intro w hSw
                                (try dsimp only at hSw)
                                go_simp
                                try with_reducible rfl
                              go_simp
                              refine wpAnyH_take (i := 6) (v := ?_) rfl (by kernel_rfl) (by kernel_rfl) (by kernel_rfl) (fun _ _ _ h => h) (Or.inl ⟨by rfl, ?_⟩) hHeld ?_
                              rotate_left
                              · intro w hSw
                                (try dsimp only at hSw)
                                go_simp
                                try with_reducible rfl
                              go_simp
                              refine wpAnyH_take (i := 7) (v := ?_) rfl (by kernel_rfl) (by kernel_rfl) (by kernel_rfl) (fun _ _ _ h => h) (Or.inl ⟨by rfl, ?_⟩) hHeld ?_
                              rotate_left
                              · intro w hSw
                                (try dsimp only at hSw)
                                go_simp
                                try with_reducible rfl
                              go_simp
                              refine wpAnyH_take (i := 8) (v := ?_) rfl (by kernel_rfl) (by kernel_rfl) (by kernel_rfl) (fun _ _ _ h => h) (Or.inl ⟨by rfl, ?_⟩) hHeld ?_
                              rotate_left
                              · intro w hSw
                                (try dsimp only at hSw)
                                go_simp
                                try with_reducible rfl
                              go_simp
                              refine wpAnyH_take (i := 9) (v := ?_) rfl (by kernel_rfl) (by kernel_rfl) (by kernel_rfl) (fun _ _ _ h => h) (Or.inl ⟨by rfl, ?_⟩) hHeld ?_
                              rotate_left
                              · intro w hSw
                                (try dsimp only at hSw)
                                go_simp
                                try with_reducible rfl
                              go_simp
                              refine wpAnyH_take (i := 10) (v := ?_) rfl (by kernel_rfl) (by kernel_rfl) (by kernel_rfl) (fun _ _ _ h => h) (Or.inl ⟨by rfl, ?_⟩) hHeld ?_
                              rotate_left
                              · intro w hSw
                                (try dsimp only at hSw)
                                go_simp
                                try with_reducible rfl
                              go_simp
                              refine wpAnyH_take (i := 11) (v := ?_) rfl (by kernel_rfl) (by kernel_rfl) (by kernel_rfl) (fun _ _ _ h => h) (Or.inl ⟨by rfl, ?_⟩) hHeld ?_
                              rotate_left
                              · intro w hSw
                                (try dsimp only at hSw)
                                go_simp
                                try with_reducible rfl
                              go_simp
                              refine wpAnyH_done (by kernel_rfl) ?_ _
                              refine NoPanic.normal ?_
                              go_wp2_with fail
                              with_reducible refine (C4.out _).mono ?_
                              rintro e wz ⟨rfl, bz9⟩
                              have HZ9 := Lib.hid ((HBD.out).trans (bz9.mono HBD.out.size))
                              clear bz9
                              go_wp2
                              go_ret
                              exact ⟨rfl, HQc.out.trans ((HW15.out.trans (HZ9.out.mono HW15.out.size)).mono HQc.out.size)⟩
                          · have kq : decide ((q : Int) ≤ k2) = true := decide_eq_true (by omega)
                            have kqn : decide (q ≤ k2) = true := decide_eq_true (by omega)
                            go_upto_region 29 with fail
                            have HS : Hid ((fun V => (V.cell? ⟨wr.heap.size, 0, none⟩ = some (.int .i64 a.id) ∧ V.cell? ⟨wr.heap.size, 1, none⟩ = some (.int .i64 a.pl) ∧ V.cell? ⟨wr.heap.size, 2, none⟩ = some (.int .i64 a.bi) ∧ V.cell? ⟨wr.heap.size, 3, none⟩ = some (.int .i64 a.ky) ∧ V.cell? ⟨wr.heap.size, 4, none⟩ = some (.string a.tx))) (wr.alloc (.cells #[.int .i64 a.id, .int .i64 a.pl, .int .i64 a.bi, .int .i64 a.ky, .string a.tx] 48)).drew) := Lib.hid ⟨RawAt.cell (RawAt.drew_ R3) 0, RawAt.cell (RawAt.drew_ R3) 1, RawAt.cell (RawAt.drew_ R3) 2, RawAt.cell (RawAt.drew_ R3) 3, RawAt.cell (RawAt.drew_ R3) 4⟩
                            refine wp_region_noPanic ?_
                            refine wp_region_held_drew (S := (fun V => (V.cell? ⟨wr.heap.size, 0, none⟩ = some (.int .i64 a.id) ∧ V.cell? ⟨wr.heap.size, 1, none⟩ = some (.int .i64 a.pl) ∧ V.cell? ⟨wr.heap.size, 2, none⟩ = some (.int .i64 a.bi) ∧ V.cell? ⟨wr.heap.size, 3, none⟩ = some (.int .i64 a.ky) ∧ V.cell? ⟨wr.heap.size, 4, none⟩ = some (.string a.tx)))) (by kernel_rfl) (HS.out) (fun hHeld => ?_)
                            refine wpAnyH_take (i := 0) (v := ?_) rfl (by kernel_rfl) (by kernel_rfl) (by kernel_rfl) (fun _ _ _ h => h) (Or.inl ⟨by rfl, ?_⟩) hHeld ?_
                            rotate_left
                            · intro w hSw
                              (try dsimp only at hSw)
                              go_simp
                              try with_reducible rfl
                            go_simp
                            refine wpAnyH_take (i := 1) (v := ?_) rfl (by kernel_rfl) (by kernel_rfl) (by kernel_rfl) (fun _ _ _ h => h) (Or.inl ⟨by rfl, ?_⟩) hHeld ?_
                            rotate_left
                            · intro w hSw
                              (try dsimp only at hSw)
                              go_simp
                              try with_reducible rfl
                            go_simp
                            refine wpAnyH_take (i := 2) (v := ?_) rfl (by kernel_rfl) (by kernel_rfl) (by kernel_rfl) (fun _ _ _ h => h) (Or.inl ⟨by rfl, ?_⟩) hHeld ?_
                            rotate_left
                            · intro w hSw
                              (try dsimp only at hSw)
                              go_simp
                              try with_reducible rfl
                            go_simp
                            refine wpAnyH_take (i := 3) (v := ?_) rfl (by kernel_rfl) (by kernel_rfl) (by kernel_rfl) (fun _ _ _ h => h) (Or.inl ⟨by rfl, ?_⟩) hHeld ?_
                            rotate_left
                            · intro w hSw
                              (try dsimp only at hSw)
                              go_simp
                              try with_reducible rfl
                            go_simp
                            refine wpAnyH_take (i := 4) (v := ?_) rfl (by kernel_rfl) (by kernel_rfl) (by kernel_rfl) (fun _ _ _ h => h) (Or.inl ⟨by rfl, ?_⟩) hHeld ?_
                            rotate_left
                            · intro w hSw
                              (try dsimp only at hSw)
                              go_simp
                              try with_reducible rfl
                            go_simp
                            refine wpAnyH_take (i := 5) (v := undef) rfl (by kernel_rfl) (by kernel_rfl) (by kernel_rfl) (fun _ _ _ h => h) (Or.inr ⟨by rfl, rfl⟩) hHeld ?_
                            go_simp
                            refine wpAnyH_take (i := 6) (v := undef) rfl (by kernel_rfl) (by kernel_rfl) (by kernel_rfl) (fun _ _ _ h => h) (Or.inr ⟨by rfl, rfl⟩) hHeld ?_
                            go_simp
                            refine wpAnyH_take (i := 7) (v := undef) rfl (by kernel_rfl) (by kernel_rfl) (by kernel_rfl) (fun _ _ _ h => h) (Or.inr ⟨by rfl, rfl⟩) hHeld ?_
                            go_simp
                            refine wpAnyH_take (i := 8) (v := undef) rfl (by kernel_rfl) (by kernel_rfl) (by kernel_rfl) (fun _ _ _ h => h) (Or.inr ⟨by rfl, rfl⟩) hHeld ?_
                            go_simp
                            refine wpAnyH_take (i := 9) (v := undef) rfl (by kernel_rfl) (by kernel_rfl) (by kernel_rfl) (fun _ _ _ h => h) (Or.inr ⟨by rfl, rfl⟩) hHeld ?_
                            go_simp
                            refine wpAnyH_take (i := 10) (v := undef) rfl (by kernel_rfl) (by kernel_rfl) (by kernel_rfl) (fun _ _ _ h => h) (Or.inr ⟨by rfl, rfl⟩) hHeld ?_
                            go_simp
                            refine wpAnyH_take (i := 11) (v := ?_) rfl (by kernel_rfl) (by kernel_rfl) (by kernel_rfl) (fun _ _ _ h => h) (Or.inl ⟨by rfl, ?_⟩) hHeld ?_
                            rotate_left
                            · intro w hSw
                              (try dsimp only at hSw)
                              go_simp
                              try with_reducible rfl
                            go_simp
                            refine wpAnyH_done (by kernel_rfl) ?_ _
                            refine NoPanic.normal ?_
                            go_wp2_with fail
                            with_reducible refine (C4.out _).mono ?_
                            rintro e wz ⟨rfl, bz9⟩
                            have HZ9 := Lib.hid ((HBD.out).trans (bz9.mono HBD.out.size))
                            clear bz9
                            go_wp2
                            go_ret
                            exact ⟨rfl, HQc.out.trans ((HW15.out.trans (HZ9.out.mono HW15.out.size)).mono HQc.out.size)⟩
                        · have k1 : decide (a.pl < f) = false := decide_eq_false g1
                          by_cases g2 : t < a.pl
                          · have k2' : decide (t < a.pl) = true := decide_eq_true g2
                            have HN := Lib.hid (HWS.out.trans (if_pos (Or.inr g2)))
                            clear HWS
                            have HBD := Lib.hid (HB3.out.drew)
                            by_cases gq : k2 < q
                            · have kq : decide ((q : Int) ≤ k2) = false := decide_eq_false (by omega)
                              have kqn : decide (q ≤ k2) = false := decide_eq_false (by omega)
                              have hkb : k2 < bs.length := by rw [← HQL.out]; exact gq
                              obtain ⟨bB, of2, rfl, hbB, hcd⟩ := ((HRB.out.below hb.out).below x3).at1 hkb
                              have d0 := hcd 0 (by omega)
                              have d1 := hcd 1 (by omega)
                              have d2 := hcd 2 (by omega)
                              have d3 := hcd 3 (by omega)
                              have d4 := hcd 4 (by omega)
                              rw [Nat.add_zero] at d0
                              have htk2 : bs.take (k2 + 1) = bs.take k2 ++ [bs[k2]] := by rw [List.take_succ_eq_append_getElem hkb]
                              have HTK := Lib.hid htk2
                              clear hcd htk2
                              generalize bs[k2] = d at *
                              simp [encI] at d0 d1 d2 d3 d4
                              obtain ⟨v0, v1, v2, v3, v4⟩ := d
                              obtain ⟨u0, u1, u2, u3, u4⟩ := a
                              simp only at *
                              have j1 : (0 : Int) ≤ k2 := by omega
                              have j2 : (k2 : Int) < q := by omega
                              go_upto_region 29 with fail
                              have HS : Hid ((fun V => (V.cell? ⟨wr.heap.size, 0, none⟩ = some (.int .i64 u0) ∧ V.cell? ⟨wr.heap.size, 1, none⟩ = some (.int .i64 u1) ∧ V.cell? ⟨wr.heap.size, 2, none⟩ = some (.int .i64 u2) ∧ V.cell? ⟨wr.heap.size, 3, none⟩ = some (.int .i64 u3) ∧ V.cell? ⟨wr.heap.size, 4, none⟩ = some (.string u4)) ∧ (V.cell? ⟨bB, of2 + k2 * 5, none⟩ = some (.int .i64 v0) ∧ V.cell? ⟨bB, of2 + k2 * 5 + 1, none⟩ = some (.int .i64 v1) ∧ V.cell? ⟨bB, of2 + k2 * 5 + 2, none⟩ = some (.int .i64 v2) ∧ V.cell? ⟨bB, of2 + k2 * 5 + 3, none⟩ = some (.int .i64 v3) ∧ V.cell? ⟨bB, of2 + k2 * 5 + 4, none⟩ = some (.string v4))) (wr.alloc (.cells #[.int .i64 u0, .int .i64 u1, .int .i64 u2, .int .i64 u3, .string u4] 48)).drew) := Lib.hid ⟨⟨RawAt.cell (RawAt.drew_ R3) 0, RawAt.cell (RawAt.drew_ R3) 1, RawAt.cell (RawAt.drew_ R3) 2, RawAt.cell (RawAt.drew_ R3) 3, RawAt.cell (RawAt.drew_ R3) 4⟩, ⟨d0, d1, d2, d3, d4⟩⟩
                              clear e0 e1 e2 e3 e4 d0 d1 d2 d3 d4
                              by_cases c0 : v0 = u0
                              · subst c0
                                by_cases c1 : v1 = u1
                                · subst c1
                                  by_cases c2 : v2 = u2
                                  · subst c2
                                    by_cases c3 : v3 = u3
                                    · subst c3
                                      by_cases c4 : v4 = u4
                                      · subst c4
                                        have HJ3 : Hid (wbes f t (o2.take (j + 1)) = bs.take (k2 + 1)) := Lib.hid (by rw [HN.out, HTK.out, hJ.out])
                                        clear HN HTK
                                        refine wp_region_noPanic ?_
                                        refine wp_region_held_drew (S := (fun V => (V.cell? ⟨wr.heap.size, 0, none⟩ = some (.int .i64 v0) ∧ V.cell? ⟨wr.heap.size, 1, none⟩ = some (.int .i64 v1) ∧ V.cell? ⟨wr.heap.size, 2, none⟩ = some (.int .i64 v2) ∧ V.cell? ⟨wr.heap.size, 3, none⟩ = some (.int .i64 v3) ∧ V.cell? ⟨wr.heap.size, 4, none⟩ = some (.string v4)) ∧ (V.cell? ⟨bB, of2 + k2 * 5, none⟩ = some (.int .i64 v0) ∧ V.cell? ⟨bB, of2 + k2 * 5 + 1, none⟩ = some (.int .i64 v1) ∧ V.cell? ⟨bB, of2 + k2 * 5 + 2, none⟩ = some (.int .i64 v2) ∧ V.cell? ⟨bB, of2 + k2 * 5 + 3, none⟩ = some (.int .i64 v3) ∧ V.cell? ⟨bB, of2 + k2 * 5 + 4, none⟩ = some (.string v4)))) (by kernel_rfl) (HS.out) (fun hHeld => ?_)
                                        refine wpAnyH_take (i := 0) (v := ?_) rfl (by kernel_rfl) (by kernel_rfl) (by kernel_rfl) (fun _ _ _ h => h) (Or.inl ⟨by rfl, ?_⟩) hHeld ?_
                                        rotate_left
                                        · intro w hSw
                                          (try dsimp only at hSw)
                                          go_simp
                                          try with_reducible rfl
                                        go_simp
                                        refine wpAnyH_take (i := 1) (v := ?_) rfl (by kernel_rfl) (by kernel_rfl) (by kernel_rfl) (fun _ _ _ h => h) (Or.inl ⟨by rfl, ?_⟩) hHeld ?_
                                        rotate_left
                                        · intro w hSw
                                          (try dsimp only at hSw)
                                          go_simp
                                          try with_reducible rfl
                                        go_simp
                                        refine wpAnyH_take (i := 2) (v := ?_) rfl (by kernel_rfl) (by kernel_rfl) (by kernel_rfl) (fun _ _ _ h => h) (Or.inl ⟨by rfl, ?_⟩) hHeld ?_
                                        rotate_left
                                        · intro w hSw
                                          (try dsimp only at hSw)
                                          go_simp
                                          try with_reducible rfl
                                        go_simp
                                        refine wpAnyH_take (i := 3) (v := ?_) rfl (by kernel_rfl) (by kernel_rfl) (by kernel_rfl) (fun _ _ _ h => h) (Or.inl ⟨by rfl, ?_⟩) hHeld ?_
                                        rotate_left
                                        · intro w hSw
                                          (try dsimp only at hSw)
                                          go_simp
                                          try with_reducible rfl
                                        go_simp
                                        refine wpAnyH_take (i := 4) (v := ?_) rfl (by kernel_rfl) (by kernel_rfl) (by kernel_rfl) (fun _ _ _ h => h) (Or.inl ⟨by rfl, ?_⟩) hHeld ?_
                                        rotate_left
                                        · intro w hSw
                                          (try dsimp only at hSw)
                                          go_simp
                                          try with_reducible rfl
                                        go_simp
                                        refine wpAnyH_take (i := 5) (v := ?_) rfl (by kernel_rfl) (by kernel_rfl) (by kernel_rfl) (fun _ _ _ h => h) (Or.inl ⟨by rfl, ?_⟩) hHeld ?_
                                        rotate_left
                                        · intro w hSw
                                          (try dsimp only at hSw)
                                          go_simp
                                          try with_reducible rfl
                                        go_simp
                                        refine wpAnyH_take (i := 6) (v := ?_) rfl (by kernel_rfl) (by kernel_rfl) (by kernel_rfl) (fun _ _ _ h => h) (Or.inl ⟨by rfl, ?_⟩) hHeld ?_
                                        rotate_left
                                        · intro w hSw
                                          (try dsimp only at hSw)
                                          go_simp
                                          try with_reducible rfl
                                        go_simp
                                        refine wpAnyH_take (i := 7) (v := ?_) rfl (by kernel_rfl) (by kernel_rfl) (by kernel_rfl) (fun _ _ _ h => h) (Or.inl ⟨by rfl, ?_⟩) hHeld ?_
                                        rotate_left
                                        · intro w hSw
                                          (try dsimp only at hSw)
                                          go_simp
                                          try with_reducible rfl
                                        go_simp
                                        refine wpAnyH_take (i := 8) (v := ?_) rfl (by kernel_rfl) (by kernel_rfl) (by kernel_rfl) (fun _ _ _ h => h) (Or.inl ⟨by rfl, ?_⟩) hHeld ?_
                                        rotate_left
                                        · intro w hSw
                                          (try dsimp only at hSw)
                                          go_simp
                                          try with_reducible rfl
                                        go_simp
                                        refine wpAnyH_take (i := 9) (v := ?_) rfl (by kernel_rfl) (by kernel_rfl) (by kernel_rfl) (fun _ _ _ h => h) (Or.inl ⟨by rfl, ?_⟩) hHeld ?_
                                        rotate_left
                                        · intro w hSw
                                          (try dsimp only at hSw)
                                          go_simp
                                          try with_reducible rfl
                                        go_simp
                                        refine wpAnyH_take (i := 10) (v := ?_) rfl (by kernel_rfl) (by kernel_rfl) (by kernel_rfl) (fun _ _ _ h => h) (Or.inl ⟨by rfl, ?_⟩) hHeld ?_
                                        rotate_left
                                        · intro w hSw
                                          (try dsimp only at hSw)
                                          go_simp
                                          try with_reducible rfl
                                        go_simp
                                        refine wpAnyH_take (i := 11) (v := ?_) rfl (by kernel_rfl) (by kernel_rfl) (by kernel_rfl) (fun _ _ _ h => h) (Or.inl ⟨by rfl, ?_⟩) hHeld ?_
                                        rotate_left
                                        · intro w hSw
                                          (try dsimp only at hSw)
                                          go_simp
                                          try with_reducible rfl
                                        go_simp
                                        refine wpAnyH_done (by kernel_rfl) ?_ _
                                        refine NoPanic.normal ?_
                                        go_wp2
                                        go_roundg (gk - 1)
                                        case measure => omega
                                        case rel => exact ⟨j + 1, k2 + 1, by go_num, by go_num, by omega, by omega, by omega, HJ3, HBD⟩
                                      · have z4 : ¬ v4.toList = u4.toList := fun h => c4 (Go.WideShapes.bytes_inj (by rw [← ByteArray.toList_eq, ← ByteArray.toList_eq]; exact h))
                                        refine wp_region_noPanic ?_
                                        refine wp_region_held_drew (S := (fun V => (V.cell? ⟨wr.heap.size, 0, none⟩ = some (.int .i64 v0) ∧ V.cell? ⟨wr.heap.size, 1, none⟩ = some (.int .i64 v1) ∧ V.cell? ⟨wr.heap.size, 2, none⟩ = some (.int .i64 v2) ∧ V.cell? ⟨wr.heap.size, 3, none⟩ = some (.int .i64 v3) ∧ V.cell? ⟨wr.heap.size, 4, none⟩ = some (.string u4)) ∧ (V.cell? ⟨bB, of2 + k2 * 5, none⟩ = some (.int .i64 v0) ∧ V.cell? ⟨bB, of2 + k2 * 5 + 1, none⟩ = some (.int .i64 v1) ∧ V.cell? ⟨bB, of2 + k2 * 5 + 2, none⟩ = some (.int .i64 v2) ∧ V.cell? ⟨bB, of2 + k2 * 5 + 3, none⟩ = some (.int .i64 v3) ∧ V.cell? ⟨bB, of2 + k2 * 5 + 4, none⟩ = some (.string v4)))) (by kernel_rfl) (HS.out) (fun hHeld => ?_)
                                        refine wpAnyH_take (i := 0) (v := ?_) rfl (by kernel_rfl) (by kernel_rfl) (by kernel_rfl) (fun _ _ _ h => h) (Or.inl ⟨by rfl, ?_⟩) hHeld ?_
                                        rotate_left
                                        · intro w hSw
                                          (try dsimp only at hSw)
                                          go_simp
                                          try with_reducible rfl
                                        go_simp
                                        refine wpAnyH_take (i := 1) (v := ?_) rfl (by kernel_rfl) (by kernel_rfl) (by kernel_rfl) (fun _ _ _ h => h) (Or.inl ⟨by rfl, ?_⟩) hHeld ?_
                                        rotate_left
                                        · intro w hSw
                                          (try dsimp only at hSw)
                                          go_simp
                                          try with_reducible rfl
                                        go_simp
                                        refine wpAnyH_take (i := 2) (v := ?_) rfl (by kernel_rfl) (by kernel_rfl) (by kernel_rfl) (fun _ _ _ h => h) (Or.inl ⟨by rfl, ?_⟩) hHeld ?_
                                        rotate_left
                                        · intro w hSw
                                          (try dsimp only at hSw)
                                          go_simp
                                          try with_reducible rfl
                                        go_simp
                                        refine wpAnyH_take (i := 3) (v := ?_) rfl (by kernel_rfl) (by kernel_rfl) (by kernel_rfl) (fun _ _ _ h => h) (Or.inl ⟨by rfl, ?_⟩) hHeld ?_
                                        rotate_left
                                        · intro w hSw
                                          (try dsimp only at hSw)
                                          go_simp
                                          try with_reducible rfl
                                        go_simp
                                        refine wpAnyH_take (i := 4) (v := ?_) rfl (by kernel_rfl) (by kernel_rfl) (by kernel_rfl) (fun _ _ _ h => h) (Or.inl ⟨by rfl, ?_⟩) hHeld ?_
                                        rotate_left
                                        · intro w hSw
                                          (try dsimp only at hSw)
                                          go_simp
                                          try with_reducible rfl
                                        go_simp
                                        refine wpAnyH_take (i := 5) (v := ?_) rfl (by kernel_rfl) (by kernel_rfl) (by kernel_rfl) (fun _ _ _ h => h) (Or.inl ⟨by rfl, ?_⟩) hHeld ?_
                                        rotate_left
                                        · intro w hSw
                                          (try dsimp only at hSw)
                                          go_simp
                                          try with_reducible rfl
                                        go_simp
                                        refine wpAnyH_take (i := 6) (v := ?_) rfl (by kernel_rfl) (by kernel_rfl) (by kernel_rfl) (fun _ _ _ h => h) (Or.inl ⟨by rfl, ?_⟩) hHeld ?_
                                        rotate_left
                                        · intro w hSw
                                          (try dsimp only at hSw)
                                          go_simp
                                          try with_reducible rfl
                                        go_simp
                                        refine wpAnyH_take (i := 7) (v := ?_) rfl (by kernel_rfl) (by kernel_rfl) (by kernel_rfl) (fun _ _ _ h => h) (Or.inl ⟨by rfl, ?_⟩) hHeld ?_
                                        rotate_left
                                        · intro w hSw
                                          (try dsimp only at hSw)
                                          go_simp
                                          try with_reducible rfl
                                        go_simp
                                        refine wpAnyH_take (i := 8) (v := ?_) rfl (by kernel_rfl) (by kernel_rfl) (by kernel_rfl) (fun _ _ _ h => h) (Or.inl ⟨by rfl, ?_⟩) hHeld ?_
                                        rotate_left
                                        · intro w hSw
                                          (try dsimp only at hSw)
                                          go_simp
                                          try with_reducible rfl
                                        go_simp
                                        refine wpAnyH_take (i := 9) (v := ?_) rfl (by kernel_rfl) (by kernel_rfl) (by kernel_rfl) (fun _ _ _ h => h) (Or.inl ⟨by rfl, ?_⟩) hHeld ?_
                                        rotate_left
                                        · intro w hSw
                                          (try dsimp only at hSw)
                                          go_simp
                                          try with_reducible rfl
                                        go_simp
                                        refine wpAnyH_take (i := 10) (v := ?_) rfl (by kernel_rfl) (by kernel_rfl) (by kernel_rfl) (fun _ _ _ h => h) (Or.inl ⟨by rfl, ?_⟩) hHeld ?_
                                        rotate_left
                                        · intro w hSw
                                          (try dsimp only at hSw)
                                          go_simp
                                          try with_reducible rfl
                                        go_simp
                                        refine wpAnyH_take (i := 11) (v := ?_) rfl (by kernel_rfl) (by kernel_rfl) (by kernel_rfl) (fun _ _ _ h => h) (Or.inl ⟨by rfl, ?_⟩) hHeld ?_
                                        rotate_left
                                        · intro w hSw
                                          (try dsimp only at hSw)
                                          go_simp
                                          try with_reducible rfl
                                        go_simp
                                        refine wpAnyH_done (by kernel_rfl) ?_ _
                                        refine NoPanic.normal ?_
                                        go_wp2_with fail
                                        with_reducible refine (C4.out _).mono ?_
                                        rintro e wz ⟨rfl, bz9⟩
                                        have HZ9 := Lib.hid ((HBD.out).trans (bz9.mono HBD.out.size))
                                        clear bz9
                                        go_wp2
                                        go_ret
                                        exact ⟨rfl, HQc.out.trans ((HW15.out.trans (HZ9.out.mono HW15.out.size)).mono HQc.out.size)⟩
                                    · have z3 : (v3 == u3) = false := by simpa using c3
                                      refine wp_region_noPanic ?_
                                      refine wp_region_held_drew (S := (fun V => (V.cell? ⟨wr.heap.size, 0, none⟩ = some (.int .i64 v0) ∧ V.cell? ⟨wr.heap.size, 1, none⟩ = some (.int .i64 v1) ∧ V.cell? ⟨wr.heap.size, 2, none⟩ = some (.int .i64 v2) ∧ V.cell? ⟨wr.heap.size, 3, none⟩ = some (.int .i64 u3) ∧ V.cell? ⟨wr.heap.size, 4, none⟩ = some (.string u4)) ∧ (V.cell? ⟨bB, of2 + k2 * 5, none⟩ = some (.int .i64 v0) ∧ V.cell? ⟨bB, of2 + k2 * 5 + 1, none⟩ = some (.int .i64 v1) ∧ V.cell? ⟨bB, of2 + k2 * 5 + 2, none⟩ = some (.int .i64 v2) ∧ V.cell? ⟨bB, of2 + k2 * 5 + 3, none⟩ = some (.int .i64 v3) ∧ V.cell? ⟨bB, of2 + k2 * 5 + 4, none⟩ = some (.string v4)))) (by kernel_rfl) (HS.out) (fun hHeld => ?_)
                                      refine wpAnyH_take (i := 0) (v := ?_) rfl (by kernel_rfl) (by kernel_rfl) (by kernel_rfl) (fun _ _ _ h => h) (Or.inl ⟨by rfl, ?_⟩) hHeld ?_
                                      rotate_left
                                      · intro w hSw
                                        (try dsimp only at hSw)
                                        go_simp
                                        try with_reducible rfl
                                      go_simp
                                      refine wpAnyH_take (i := 1) (v := ?_) rfl (by kernel_rfl) (by kernel_rfl) (by kernel_rfl) (fun _ _ _ h => h) (Or.inl ⟨by rfl, ?_⟩) hHeld ?_
                                      rotate_left
                                      · intro w hSw
                                        (try dsimp only at hSw)
                                        go_simp
                                        try with_reducible rfl
                                      go_simp
                                      refine wpAnyH_take (i := 2) (v := ?_) rfl (by kernel_rfl) (by kernel_rfl) (by kernel_rfl) (fun _ _ _ h => h) (Or.inl ⟨by rfl, ?_⟩) hHeld ?_
                                      rotate_left
                                      · intro w hSw
                                        (try dsimp only at hSw)
                                        go_simp
                                        try with_reducible rfl
                                      go_simp
                                      refine wpAnyH_take (i := 3) (v := ?_) rfl (by kernel_rfl) (by kernel_rfl) (by kernel_rfl) (fun _ _ _ h => h) (Or.inl ⟨by rfl, ?_⟩) hHeld ?_
                                      rotate_left
                                      · intro w hSw
                                        (try dsimp only at hSw)
                                        go_simp
                                        try with_reducible rfl
                                      go_simp
                                      refine wpAnyH_take (i := 4) (v := ?_) rfl (by kernel_rfl) (by kernel_rfl) (by kernel_rfl) (fun _ _ _ h => h) (Or.inl ⟨by rfl, ?_⟩) hHeld ?_
                                      rotate_left
                                      · intro w hSw
                                        (try dsimp only at hSw)
                                        go_simp
                                        try with_reducible rfl
                                      go_simp
                                      refine wpAnyH_take (i := 5) (v := ?_) rfl (by kernel_rfl) (by kernel_rfl) (by kernel_rfl) (fun _ _ _ h => h) (Or.inl ⟨by rfl, ?_⟩) hHeld ?_
                                      rotate_left
                                      · intro w hSw
                                        (try dsimp only at hSw)
                                        go_simp
                                        try with_reducible rfl
                                      go_simp
                                      refine wpAnyH_take (i := 6) (v := ?_) rfl (by kernel_rfl) (by kernel_rfl) (by kernel_rfl) (fun _ _ _ h => h) (Or.inl ⟨by rfl, ?_⟩) hHeld ?_
                                      rotate_left
                                      · intro w hSw
                                        (try dsimp only at hSw)
                                        go_simp
                                        try with_reducible rfl
                                      go_simp
                                      refine wpAnyH_take (i := 7) (v := ?_) rfl (by kernel_rfl) (by kernel_rfl) (by kernel_rfl) (fun _ _ _ h => h) (Or.inl ⟨by rfl, ?_⟩) hHeld ?_
                                      rotate_left
                                      · intro w hSw
                                        (try dsimp only at hSw)
                                        go_simp
                                        try with_reducible rfl
                                      go_simp
                                      refine wpAnyH_take (i := 8) (v := ?_) rfl (by kernel_rfl) (by kernel_rfl) (by kernel_rfl) (fun _ _ _ h => h) (Or.inl ⟨by rfl, ?_⟩) hHeld ?_
                                      rotate_left
                                      · intro w hSw
                                        (try dsimp only at hSw)
                                        go_simp
                                        try with_reducible rfl
                                      go_simp
                                      refine wpAnyH_take (i := 9) (v := ?_) rfl (by kernel_rfl) (by kernel_rfl) (by kernel_rfl) (fun _ _ _ h => h) (Or.inl ⟨by rfl, ?_⟩) hHeld ?_
                                      rotate_left
                                      · intro w hSw
                                        (try dsimp only at hSw)
                                        go_simp
                                        try with_reducible rfl
                                      go_simp
                                      refine wpAnyH_take (i := 10) (v := ?_) rfl (by kernel_rfl) (by kernel_rfl) (by kernel_rfl) (fun _ _ _ h => h) (Or.inl ⟨by rfl, ?_⟩) hHeld ?_
                                      rotate_left
                                      · intro w hSw
                                        (try dsimp only at hSw)
                                        go_simp
                                        try with_reducible rfl
                                      go_simp
                                      refine wpAnyH_take (i := 11) (v := ?_) rfl (by kernel_rfl) (by kernel_rfl) (by kernel_rfl) (fun _ _ _ h => h) (Or.inl ⟨by rfl, ?_⟩) hHeld ?_
                                      rotate_left
                                      · intro w hSw
                                        (try dsimp only at hSw)
                                        go_simp
                                        try with_reducible rfl
                                      go_simp
                                      refine wpAnyH_done (by kernel_rfl) ?_ _
                                      refine NoPanic.normal ?_
                                      go_wp2_with fail
                                      with_reducible refine (C4.out _).mono ?_
                                      rintro e wz ⟨rfl, bz9⟩
                                      have HZ9 := Lib.hid ((HBD.out).trans (bz9.mono HBD.out.size))
                                      clear bz9
                                      go_wp2
                                      go_ret
                                      exact ⟨rfl, HQc.out.trans ((HW15.out.trans (HZ9.out.mono HW15.out.size)).mono HQc.out.size)⟩
                                  · have z2 : (v2 == u2) = false := by simpa using c2
                                    refine wp_region_noPanic ?_
                                    refine wp_region_held_drew (S := (fun V => (V.cell? ⟨wr.heap.size, 0, none⟩ = some (.int .i64 v0) ∧ V.cell? ⟨wr.heap.size, 1, none⟩ = some (.int .i64 v1) ∧ V.cell? ⟨wr.heap.size, 2, none⟩ = some (.int .i64 u2) ∧ V.cell? ⟨wr.heap.size, 3, none⟩ = some (.int .i64 u3) ∧ V.cell? ⟨wr.heap.size, 4, none⟩ = some (.string u4)) ∧ (V.cell? ⟨bB, of2 + k2 * 5, none⟩ = some (.int .i64 v0) ∧ V.cell? ⟨bB, of2 + k2 * 5 + 1, none⟩ = some (.int .i64 v1) ∧ V.cell? ⟨bB, of2 + k2 * 5 + 2, none⟩ = some (.int .i64 v2) ∧ V.cell? ⟨bB, of2 + k2 * 5 + 3, none⟩ = some (.int .i64 v3) ∧ V.cell? ⟨bB, of2 + k2 * 5 + 4, none⟩ = some (.string v4)))) (by kernel_rfl) (HS.out) (fun hHeld => ?_)
                                    refine wpAnyH_take (i := 0) (v := ?_) rfl (by kernel_rfl) (by kernel_rfl) (by kernel_rfl) (fun _ _ _ h => h) (Or.inl ⟨by rfl, ?_⟩) hHeld ?_
                                    rotate_left
                                    · intro w hSw
                                      (try dsimp only at hSw)
                                      go_simp
                                      try with_reducible rfl
                                    go_simp
                                    refine wpAnyH_take (i := 1) (v := ?_) rfl (by kernel_rfl) (by kernel_rfl) (by kernel_rfl) (fun _ _ _ h => h) (Or.inl ⟨by rfl, ?_⟩) hHeld ?_
                                    rotate_left
                                    · intro w hSw
                                      (try dsimp only at hSw)
                                      go_simp
                                      try with_reducible rfl
                                    go_simp
                                    refine wpAnyH_take (i := 2) (v := ?_) rfl (by kernel_rfl) (by kernel_rfl) (by kernel_rfl) (fun _ _ _ h => h) (Or.inl ⟨by rfl, ?_⟩) hHeld ?_
                                    rotate_left
                                    · intro w hSw
                                      (try dsimp only at hSw)
                                      go_simp
                                      try with_reducible rfl
                                    go_simp
                                    refine wpAnyH_take (i := 3) (v := ?_) rfl (by kernel_rfl) (by kernel_rfl) (by kernel_rfl) (fun _ _ _ h => h) (Or.inl ⟨by rfl, ?_⟩) hHeld ?_
                                    rotate_left
                                    · intro w hSw
                                      (try dsimp only at hSw)
                                      go_simp
                                      try with_reducible rfl
                                    go_simp
                                    refine wpAnyH_take (i := 4) (v := ?_) rfl (by kernel_rfl) (by kernel_rfl) (by kernel_rfl) (fun _ _ _ h => h) (Or.inl ⟨by rfl, ?_⟩) hHeld ?_
                                    rotate_left
                                    · intro w hSw
                                      (try dsimp only at hSw)
                                      go_simp
                                      try with_reducible rfl
                                    go_simp
                                    refine wpAnyH_take (i := 5) (v := ?_) rfl (by kernel_rfl) (by kernel_rfl) (by kernel_rfl) (fun _ _ _ h => h) (Or.inl ⟨by rfl, ?_⟩) hHeld ?_
                                    rotate_left
                                    · intro w hSw
                                      (try dsimp only at hSw)
                                      go_simp
                                      try with_reducible rfl
                                    go_simp
                                    refine wpAnyH_take (i := 6) (v := ?_) rfl (by kernel_rfl) (by kernel_rfl) (by kernel_rfl) (fun _ _ _ h => h) (Or.inl ⟨by rfl, ?_⟩) hHeld ?_
                                    rotate_left
                                    · intro w hSw
                                      (try dsimp only at hSw)
                                      go_simp
                                      try with_reducible rfl
                                    go_simp
                                    refine wpAnyH_take (i := 7) (v := ?_) rfl (by kernel_rfl) (by kernel_rfl) (by kernel_rfl) (fun _ _ _ h => h) (Or.inl ⟨by rfl, ?_⟩) hHeld ?_
                                    rotate_left
                                    · intro w hSw
                                      (try dsimp only at hSw)
                                      go_simp
                                      try with_reducible rfl
                                    go_simp
                                    refine wpAnyH_take (i := 8) (v := ?_) rfl (by kernel_rfl) (by kernel_rfl) (by kernel_rfl) (fun _ _ _ h => h) (Or.inl ⟨by rfl, ?_⟩) hHeld ?_
                                    rotate_left
                                    · intro w hSw
                                      (try dsimp only at hSw)
                                      go_simp
                                      try with_reducible rfl
                                    go_simp
                                    refine wpAnyH_take (i := 9) (v := ?_) rfl (by kernel_rfl) (by kernel_rfl) (by kernel_rfl) (fun _ _ _ h => h) (Or.inl ⟨by rfl, ?_⟩) hHeld ?_
                                    rotate_left
                                    · intro w hSw
                                      (try dsimp only at hSw)
                                      go_simp
                                      try with_reducible rfl
                                    go_simp
                                    refine wpAnyH_take (i := 10) (v := ?_) rfl (by kernel_rfl) (by kernel_rfl) (by kernel_rfl) (fun _ _ _ h => h) (Or.inl ⟨by rfl, ?_⟩) hHeld ?_
                                    rotate_left
                                    · intro w hSw
                                      (try dsimp only at hSw)
                                      go_simp
                                      try with_reducible rfl
                                    go_simp
                                    refine wpAnyH_take (i := 11) (v := ?_) rfl (by kernel_rfl) (by kernel_rfl) (by kernel_rfl) (fun _ _ _ h => h) (Or.inl ⟨by rfl, ?_⟩) hHeld ?_
                                    rotate_left
                                    · intro w hSw
                                      (try dsimp only at hSw)
                                      go_simp
                                      try with_reducible rfl
                                    go_simp
                                    refine wpAnyH_done (by kernel_rfl) ?_ _
                                    refine NoPanic.normal ?_
                                    go_wp2_with fail
                                    with_reducible refine (C4.out _).mono ?_
                                    rintro e wz ⟨rfl, bz9⟩
                                    have HZ9 := Lib.hid ((HBD.out).trans (bz9.mono HBD.out.size))
                                    clear bz9
                                    go_wp2
                                    go_ret
                                    exact ⟨rfl, HQc.out.trans ((HW15.out.trans (HZ9.out.mono HW15.out.size)).mono HQc.out.size)⟩
                                · have z1 : (v1 == u1) = false := by simpa using c1
                                  refine wp_region_noPanic ?_
                                  refine wp_region_held_drew (S := (fun V => (V.cell? ⟨wr.heap.size, 0, none⟩ = some (.int .i64 v0) ∧ V.cell? ⟨wr.heap.size, 1, none⟩ = some (.int .i64 u1) ∧ V.cell? ⟨wr.heap.size, 2, none⟩ = some (.int .i64 u2) ∧ V.cell? ⟨wr.heap.size, 3, none⟩ = some (.int .i64 u3) ∧ V.cell? ⟨wr.heap.size, 4, none⟩ = some (.string u4)) ∧ (V.cell? ⟨bB, of2 + k2 * 5, none⟩ = some (.int .i64 v0) ∧ V.cell? ⟨bB, of2 + k2 * 5 + 1, none⟩ = some (.int .i64 v1) ∧ V.cell? ⟨bB, of2 + k2 * 5 + 2, none⟩ = some (.int .i64 v2) ∧ V.cell? ⟨bB, of2 + k2 * 5 + 3, none⟩ = some (.int .i64 v3) ∧ V.cell? ⟨bB, of2 + k2 * 5 + 4, none⟩ = some (.string v4)))) (by kernel_rfl) (HS.out) (fun hHeld => ?_)
                                  refine wpAnyH_take (i := 0) (v := ?_) rfl (by kernel_rfl) (by kernel_rfl) (by kernel_rfl) (fun _ _ _ h => h) (Or.inl ⟨by rfl, ?_⟩) hHeld ?_
                                  rotate_left
                                  · intro w hSw
                                    (try dsimp only at hSw)
                                    go_simp
                                    try with_reducible rfl
                                  go_simp
                                  refine wpAnyH_take (i := 1) (v := ?_) rfl (by kernel_rfl) (by kernel_rfl) (by kernel_rfl) (fun _ _ _ h => h) (Or.inl ⟨by rfl, ?_⟩) hHeld ?_
                                  rotate_left
                                  · intro w hSw
                                    (try dsimp only at hSw)
                                    go_simp
                                    try with_reducible rfl
                                  go_simp
                                  refine wpAnyH_take (i := 2) (v := ?_) rfl (by kernel_rfl) (by kernel_rfl) (by kernel_rfl) (fun _ _ _ h => h) (Or.inl ⟨by rfl, ?_⟩) hHeld ?_
                                  rotate_left
                                  · intro w hSw
                                    (try dsimp only at hSw)
                                    go_simp
                                    try with_reducible rfl
                                  go_simp
                                  refine wpAnyH_take (i := 3) (v := ?_) rfl (by kernel_rfl) (by kernel_rfl) (by kernel_rfl) (fun _ _ _ h => h) (Or.inl ⟨by rfl, ?_⟩) hHeld ?_
                                  rotate_left
                                  · intro w hSw
                                    (try dsimp only at hSw)
                                    go_simp
                                    try with_reducible rfl
                                  go_simp
                                  refine wpAnyH_take (i := 4) (v := ?_) rfl (by kernel_rfl) (by kernel_rfl) (by kernel_rfl) (fun _ _ _ h => h) (Or.inl ⟨by rfl, ?_⟩) hHeld ?_
                                  rotate_left
                                  · intro w hSw
                                    (try dsimp only at hSw)
                                    go_simp
                                    try with_reducible rfl
                                  go_simp
                                  refine wpAnyH_take (i := 5) (v := ?_) rfl (by kernel_rfl) (by kernel_rfl) (by kernel_rfl) (fun _ _ _ h => h) (Or.inl ⟨by rfl, ?_⟩) hHeld ?_
                                  rotate_left
                                  · intro w hSw
                                    (try dsimp only at hSw)
                                    go_simp
                                    try with_reducible rfl
                                  go_simp
                                  refine wpAnyH_take (i := 6) (v := ?_) rfl (by kernel_rfl) (by kernel_rfl) (by kernel_rfl) (fun _ _ _ h => h) (Or.inl ⟨by rfl, ?_⟩) hHeld ?_
                                  rotate_left
                                  · intro w hSw
                                    (try dsimp only at hSw)
                                    go_simp
                                    try with_reducible rfl
                                  go_simp
                                  refine wpAnyH_take (i := 7) (v := ?_) rfl (by kernel_rfl) (by kernel_rfl) (by kernel_rfl) (fun _ _ _ h => h) (Or.inl ⟨by rfl, ?_⟩) hHeld ?_
                                  rotate_left
                                  · intro w hSw
                                    (try dsimp only at hSw)
                                    go_simp
                                    try with_reducible rfl
                                  go_simp
                                  refine wpAnyH_take (i := 8) (v := ?_) rfl (by kernel_rfl) (by kernel_rfl) (by kernel_rfl) (fun _ _ _ h => h) (Or.inl ⟨by rfl, ?_⟩) hHeld ?_
                                  rotate_left
                                  · intro w hSw
                                    (try dsimp only at hSw)
                                    go_simp
                                    try with_reducible rfl
                                  go_simp
                                  refine wpAnyH_take (i := 9) (v := ?_) rfl (by kernel_rfl) (by kernel_rfl) (by kernel_rfl) (fun _ _ _ h => h) (Or.inl ⟨by rfl, ?_⟩) hHeld ?_
                                  rotate_left
                                  · intro w hSw
                                    (try dsimp only at hSw)
                                    go_simp
                                    try with_reducible rfl
                                  go_simp
                                  refine wpAnyH_take (i := 10) (v := ?_) rfl (by kernel_rfl) (by kernel_rfl) (by kernel_rfl) (fun _ _ _ h => h) (Or.inl ⟨by rfl, ?_⟩) hHeld ?_
                                  rotate_left
                                  · intro w hSw
                                    (try dsimp only at hSw)
                                    go_simp
                                    try with_reducible rfl
                                  go_simp
                                  refine wpAnyH_take (i := 11) (v := ?_) rfl (by kernel_rfl) (by kernel_rfl) (by kernel_rfl) (fun _ _ _ h => h) (Or.inl ⟨by rfl, ?_⟩) hHeld ?_
                                  rotate_left
                                  · intro w hSw
                                    (try dsimp only at hSw)
                                    go_simp
                                    try with_reducible rfl
                                  go_simp
                                  refine wpAnyH_done (by kernel_rfl) ?_ _
                                  refine NoPanic.normal ?_
                                  go_wp2_with fail
                                  with_reducible refine (C4.out _).mono ?_
                                  rintro e wz ⟨rfl, bz9⟩
                                  have HZ9 := Lib.hid ((HBD.out).trans (bz9.mono HBD.out.size))
                                  clear bz9
                                  go_wp2
                                  go_ret
                                  exact ⟨rfl, HQc.out.trans ((HW15.out.trans (HZ9.out.mono HW15.out.size)).mono HQc.out.size)⟩
                              · have z0 : (v0 == u0) = false := by simpa using c0
                                refine wp_region_noPanic ?_
                                refine wp_region_held_drew (S := (fun V => (V.cell? ⟨wr.heap.size, 0, none⟩ = some (.int .i64 u0) ∧ V.cell? ⟨wr.heap.size, 1, none⟩ = some (.int .i64 u1) ∧ V.cell? ⟨wr.heap.size, 2, none⟩ = some (.int .i64 u2) ∧ V.cell? ⟨wr.heap.size, 3, none⟩ = some (.int .i64 u3) ∧ V.cell? ⟨wr.heap.size, 4, none⟩ = some (.string u4)) ∧ (V.cell? ⟨bB, of2 + k2 * 5, none⟩ = some (.int .i64 v0) ∧ V.cell? ⟨bB, of2 + k2 * 5 + 1, none⟩ = some (.int .i64 v1) ∧ V.cell? ⟨bB, of2 + k2 * 5 + 2, none⟩ = some (.int .i64 v2) ∧ V.cell? ⟨bB, of2 + k2 * 5 + 3, none⟩ = some (.int .i64 v3) ∧ V.cell? ⟨bB, of2 + k2 * 5 + 4, none⟩ = some (.string v4)))) (by kernel_rfl) (HS.out) (fun hHeld => ?_)
                                refine wpAnyH_take (i := 0) (v := ?_) rfl (by kernel_rfl) (by kernel_rfl) (by kernel_rfl) (fun _ _ _ h => h) (Or.inl ⟨by rfl, ?_⟩) hHeld ?_
                                rotate_left
                                · intro w hSw
                                  (try dsimp only at hSw)
                                  go_simp
                                  try with_reducible rfl
                                go_simp
                                refine wpAnyH_take (i := 1) (v := ?_) rfl (by kernel_rfl) (by kernel_rfl) (by kernel_rfl) (fun _ _ _ h => h) (Or.inl ⟨by rfl, ?_⟩) hHeld ?_
                                rotate_left
                                · intro w hSw
                                  (try dsimp only at hSw)
                                  go_simp
                                  try with_reducible rfl
                                go_simp
                                refine wpAnyH_take (i := 2) (v := ?_) rfl (by kernel_rfl) (by kernel_rfl) (by kernel_rfl) (fun _ _ _ h => h) (Or.inl ⟨by rfl, ?_⟩) hHeld ?_
                                rotate_left
                                · intro w hSw
                                  (try dsimp only at hSw)
                                  go_simp
                                  try with_reducible rfl
                                go_simp
                                refine wpAnyH_take (i := 3) (v := ?_) rfl (by kernel_rfl) (by kernel_rfl) (by kernel_rfl) (fun _ _ _ h => h) (Or.inl ⟨by rfl, ?_⟩) hHeld ?_
                                rotate_left
                                · intro w hSw
                                  (try dsimp only at hSw)
                                  go_simp
                                  try with_reducible rfl
                                go_simp
                                refine wpAnyH_take (i := 4) (v := ?_) rfl (by kernel_rfl) (by kernel_rfl) (by kernel_rfl) (fun _ _ _ h => h) (Or.inl ⟨by rfl, ?_⟩) hHeld ?_
                                rotate_left
                                · intro w hSw
                                  (try dsimp only at hSw)
                                  go_simp
                                  try with_reducible rfl
                                go_simp
                                refine wpAnyH_take (i := 5) (v := ?_) rfl (by kernel_rfl) (by kernel_rfl) (by kernel_rfl) (fun _ _ _ h => h) (Or.inl ⟨by rfl, ?_⟩) hHeld ?_
                                rotate_left
                                · intro w hSw
                                  (try dsimp only at hSw)
                                  go_simp
                                  try with_reducible rfl
                                go_simp
                                refine wpAnyH_take (i := 6) (v := ?_) rfl (by kernel_rfl) (by kernel_rfl) (by kernel_rfl) (fun _ _ _ h => h) (Or.inl ⟨by rfl, ?_⟩) hHeld ?_
                                rotate_left
                                · intro w hSw
                                  (try dsimp only at hSw)
                                  go_simp
                                  try with_reducible rfl
                                go_simp
                                refine wpAnyH_take (i := 7) (v := ?_) rfl (by kernel_rfl) (by kernel_rfl) (by kernel_rfl) (fun _ _ _ h => h) (Or.inl ⟨by rfl, ?_⟩) hHeld ?_
                                rotate_left
                                · intro w hSw
                                  (try dsimp only at hSw)
                                  go_simp
                                  try with_reducible rfl
                                go_simp
                                refine wpAnyH_take (i := 8) (v := ?_) rfl (by kernel_rfl) (by kernel_rfl) (by kernel_rfl) (fun _ _ _ h => h) (Or.inl ⟨by rfl, ?_⟩) hHeld ?_
                                rotate_left
                                · intro w hSw
                                  (try dsimp only at hSw)
                                  go_simp
                                  try with_reducible rfl
                                go_simp
                                refine wpAnyH_take (i := 9) (v := ?_) rfl (by kernel_rfl) (by kernel_rfl) (by kernel_rfl) (fun _ _ _ h => h) (Or.inl ⟨by rfl, ?_⟩) hHeld ?_
                                rotate_left
                                · intro w hSw
                                  (try dsimp only at hSw)
                                  go_simp
                                  try with_reducible rfl
                                go_simp
                                refine wpAnyH_take (i := 10) (v := ?_) rfl (by kernel_rfl) (by kernel_rfl) (by kernel_rfl) (fun _ _ _ h => h) (Or.inl ⟨by rfl, ?_⟩) hHeld ?_
                                rotate_left
                                · intro w hSw
                                  (try dsimp only at hSw)
                                  go_simp
                                  try with_reducible rfl
                                go_simp
                                refine wpAnyH_take (i := 11) (v := ?_) rfl (by kernel_rfl) (by kernel_rfl) (by kernel_rfl) (fun _ _ _ h => h) (Or.inl ⟨by rfl, ?_⟩) hHeld ?_
                                rotate_left
                                · intro w hSw
                                  (try dsimp only at hSw)
                                  go_simp
                                  try with_reducible rfl
                                go_simp
                                refine wpAnyH_done (by kernel_rfl) ?_ _
                                refine NoPanic.normal ?_
                                go_wp2_with fail
                                with_reducible refine (C4.out _).mono ?_
                                rintro e wz ⟨rfl, bz9⟩
                                have HZ9 := Lib.hid ((HBD.out).trans (bz9.mono HBD.out.size))
                                clear bz9
                                go_wp2
                                go_ret
                                exact ⟨rfl, HQc.out.trans ((HW15.out.trans (HZ9.out.mono HW15.out.size)).mono HQc.out.size)⟩
                            · have kq : decide ((q : Int) ≤ k2) = true := decide_eq_true (by omega)
                              have kqn : decide (q ≤ k2) = true := decide_eq_true (by omega)
                              go_upto_region 29 with fail
                              have HS : Hid ((fun V => (V.cell? ⟨wr.heap.size, 0, none⟩ = some (.int .i64 a.id) ∧ V.cell? ⟨wr.heap.size, 1, none⟩ = some (.int .i64 a.pl) ∧ V.cell? ⟨wr.heap.size, 2, none⟩ = some (.int .i64 a.bi) ∧ V.cell? ⟨wr.heap.size, 3, none⟩ = some (.int .i64 a.ky) ∧ V.cell? ⟨wr.heap.size, 4, none⟩ = some (.string a.tx))) (wr.alloc (.cells #[.int .i64 a.id, .int .i64 a.pl, .int .i64 a.bi, .int .i64 a.ky, .string a.tx] 48)).drew) := Lib.hid ⟨RawAt.cell (RawAt.drew_ R3) 0, RawAt.cell (RawAt.drew_ R3) 1, RawAt.cell (RawAt.drew_ R3) 2, RawAt.cell (RawAt.drew_ R3) 3, RawAt.cell (RawAt.drew_ R3) 4⟩
                              refine wp_region_noPanic ?_
                              refine wp_region_held_drew (S := (fun V => (V.cell? ⟨wr.heap.size, 0, none⟩ = some (.int .i64 a.id) ∧ V.cell? ⟨wr.heap.size, 1, none⟩ = some (.int .i64 a.pl) ∧ V.cell? ⟨wr.heap.size, 2, none⟩ = some (.int .i64 a.bi) ∧ V.cell? ⟨wr.heap.size, 3, none⟩ = some (.int .i64 a.ky) ∧ V.cell? ⟨wr.heap.size, 4, none⟩ = some (.string a.tx)))) (by kernel_rfl) (HS.out) (fun hHeld => ?_)
                              refine wpAnyH_take (i := 0) (v := ?_) rfl (by kernel_rfl) (by kernel_rfl) (by kernel_rfl) (fun _ _ _ h => h) (Or.inl ⟨by rfl, ?_⟩) hHeld ?_
                              rotate_left
                              · intro w hSw
                                (try dsimp only at hSw)
                                go_simp
                                try with_reducible rfl
                              go_simp
                              refine wpAnyH_take (i := 1) (v := ?_) rfl (by kernel_rfl) (by kernel_rfl) (by kernel_rfl) (fun _ _ _ h => h) (Or.inl ⟨by rfl, ?_⟩) hHeld ?_
                              rotate_left
                              · intro w hSw
                                (try dsimp only at hSw)
                                go_simp
                                try with_reducible rfl
                              go_simp
                              refine wpAnyH_take (i := 2) (v := ?_) rfl (by kernel_rfl) (by kernel_rfl) (by kernel_rfl) (fun _ _ _ h => h) (Or.inl ⟨by rfl, ?_⟩) hHeld ?_
                              rotate_left
                              · intro w hSw
                                (try dsimp only at hSw)
                                go_simp
                                try with_reducible rfl
                              go_simp
                              refine wpAnyH_take (i := 3) (v := ?_) rfl (by kernel_rfl) (by kernel_rfl) (by kernel_rfl) (fun _ _ _ h => h) (Or.inl ⟨by rfl, ?_⟩) hHeld ?_
                              rotate_left
                              · intro w hSw
                                (try dsimp only at hSw)
                                go_simp
                                try with_reducible rfl
                              go_simp
                              refine wpAnyH_take (i := 4) (v := ?_) rfl (by kernel_rfl) (by kernel_rfl) (by kernel_rfl) (fun _ _ _ h => h) (Or.inl ⟨by rfl, ?_⟩) hHeld ?_
                              rotate_left
                              · intro w hSw
                                (try dsimp only at hSw)
                                go_simp
                                try with_reducible rfl
                              go_simp
                              refine wpAnyH_take (i := 5) (v := undef) rfl (by kernel_rfl) (by kernel_rfl) (by kernel_rfl) (fun _ _ _ h => h) (Or.inr ⟨by rfl, rfl⟩) hHeld ?_
                              go_simp
                              refine wpAnyH_take (i := 6) (v := undef) rfl (by kernel_rfl) (by kernel_rfl) (by kernel_rfl) (fun _ _ _ h => h) (Or.inr ⟨by rfl, rfl⟩) hHeld ?_
                              go_simp
                              refine wpAnyH_take (i := 7) (v := undef) rfl (by kernel_rfl) (by kernel_rfl) (by kernel_rfl) (fun _ _ _ h => h) (Or.inr ⟨by rfl, rfl⟩) hHeld ?_
                              go_simp
                              refine wpAnyH_take (i := 8) (v := undef) rfl (by kernel_rfl) (by kernel_rfl) (by kernel_rfl) (fun _ _ _ h => h) (Or.inr ⟨by rfl, rfl⟩) hHeld ?_
                              go_simp
                              refine wpAnyH_take (i := 9) (v := undef) rfl (by kernel_rfl) (by kernel_rfl) (by kernel_rfl) (fun _ _ _ h => h) (Or.inr ⟨by rfl, rfl⟩) hHeld ?_
                              go_simp
                              refine wpAnyH_take (i := 10) (v := undef) rfl (by kernel_rfl) (by kernel_rfl) (by kernel_rfl) (fun _ _ _ h => h) (Or.inr ⟨by rfl, rfl⟩) hHeld ?_
                              go_simp
                              refine wpAnyH_take (i := 11) (v := ?_) rfl (by kernel_rfl) (by kernel_rfl) (by kernel_rfl) (fun _ _ _ h => h) (Or.inl ⟨by rfl, ?_⟩) hHeld ?_
                              rotate_left
                              · intro w hSw
                                (try dsimp only at hSw)
                                go_simp
                                try with_reducible rfl
                              go_simp
                              refine wpAnyH_done (by kernel_rfl) ?_ _
                              refine NoPanic.normal ?_
                              go_wp2_with fail
                              with_reducible refine (C4.out _).mono ?_
                              rintro e wz ⟨rfl, bz9⟩
                              have HZ9 := Lib.hid ((HBD.out).trans (bz9.mono HBD.out.size))
                              clear bz9
                              go_wp2
                              go_ret
                              exact ⟨rfl, HQc.out.trans ((HW15.out.trans (HZ9.out.mono HW15.out.size)).mono HQc.out.size)⟩
                          · have k2' : decide (t < a.pl) = false := decide_eq_false g2
                            have HN := HWS.out
                            rw [if_neg (by omega)] at HN
                            have HN := Lib.hid (HN.trans hJ.out)
                            clear HWS
                            go_wp2
                            go_roundg (gk - 1)
                            case measure => omega
                            case rel => exact ⟨j + 1, k2, rfl, by go_num, by omega, by omega, by omega, HN, HB3⟩
                      · obtain rfl : m3 = j := by omega
                        have e2 : o2.take m3 = o2 := List.take_of_length_le (by rw [HM3.out]; exact Nat.le_refl _)
                        have hJ2 := hJ.out
                        rw [e2] at hJ2
                        have HJ := Lib.hid hJ2
                        have HWz := Lib.hid (HW15.out.trans (hb.out.mono HW15.out.size))
                        clear e2 hJ2
                        by_cases gq : k2 < q
                        · have kq : decide ((k2 : Int) < q) = true := decide_eq_true (by omega)
                          go_wp2_with fail
                          with_reducible refine (C4.out _).mono ?_
                          rintro e wz ⟨rfl, bz9⟩
                          have HZ9 := Lib.hid (HWz.out.trans (bz9.mono HWz.out.size))
                          clear bz9
                          go_wp2
                          go_ret
                          exact ⟨rfl, HQc.out.trans (HZ9.out.mono HQc.out.size)⟩
                        · have kq : decide ((k2 : Int) < q) = false := decide_eq_false (by omega)
                          have hkq : k2 = bs.length := by rw [← HQL.out]; omega
                          have hL : L10 = wvP 0 o2 N := HL10.out (wbes_turn GF.out.2.1 (by rw [HJ.out, ← HBS.out, hkq, List.take_length]))
                          have HT := HT14
                          rw [hL] at HT
                          have HWX := Lib.hid (HV15.out.trans (hb.out.mono HV15.out.size))
                          have CY := Lib.hid (is14_yes (HT.out.below HWX.out) HOS2.out.wv 0 A3 m3 c3 (HA3.out.below HWz.out) HM3.out (by omega) (by omega) (fun a ha => (HOS2.out.each a ha).2))
                          clear hkq hL
                          have z0 : wr.cell? ⟨bz, 0, none⟩ = some (.int .i64 N) := RawAt.cell (RawAt.below HZc.out HWz.out (RawAt.lt HZc.out)) 0
                          have z1 : wr.cell? ⟨bz, 1, none⟩ = some (.slice A3 m3 c3) := RawAt.cell (RawAt.below HZc.out HWz.out (RawAt.lt HZc.out)) 1
                          have z2 : wr.cell? ⟨bz, 2, none⟩ = some (.int .i64 0) := RawAt.cell (RawAt.below HZc.out HWz.out (RawAt.lt HZc.out)) 2
                          go_wp2_with fail
                          with_reducible refine (CY.out).mono ?_
                          rintro e wy ⟨rfl, by9⟩
                          have HY9 := Lib.hid (HWz.out.trans (by9.mono HWz.out.size))
                          clear by9 z0 z1 z2
                          go_wp2_with fail
                          with_reducible refine (C4.out _).mono ?_
                          rintro e wz ⟨rfl, bz9⟩
                          have HZ9 := Lib.hid (HY9.out.trans (bz9.mono HY9.out.size))
                          clear bz9
                          go_wp2
                          go_ret
                          exact ⟨rfl, HQc.out.trans (HZ9.out.mono HQc.out.size)⟩
              · skip
                have CU := Lib.hid (wvUpd_no HTc.out f t (.pointer (some ⟨sq, 0, none⟩)) (by rw [HD4.out]; exact gf))
                have CFT := Lib.hid fun (W : World) => CFT.out W false ⟨fun h => absurd h (by simp), fun h => absurd h gf⟩
                clear gf
                go_wp2_with fail
                with_reducible refine (CU.out).mono ?_
                rintro e w10 ⟨rfl, b10⟩
                have HW10 := Lib.hid b10
                clear b10 CU a0 a1
                have a0 : w10.cell? ⟨ba, 0, none⟩ = some (.int .i64 f) := RawAt.cell (RawAt.below Hac.out HW10.out (RawAt.lt Hac.out)) 0
                have a1 : w10.cell? ⟨ba, 1, none⟩ = some (.int .i64 t) := RawAt.cell (RawAt.below Hac.out HW10.out (RawAt.lt Hac.out)) 1
                go_wp2_with fail
                with_reducible refine (CFT.out _).mono ?_
                rintro e w11 ⟨rfl, b11⟩
                have HW11 := Lib.hid (HW10.out.trans (b11.mono HW10.out.size))
                clear b11 a0 a1
                go_wp2_with fail
                with_reducible refine (C4.out _).mono ?_
                rintro e wz ⟨rfl, bz9⟩
                have HZ9 := Lib.hid (HW11.out.trans (bz9.mono HW11.out.size))
                clear bz9
                go_wp2
                go_ret
                exact ⟨rfl, HQc.out.trans (HZ9.out.mono HQc.out.size)⟩
            · obtain rfl := HQ1.out hz2
              have k1 : (rs == 0) = false := by simpa using hz2
              have k2 : (rs != 0) = true := by simpa using hz2
              have z2 : wc.cell? ⟨bz, 2, none⟩ = some (.int .i64 rs) := RawAt.cell HRZ.out 2
              have HW0 : Hid (Below wc.heap.size wc wc) := Lib.hid (Below.refl _ _)
              clear HQ1 HQ2 HTX HR3 HI7 HT7
              go_wp2_with fail
              with_reducible refine (C4.out _).mono ?_
              rintro e wz ⟨rfl, bz9⟩
              have HZ9 := Lib.hid (HW0.out.trans (bz9.mono HW0.out.size))
              clear bz9
              go_wp2
              go_ret
              exact ⟨rfl, HQc.out.trans (HZ9.out.mono HQc.out.size)⟩
        · have k1 : (r == 0) = false := by simpa using hz
          have k2 : (r != 0) = true := by simpa using hz
          clear hr hI hl ht hO hc g3 g2 g4 g5 hwl hwa hta ints wfr caps rows lr la
          go_enter Tryz.func3, Tryz.ntmps3
          go_wp2_with fail
          rw [← HW1.out]
          with_reducible refine (CL1.out).mono ?_
          rintro e w2 ⟨rfl, b2⟩
          have HQ2 := Lib.hid (X1.out.trans (b2.mono X1.out.size))
          have Hb := Lib.hid (RawAt.below Hb.out b2 Hb.out.lt)
          clear b2
          have p0 : w2.cell? ⟨w.heap.size, 0, none⟩ = some (.int .i64 f) := RawAt.cell Hb.out 0
          have p1 : w2.cell? ⟨w.heap.size, 1, none⟩ = some (.int .i64 t) := RawAt.cell Hb.out 1
          have p2 : w2.cell? ⟨w.heap.size, 2, none⟩ = some (.slice RA rn rc) := RawAt.cell Hb.out 2
          have p3 : w2.cell? ⟨w.heap.size, 3, none⟩ = some (.slice BA bk bd) := RawAt.cell Hb.out 3
          go_wp2_with fail
          with_reducible refine (CL2.out _ HQ2.out).mono ?_
          rintro e w3 ⟨rfl, b3⟩
          have HQ := Lib.hid (HQ2.out.trans (b3.mono HQ2.out.size))
          have Hb := Lib.hid (RawAt.below Hb.out b3 Hb.out.lt)
          clear b3 p0 p1 p2 p3
          clear HQ2
          have p0 : w3.cell? ⟨w.heap.size, 0, none⟩ = some (.int .i64 f) := RawAt.cell Hb.out 0
          have p1 : w3.cell? ⟨w.heap.size, 1, none⟩ = some (.int .i64 t) := RawAt.cell Hb.out 1
          have p2 : w3.cell? ⟨w.heap.size, 2, none⟩ = some (.slice RA rn rc) := RawAt.cell Hb.out 2
          have p3 : w3.cell? ⟨w.heap.size, 3, none⟩ = some (.slice BA bk bd) := RawAt.cell Hb.out 3
          go_wp2_with fail
          with_reducible refine (CN.out _ HQ.out).mono ?_
          rintro e w4 ⟨p, rfl, hp1, hp2, b4⟩
          obtain rfl := hp1 hz
          have HQ4 := Lib.hid (HQ.out.trans (b4.mono HQ.out.size))
          clear b4 hp1 hp2 p0 p1 p2 p3
          go_wp2_with fail
          with_reducible refine (CR.out _ HQ4.out).mono ?_
          rintro e w5 ⟨nn, A2, m2, c2, rfl, hres, b5⟩
          have HQ5 := Lib.hid (HQ4.out.trans (b5.mono HQ4.out.size))
          have f5 := we13f' nn A2 m2 c2 r
          clear b5 hres hz
          go_wp2_with fail
          with_reducible refine (C4.out _).mono ?_
          rintro e w6 ⟨rfl, b6⟩
          have HQ6 := Lib.hid (HQ5.out.trans (b6.mono HQ5.out.size))
          clear b6
          go_wp2
          go_ret
          exact ⟨rfl, HQ6.out⟩
      · have kR : decide ((60 : Int) < rn) = true := decide_eq_true (by omega)
        clear CLO CLB hI hl hO hc ints wfr caps rows lr la ok
        go_enter Tryz.func3, Tryz.ntmps3
        go_wp2_with fail
        rw [← HW1.out]
        with_reducible refine (CL1.out).mono ?_
        rintro e w2 ⟨rfl, b2⟩
        have HQ2 := Lib.hid (X1.out.trans (b2.mono X1.out.size))
        have Hb := Lib.hid (RawAt.below Hb.out b2 Hb.out.lt)
        clear b2
        have p0 : w2.cell? ⟨w.heap.size, 0, none⟩ = some (.int .i64 f) := RawAt.cell Hb.out 0
        have p1 : w2.cell? ⟨w.heap.size, 1, none⟩ = some (.int .i64 t) := RawAt.cell Hb.out 1
        have p2 : w2.cell? ⟨w.heap.size, 2, none⟩ = some (.slice RA rn rc) := RawAt.cell Hb.out 2
        have p3 : w2.cell? ⟨w.heap.size, 3, none⟩ = some (.slice BA bk bd) := RawAt.cell Hb.out 3
        go_wp2_with fail
        with_reducible refine (CL2.out _ HQ2.out).mono ?_
        rintro e w3 ⟨rfl, b3⟩
        have HQ := Lib.hid (HQ2.out.trans (b3.mono HQ2.out.size))
        have Hb := Lib.hid (RawAt.below Hb.out b3 Hb.out.lt)
        clear b3 p0 p1 p2 p3
        have p0 : w3.cell? ⟨w.heap.size, 0, none⟩ = some (.int .i64 f) := RawAt.cell Hb.out 0
        have p1 : w3.cell? ⟨w.heap.size, 1, none⟩ = some (.int .i64 t) := RawAt.cell Hb.out 1
        have p2 : w3.cell? ⟨w.heap.size, 2, none⟩ = some (.slice RA rn rc) := RawAt.cell Hb.out 2
        have p3 : w3.cell? ⟨w.heap.size, 3, none⟩ = some (.slice BA bk bd) := RawAt.cell Hb.out 3
        go_wp2_with fail
        with_reducible refine (C4.out _).mono ?_
        rintro e w4 ⟨rfl, b4⟩
        have HQ4 := Lib.hid (HQ.out.trans (b4.mono HQ.out.size))
        clear b4
        go_wp2
        go_ret
        exact ⟨rfl, HQ4.out⟩
    · have CL2 := Lib.hid (CLB.out true ⟨fun _ => g', fun _ => rfl⟩)
      clear CLO CLB hI hl hO hc ints wfr caps rows lr la ok
      go_enter Tryz.func3, Tryz.ntmps3
      go_wp2_with fail
      rw [← HW1.out]
      with_reducible refine (CL1.out).mono ?_
      rintro e w2 ⟨rfl, b2⟩
      have HQ2 := Lib.hid (X1.out.trans (b2.mono X1.out.size))
      have Hb := Lib.hid (RawAt.below Hb.out b2 Hb.out.lt)
      clear b2
      have p0 : w2.cell? ⟨w.heap.size, 0, none⟩ = some (.int .i64 f) := RawAt.cell Hb.out 0
      have p1 : w2.cell? ⟨w.heap.size, 1, none⟩ = some (.int .i64 t) := RawAt.cell Hb.out 1
      have p2 : w2.cell? ⟨w.heap.size, 2, none⟩ = some (.slice RA rn rc) := RawAt.cell Hb.out 2
      have p3 : w2.cell? ⟨w.heap.size, 3, none⟩ = some (.slice BA bk bd) := RawAt.cell Hb.out 3
      go_wp2_with fail
      with_reducible refine (CL2.out _ HQ2.out).mono ?_
      rintro e w3 ⟨rfl, b3⟩
      have HQ := Lib.hid (HQ2.out.trans (b3.mono HQ2.out.size))
      have Hb := Lib.hid (RawAt.below Hb.out b3 Hb.out.lt)
      clear b3 p0 p1 p2 p3
      go_wp2_with fail
      with_reducible refine (C4.out _).mono ?_
      rintro e w4 ⟨rfl, b4⟩
      have HQ4 := Lib.hid (HQ.out.trans (b4.mono HQ.out.size))
      clear b4
      go_wp2
      go_ret
      exact ⟨rfl, HQ4.out⟩
  · have CL1 := Lib.hid (CLO.out true ⟨fun _ => g, fun _ => rfl⟩)
    clear CLO CLB hI hl hO hc ints wfr caps rows lr la ok
    go_enter Tryz.func3, Tryz.ntmps3
    go_wp2_with fail
    rw [← HW1.out]
    with_reducible refine (CL1.out).mono ?_
    rintro e w2 ⟨rfl, b2⟩
    have HQ2 := Lib.hid (X1.out.trans (b2.mono X1.out.size))
    have Hb := Lib.hid (RawAt.below Hb.out b2 Hb.out.lt)
    clear b2
    go_wp2_with fail
    with_reducible refine (C4.out _).mono ?_
    rintro e w4 ⟨rfl, b4⟩
    have HQ4 := Lib.hid (HQ2.out.trans (b4.mono HQ2.out.size))
    clear b4
    go_wp2
    go_ret
    exact ⟨rfl, HQ4.out⟩
end Go.Proofs.YtbeclkhahdcmbaaGreat
