/- Inlays: the law InlaysBack, walked. -/
import Derived.Test.YtmijlijgcaaiiaaInQ
import Derived.Test.YtmijlijgcaaiiaaInO
import Derived.Test.YtmijlijgcaaiiaaInE
import Derived.Test.YtmijlijgcaaiiaaInW
import Derived.Test.YtmijlijgcaaiiaaInY
import Derived.Test.YtmijlijgcaaiiaaMid
namespace Go.Proofs.Ytmijlijgcaaiiaa
open Go.RowKit Go.Sort
set_option linter.unusedVariables false
theorem iint_info : (Try.prog.info? 3).map (fun i => (i.zero, i.size, i.bytes)) = some (some (.int .i64 0), 1, 8) := by kernel_rfl
theorem iint_slt : SlT Try.prog 35 3 1 8 := slt_of Try.underlying35 iint_info rfl (by kernel_rfl)
theorem s13f (x : Int) (A : Option Addr) (m c : Nat) (r : Int) (w : World) : (Instr.field 31 (.agg #[.int .i64 x, .slice A m c, .int .i64 r]) 2).run Try.prog w = .ok (.int .i64 r) w := by kernel_rfl
theorem left_nil (o : List In) : left o [] = o := by unfold left; simp
theorem remOk_nil (o : List In) : remOk o [] := ⟨List.nodup_nil, fun x h => by cases h⟩
set_option maxHeartbeats 32000000 in
set_option maxRecDepth 100000 in
theorem inlaysBack_walk (n : Int) (A : Option Addr) (m c : Nat) (l : List In) (A' : Option Addr) (m' c' : Nat) (add : List In) (w : World) (_wf : (Lit.int .i64 n).wf = true) (hI : RowsAt encI 5 w A l) (hl : l.length = m) (hn : m ≤ maxLen) (hc : Caps A m c) (hO : ∀ s ∈ l, InOk s) (hI' : RowsAt encI 5 w A' add) (hl' : add.length = m') (hn' : m' ≤ maxLen) (hc' : Caps A' m' c') (hO' : ∀ s ∈ add, InOk s) :
    Calls Try.prog 4 #[.int .i64 n, .slice A m c, .slice A' m' c'] w fun e w' => e = .returned (.bool true) ∧ Below w.heap.size w w' := by
  have C3 := Lib.hid fun W => iThree_any W
  have tf0 := s13f
  have CL1 := Lib.hid fun (b : Bool) (hb : b = true ↔ ¬ ShortI l) => long13_any A m c l b w hI hl hn (fun x hx => (hO x hx).2.2.2.2) hb
  have CL2 := Lib.hid fun (b : Bool) (hb : b = true ↔ ¬ ShortI add) (W : World) (hW : Below w.heap.size w W) => long13_any A' m' c' add b W (hI'.below hW) hl' hn' (fun x hx => (hO' x hx).2.2.2.2) hb
  by_cases g1 : ShortI l
  · have CLF := Lib.hid (CL1.out false ⟨fun h => absurd h (by simp), fun h => absurd g1 h⟩)
    by_cases g2 : ShortI add
    · have CLG := Lib.hid (CL2.out false ⟨fun h => absurd h (by simp), fun h => absurd g2 h⟩)
      clear CL1 CL2
      have hm : m ≤ 100 := by rw [← hl]; exact g1.1
      have hm' : m' ≤ 100 := by rw [← hl']; exact g2.1
      have ht : ∀ x ∈ l, x.tx.size ≤ 100000000 := fun x hx => Nat.le_trans (g1.2 x hx) (by omega)
      have ht' : ∀ x ∈ add, x.tx.size ≤ 100000000 := fun x hx => Nat.le_trans (g2.2 x hx) (by omega)
      have hw1 : ∀ a ∈ l, (Lit.int .i64 a.id).wf = true := fun a ha => (hO a ha).1
      have hw2 : ∀ a ∈ add, (Lit.int .i64 a.id).wf = true := fun a ha => (hO' a ha).1
      obtain ⟨r, hr⟩ : ∃ r, r = iwrong n l := ⟨_, rfl⟩
      have CN := Lib.hid fun (W : World) (hW : Below w.heap.size w W) => iNew_any n A m c l W (hI.below hW) hc hl hw1 ht r hr.symm
      have CR := Lib.hid fun (W : World) (hW : Below w.heap.size w W) => rNew13_any n A m c l W (hI.below hW) hc hl ht r hr.symm
      have hol : (ord ilt (l.map icl)).length = m := by rw [(ord_perm ilt ilt_swo _).length_eq, List.length_map]; exact hl
      have how : ∀ a ∈ ord ilt (l.map icl), (Lit.int .i64 a.id).wf = true := fun a ha => by
        obtain ⟨y, hy, rfl⟩ := List.mem_map.1 ((ord_perm ilt ilt_swo _).mem_iff.1 ha)
        exact hw1 y hy
      by_cases hz : r = 0
      · have hr0 : iwrong n l = 0 := hr.symm.trans hz
        have hos := ord_size hr0
        have hoa := (ord_icl hr0).1
        have hbk := fun h2 => left_back (add := add) hr0 h2
        obtain ⟨o, ho⟩ : ∃ o, o = ord ilt (l.map icl) := ⟨_, rfl⟩
        rw [← ho] at hol how hos hoa CN hbk
        have HOO := Lib.hid ho
        obtain ⟨r2, hr2⟩ : ∃ r2, r2 = iwrong n (o ++ add) := ⟨_, rfl⟩
        have hto : ∀ a ∈ o, a.tx.size ≤ 100000000 := fun a ha => Nat.le_trans (hos a ha).1 (by omega)
        have HR2 : r2 = if remOk o [] then iwrong n (left o [] ++ add) else 6 := by rw [if_pos (remOk_nil o), left_nil]; exact hr2
        have CS := Lib.hid fun (sb : Nat) (W : World) (hW : Below w.heap.size w W) (hS : ISet W sb n o) => iSplice_any hS (by omega) how hto none 0 0 [] (fun h => absurd h (by simp)) rfl (by omega) (fun x h => by cases h) A' m' c' add (hI'.below hW) hl' hc' (by omega) hw2 ht' r2 HR2
        have CP := Lib.hid fun (er : Int) (Q : Option Addr) (qc : Nat) (W : World) (hW : Below w.heap.size w W) (hQ : RowsAt encI 5 W Q o) => rSplice13_any n er Q m qc o none 0 0 [] A' m' c' add W hQ hol (by omega) hoa (fun h => absurd h (by simp)) rfl (by omega) (hI'.below hW) hl' hc' (by omega) hto ht' r2 HR2
        have CALL := Lib.hid fun (sb : Nat) (W : World) (hS : ISet W sb n o) => iAll_any hS (by omega)
        rw [left_nil] at CS CP
        have HI' := Lib.hid hI'
        have HL' := Lib.hid hl'
        have HOL := Lib.hid hol
        have HLL := Lib.hid hl
        subst hz
        by_cases hz2 : r2 = 0
        · have h20 : iwrong n (o ++ add) = 0 := hr2.symm.trans hz2
          obtain ⟨k1, k2, k3⟩ := hbk h20
          have hos2 := ord_size h20
          have hlt2 : (ord ilt ((o ++ add).map icl)).length = m + m' := by rw [(ord_perm ilt ilt_swo _).length_eq, List.length_map, List.length_append, hol, hl']
          have how2 : ∀ a ∈ ord ilt ((o ++ add).map icl), (Lit.int .i64 a.id).wf = true := fun a ha => by
            obtain ⟨y, hy, rfl⟩ := List.mem_map.1 ((ord_perm ilt ilt_swo _).mem_iff.1 ha)
            rcases List.mem_append.1 hy with g | g
            · exact how y g
            · exact hw2 y g
          obtain ⟨o2, ho2⟩ : ∃ o2, o2 = ord ilt ((o ++ add).map icl) := ⟨_, rfl⟩
          rw [← ho2] at k1 k2 k3 hos2 hlt2 how2 CS
          have CS2 := Lib.hid fun (sb : Nat) (RA : Option Addr) (rc : Nat) (W : World) (hS : ISet W sb n o2) (hR : IntsAt .i64 W RA (add.map (·.id))) => iSplice_any hS (by omega) how2 (fun a ha => Nat.le_trans (hos2 a ha).1 (by omega)) RA m' rc (add.map (·.id)) hR (by rw [List.length_map]; exact hl') (by omega) (fun x hx => by obtain ⟨a, ha, rfl⟩ := List.mem_map.1 hx; exact hw2 a ha) none 0 0 [] (fun h => absurd h (by simp)) rfl ⟨Nat.le_refl _, fun _ => rfl⟩ (by omega) (fun a h => by cases h) (fun a h => by cases h) 0 (by rw [if_pos k1, List.append_nil]; exact k2.symm)
          rw [List.append_nil, k3] at CS2
          subst hz2
          clear hos2 hlt2 how2 ho2 k1 k2 k3 h20 hr2 HR2 hbk CP CR hol how hos hoa ho hto hr hr0 hw1 hw2 ht ht' hI hl hn hc hO hI' hl' hn' hc' hO' g1 g2
          go_enter Try.func4, Try.ntmps4
          go_wp2_with fail
          with_reducible refine (CLF.out).mono ?_
          rintro e w2 ⟨rfl, bb⟩
          have Q2 := Lib.hid bb
          clear bb
          go_wp2_with fail
          with_reducible refine (CLG.out _ Q2.out).mono ?_
          rintro e w3 ⟨rfl, bb⟩
          have Q3 := Lib.hid (Q2.out.trans (bb.mono Q2.out.size))
          clear bb
          go_wp2_with fail
          with_reducible refine (CN.out _ Q3.out).mono ?_
          rintro e w4 ⟨p4, rfl, _, hp4, bb⟩
          have Q4 := Lib.hid (Q3.out.trans (bb.mono Q3.out.size))
          obtain ⟨s4, rfl, h4⟩ := hp4 (by first | exact trivial | rfl)
          have H4 := Lib.hid h4
          clear hp4 h4
          clear bb
          go_wp2_with fail
          with_reducible refine (CS.out s4 _ Q4.out H4.out).mono ?_
          rintro e w5 ⟨p5, rfl, _, hp5, bb⟩
          have Q5 := Lib.hid (Q4.out.trans (bb.mono Q4.out.size))
          obtain ⟨s5, rfl, h5⟩ := hp5 (by first | exact trivial | rfl)
          have H5 := Lib.hid h5
          have H45 := Lib.hid (H4.out.below bb)
          clear hp5 h5 H4
          clear bb
          go_wp2_with fail
          go_loopg [11, 67] m' (fun g v i wr => ∃ (k : Nat), i = .int .i64 k ∧ k ≤ m' ∧ m' - k ≤ g ∧ Hid (Below w5.heap.size w5 wr) ∧ Hid (wr.ownsRow w5.heap.size 3 1 v k (kfl (encN .i64) ((add.take k).map (·.id)))))
          case atStart => exact ⟨0, rfl, by omega, by omega, Lib.hid (Below.refl _ _), Lib.hid (World.ownsRow_nil _ _ _ _)⟩
          case round =>
            obtain ⟨k, rfl, h1, h2, hb, hown⟩ := hrel
            by_cases hlt : k < m'
            · have hkl : k < add.length := by rw [HL'.out]; exact hlt
              obtain ⟨bA, off, rfl, hbA, d0, d1, d2, d3, d4⟩ := (HI'.out.below (Q5.out.trans (hb.out.mono Q5.out.size))).in5 hkl
              have htk : (add.take (k + 1)).map (·.id) = (add.take k).map (·.id) ++ [add[k].id] := by rw [List.take_succ_eq_append_getElem hkl, List.map_append]; rfl
              have HTK := Lib.hid htk
              clear htk
              generalize add[k] = a at *
              have i1 : (0 : Int) ≤ k := by omega
              have i2 : (k : Int) < m' := by omega
              have x3 : Below wr.heap.size wr (wr.alloc (.cells #[.int .i64 a.id, .int .i64 a.pl, .int .i64 a.bi, .int .i64 a.ky, .string a.tx] 46)) := (Below.refl _ _).alloc (Nat.le_refl _) _
              have R3 : RawAt 46 (wr.alloc (.cells #[.int .i64 a.id, .int .i64 a.pl, .int .i64 a.bi, .int .i64 a.ky, .string a.tx] 46)) wr.heap.size #[.int .i64 a.id, .int .i64 a.pl, .int .i64 a.bi, .int .i64 a.ky, .string a.tx] := heap_alloc_new wr _
              have g0 := RawAt.cell R3 0
              simp at g0
              have HB3 := hb.out.trans (x3.mono hb.out.size)
              have HO3 := own_below hown.out x3
              obtain ⟨A3, c3, rfl⟩ := own_form hown.out
              have hlt4 := hown.out.lt
              have hsz : (wr.alloc (.cells #[.int .i64 a.id, .int .i64 a.pl, .int .i64 a.bi, .int .i64 a.ky, .string a.tx] 46)).heap.size = wr.heap.size + 1 := by simp
              have x4 : Below (wr.alloc (.cells #[.int .i64 a.id, .int .i64 a.pl, .int .i64 a.bi, .int .i64 a.ky, .string a.tx] 46)).heap.size (wr.alloc (.cells #[.int .i64 a.id, .int .i64 a.pl, .int .i64 a.bi, .int .i64 a.ky, .string a.tx] 46)) ((wr.alloc (.cells #[.int .i64 a.id, .int .i64 a.pl, .int .i64 a.bi, .int .i64 a.ky, .string a.tx] 46)).alloc (.cells #[.int .i64 a.id] 3)) := (Below.refl _ _).alloc (Nat.le_refl _) _
              have R4 : RowsAt (encN .i64) 1 ((wr.alloc (.cells #[.int .i64 a.id, .int .i64 a.pl, .int .i64 a.bi, .int .i64 a.ky, .string a.tx] 46)).alloc (.cells #[.int .i64 a.id] 3)) (some ⟨(wr.alloc (.cells #[.int .i64 a.id, .int .i64 a.pl, .int .i64 a.bi, .int .i64 a.ky, .string a.tx] 46)).heap.size, 0, none⟩) [a.id] := row_new (encN_len _) (wr.alloc (.cells #[.int .i64 a.id, .int .i64 a.pl, .int .i64 a.bi, .int .i64 a.ky, .string a.tx] 46)) [a.id] #[.int .i64 a.id] 3 rfl
              rw [hsz] at R4
              have HB4 := Lib.hid (HB3.trans (x4.mono HB3.size))
              have HO4 := Lib.hid (own_below HO3 x4)
              have HR4 := Lib.hid R4
              clear R3 R4 x3 x4 hb hown HB3 HO3 hsz
              go_wp2_with (at_builtin; refine wpList_appK (enc := encN .i64) iint_slt (encN_len _) (by omega) rfl (.tmp 71) (.tmp 74) rfl (base := w5.heap.size) (v := .slice A3 k c3) rfl HO4.out _ 1 1 [a.id] rfl HR4.out ⟨Nat.le_refl _, fun h => by cases h⟩ rfl (kfl_one' (encN_one _) _) (by simp only [maxLen]; omega) (by omega) HB4.out.size ?_; intro v5 w8 hown5 hg5 hor5; have HB8 := Lib.hid (HB4.out.grown hg5 HB4.out.size (fun j hj => (hlt4 j hj).1)); have HO8 : Hid (w8.ownsRow w5.heap.size 3 1 v5 (k + 1) (kfl (encN .i64) ((add.take (k + 1)).map (·.id)))) := Lib.hid (by rw [HTK.out, kfl_append]; exact hown5); clear hown5 hg5 hor5 HO4 HR4 HB4)
              go_roundg (gk - 1)
              case measure => omega
              case rel => exact ⟨k + 1, by go_num, by omega, by omega, HB8, HO8⟩
            · obtain rfl : m' = k := by omega
              have e2 : add.take m' = add := List.take_of_length_le (by rw [HL'.out]; exact Nat.le_refl _)
              have ho2 := hown.out
              rw [e2, kfl_encN] at ho2
              obtain ⟨A6, c6, rfl, hR6, _, _⟩ := IntsAt.of_own ho2
              have HB := Lib.hid hb.out
              have Q6 := Lib.hid (Q5.out.trans (hb.out.mono Q5.out.size))
              have H46 := Lib.hid (H45.out.below hb.out)
              have CS26 := Lib.hid (CS2.out s5 A6 c6 _ (H5.out.below hb.out) hR6)
              clear e2 ho2 hR6 hown hb H45 H5 CS2
              go_wp2_with fail
              with_reducible refine (CS26.out).mono ?_
              rintro e w7 ⟨p7, rfl, _, hp7, bb⟩
              have Q7 := Lib.hid (Q6.out.trans (bb.mono Q6.out.size))
              obtain ⟨s7, rfl, h7⟩ := hp7 (by first | exact trivial | rfl)
              have H7 := Lib.hid h7
              have H47 := Lib.hid (H46.out.below bb)
              have CA7 := Lib.hid (CALL.out s7 _ h7)
              clear hp7 h7 H46
              clear bb
              go_wp2_with fail
              with_reducible refine (CA7.out).mono ?_
              rintro e w8 ⟨v8, rfl, o8, bb⟩
              have Q8 := Lib.hid (Q7.out.trans (bb.mono Q7.out.size))
              obtain ⟨A8, c8, rfl, hR8, _, _⟩ := rows_of_own encI_len (by omega) o8
              have HR8 := Lib.hid hR8
              have CA8 := Lib.hid (CALL.out s4 _ (H47.out.below bb))
              clear o8 hR8
              clear bb
              go_wp2_with fail
              with_reducible refine (CA8.out).mono ?_
              rintro e w9 ⟨v9, rfl, o9, bb⟩
              have Q9 := Lib.hid (Q8.out.trans (bb.mono Q8.out.size))
              obtain ⟨A9, c9, rfl, hR9, _, _⟩ := rows_of_own encI_len (by omega) o9
              have CPL := Lib.hid (plinl_any A8 A9 _ c8 c9 o w9 (HR8.out.below bb) hR9 rfl (by rw [HOL.out]; omega))
              clear o9 hR9
              clear bb
              go_wp2_with fail
              with_reducible refine (CPL.out).mono ?_
              rintro e w10 ⟨rfl, bb⟩
              have Q10 := Lib.hid (Q9.out.trans (bb.mono Q9.out.size))
              clear bb
              go_wp2_with fail
              with_reducible refine (C3.out _).mono ?_
              rintro e w11 ⟨rfl, bb⟩
              have Q11 := Lib.hid (Q10.out.trans (bb.mono Q10.out.size))
              clear bb
              go_wp2
              go_ret
              exact ⟨rfl, Q11.out⟩
        · have k5 : (r2 != 0) = true := by simp [hz2]
          have k6 : (r2 == 0) = false := by simp [hz2]
          have HZ2 := Lib.hid hz2
          clear hz2 hr2 HR2 hbk hol how hos hoa ho hto hr hr0 hw1 hw2 ht ht' hI hl hn hc hO hI' hl' hn' hc' hO' g1 g2
          go_enter Try.func4, Try.ntmps4
          go_wp2_with fail
          with_reducible refine (CLF.out).mono ?_
          rintro e w2 ⟨rfl, bb⟩
          have Q2 := Lib.hid bb
          clear bb
          go_wp2_with fail
          with_reducible refine (CLG.out _ Q2.out).mono ?_
          rintro e w3 ⟨rfl, bb⟩
          have Q3 := Lib.hid (Q2.out.trans (bb.mono Q2.out.size))
          clear bb
          go_wp2_with fail
          with_reducible refine (CN.out _ Q3.out).mono ?_
          rintro e w4 ⟨p4, rfl, _, hp4, bb⟩
          have Q4 := Lib.hid (Q3.out.trans (bb.mono Q3.out.size))
          obtain ⟨s4, rfl, h4⟩ := hp4 (by first | exact trivial | rfl)
          have H4 := Lib.hid h4
          clear hp4 h4
          clear bb
          go_wp2_with fail
          with_reducible refine (CS.out s4 _ Q4.out H4.out).mono ?_
          rintro e w5 ⟨p5, rfl, hp5, _, bb⟩
          have Q5 := Lib.hid (Q4.out.trans (bb.mono Q4.out.size))
          have hp := hp5 HZ2.out
          subst hp
          clear hp5 H4
          clear bb
          go_wp2_with fail
          with_reducible refine (CR.out _ Q5.out).mono ?_
          rintro e w6 ⟨nn, A6, m6, c6, rfl, hres, bb⟩
          have Q6 := Lib.hid (Q5.out.trans (bb.mono Q5.out.size))
          obtain ⟨y1, y2, hR6⟩ := hres (by first | exact trivial | rfl)
          rw [HLL.out] at y2
          rw [← HOO.out] at hR6
          have y1 := y1.symm
          subst y1
          have y2 := y2.symm
          subst y2
          have CP6 := Lib.hid (CP.out 0 A6 c6 _ Q6.out hR6)
          clear hres hR6
          clear bb
          go_wp2_with fail
          with_reducible refine (CP6.out).mono ?_
          rintro e w7 ⟨nn, A7, m7, c7, rfl, _, bb⟩
          have Q7 := Lib.hid (Q6.out.trans (bb.mono Q6.out.size))
          clear bb
          go_wp2_with fail
          with_reducible refine (C3.out _).mono ?_
          rintro e w8 ⟨rfl, bb⟩
          have Q8 := Lib.hid (Q7.out.trans (bb.mono Q7.out.size))
          clear bb
          go_wp2
          go_ret
          exact ⟨rfl, Q8.out⟩
      · have k5 : (r != 0) = true := by simp [hz]
        have k6 : (r == 0) = false := by simp [hz]
        have HZ := Lib.hid hz
        clear hz hr hol how hw1 hw2 ht ht' hI hl hn hc hO hI' hl' hn' hc' hO' g1 g2
        go_enter Try.func4, Try.ntmps4
        go_wp2_with fail
        with_reducible refine (CLF.out).mono ?_
        rintro e w2 ⟨rfl, bb⟩
        have Q2 := Lib.hid bb
        clear bb
        go_wp2_with fail
        with_reducible refine (CLG.out _ Q2.out).mono ?_
        rintro e w3 ⟨rfl, bb⟩
        have Q3 := Lib.hid (Q2.out.trans (bb.mono Q2.out.size))
        clear bb
        go_wp2_with fail
        with_reducible refine (CN.out _ Q3.out).mono ?_
        rintro e w4 ⟨p4, rfl, hp4, _, bb⟩
        have Q4 := Lib.hid (Q3.out.trans (bb.mono Q3.out.size))
        have hp := hp4 HZ.out
        subst hp
        clear hp4
        clear bb
        go_wp2_with fail
        with_reducible refine (CR.out _ Q4.out).mono ?_
        rintro e w5 ⟨nn, A5, m5, c5, rfl, _, bb⟩
        have Q5 := Lib.hid (Q4.out.trans (bb.mono Q4.out.size))
        clear bb
        go_wp2_with fail
        with_reducible refine (C3.out _).mono ?_
        rintro e w8 ⟨rfl, bb⟩
        have Q8 := Lib.hid (Q5.out.trans (bb.mono Q5.out.size))
        clear bb
        go_wp2
        go_ret
        exact ⟨rfl, Q8.out⟩
    · have CLG := Lib.hid (CL2.out true ⟨fun _ => g2, fun _ => rfl⟩)
      clear CL1 CL2
      go_enter Try.func4, Try.ntmps4
      go_wp2_with fail
      with_reducible refine (CLF.out).mono ?_
      rintro e w2 ⟨rfl, bb⟩
      have Q2 := Lib.hid bb
      clear bb
      go_wp2_with fail
      with_reducible refine (CLG.out _ Q2.out).mono ?_
      rintro e w3 ⟨rfl, bb⟩
      have Q3 := Lib.hid (Q2.out.trans (bb.mono Q2.out.size))
      clear bb
      go_wp2_with fail
      with_reducible refine (C3.out _).mono ?_
      rintro e w8 ⟨rfl, bb⟩
      have Q8 := Lib.hid (Q3.out.trans (bb.mono Q3.out.size))
      clear bb
      go_wp2
      go_ret
      exact ⟨rfl, Q8.out⟩
  · have CLF := Lib.hid (CL1.out true ⟨fun _ => g1, fun _ => rfl⟩)
    clear CL1 CL2
    go_enter Try.func4, Try.ntmps4
    go_wp2_with fail
    with_reducible refine (CLF.out).mono ?_
    rintro e w2 ⟨rfl, bb⟩
    have Q2 := Lib.hid bb
    clear bb
    go_wp2_with fail
    with_reducible refine (C3.out _).mono ?_
    rintro e w8 ⟨rfl, bb⟩
    have Q8 := Lib.hid (Q2.out.trans (bb.mono Q2.out.size))
    clear bb
    go_wp2
    go_ret
    exact ⟨rfl, Q8.out⟩
end Go.Proofs.Ytmijlijgcaaiiaa
