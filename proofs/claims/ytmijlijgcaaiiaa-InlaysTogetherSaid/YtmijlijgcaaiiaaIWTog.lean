/- Inlays: the law InlaysTogether, walked. -/
import Derived.Test.YtmijlijgcaaiiaaIWBack
import Derived.Test.YtmijlijgcaaiiaaInTg
import Derived.Test.YtmijlijgcaaiiaaInZ
import Derived.Test.YtmijlijgcaaiiaaChOpens
namespace Go.Proofs.Ytmijlijgcaaiiaa
open Go.RowKit Go.Sort
set_option linter.unusedVariables false
theorem ish_ex (n : Int) (p : List Ch) (o : List In) : ∃ r, IShIs n p o r := by
  by_cases h : nrm M40 0 0 true p
  · by_cases g : n < iolast p
    · exact ⟨1, fun k => absurd h k, fun _ _ => rfl, fun _ k => absurd g k⟩
    · exact ⟨_, fun k => absurd h k, fun _ k => absurd k g, fun _ _ => rfl⟩
  · exact ⟨4, fun _ => rfl, fun k => absurd k h, fun k => absurd k h⟩
theorem isSplice_pl {n : Int} {a : In} (h : iwr n a = 0) : 0 ≤ a.pl ∧ a.pl ≤ n ∧ (a.bi = 0 ∨ a.bi = 1) := by
  unfold iwr at h
  by_cases g : a.id < 1 ∨ a.pl < 0 ∨ n < a.pl ∨ (a.bi ≠ 0 ∧ a.bi ≠ 1)
  · rw [if_pos g] at h; cases h
  · omega
set_option maxHeartbeats 64000000 in
set_option maxRecDepth 100000 in
theorem inlaysTogether_walk (n : Int) (A : Option Addr) (m c : Nat) (l : List In) (PA : Option Addr) (pm pc : Nat) (p : List Ch) (w : World) (_wf : (Lit.int .i64 n).wf = true) (hI : RowsAt encI 5 w A l) (hl : l.length = m) (hn : m ≤ maxLen) (hc : Caps A m c) (hO : ∀ s ∈ l, InOk s) (hP : ChsAt w PA p) (hp : p.length = pm) (hpn : pm ≤ maxLen) (hpc : Caps PA pm pc) :
    Calls Try.prog 5 #[.int .i64 n, .slice A m c, .slice PA pm pc] w fun e w' => e = .returned (.bool true) ∧ Below w.heap.size w w' := by
  have C3 := Lib.hid fun W => iThree_any W
  have tf0 := s13f
  have CL1 := Lib.hid fun (b : Bool) (hb : b = true ↔ ¬ ShortI l) => long13_any A m c l b w hI hl hn (fun x hx => (hO x hx).2.2.2.2) hb
  by_cases g1 : ShortI l
  · have CLF := Lib.hid (CL1.out false ⟨fun h => absurd h (by simp), fun h => absurd g1 h⟩)
    by_cases g2 : 100 < pm
    · have k1' : decide (100 < pm) = true := decide_eq_true g2
      have k2' : decide ((100 : Int) < (pm : Int)) = true := decide_eq_true (by omega)
      go_enter Try.func5, Try.ntmps5
      go_wp2_with fail
      with_reducible refine (CLF.out).mono ?_
      rintro e w2 ⟨rfl, bb⟩
      have Q2 := Lib.hid bb
      clear bb
      go_wp2_with fail
      with_reducible refine (C3.out _).mono ?_
      rintro e w8 ⟨rfl, bb⟩
      have Q8 := Lib.hid (Q2.out.trans (bb.mono Q2.out.size))
      clear bb
      go_wp2
      go_ret
      exact ⟨rfl, Q8.out⟩
    · have k1' : decide (100 < pm) = false := decide_eq_false g2
      have k2' : decide ((100 : Int) < (pm : Int)) = false := decide_eq_false (by omega)
      clear CL1
      have hm : m ≤ 100 := by rw [← hl]; exact g1.1
      have ht : ∀ x ∈ l, x.tx.size ≤ 100000000 := fun x hx => Nat.le_trans (g1.2 x hx) (by omega)
      have hw1 : ∀ a ∈ l, (Lit.int .i64 a.id).wf = true := fun a ha => (hO a ha).1
      obtain ⟨r, hr⟩ : ∃ r, r = iwrong n l := ⟨_, rfl⟩
      have CN := Lib.hid fun (W : World) (hW : Below w.heap.size w W) => iNew_any n A m c l W (hI.below hW) hc hl hw1 ht r hr.symm
      have CR := Lib.hid fun (W : World) (hW : Below w.heap.size w W) => rNew13_any n A m c l W (hI.below hW) hc hl ht r hr.symm
      have hol : (ord ilt (l.map icl)).length = m := by rw [(ord_perm ilt ilt_swo _).length_eq, List.length_map]; exact hl
      have how : ∀ a ∈ ord ilt (l.map icl), (Lit.int .i64 a.id).wf = true := fun a ha => by
        obtain ⟨y, hy, rfl⟩ := List.mem_map.1 ((ord_perm ilt ilt_swo _).mem_iff.1 ha)
        exact hw1 y hy
      by_cases hz : r = 0
      · have hr0 : iwrong n l = 0 := hr.symm.trans hz
        have hos := ord_size hr0
        have hoa := (ord_icl hr0).1
        obtain ⟨n0, n40, _, _, _⟩ := iwrong_is hr0
        have hsO := ord_sorted ilt ilt_swo (l.map icl)
        obtain ⟨o, ho⟩ : ∃ o, o = ord ilt (l.map icl) := ⟨_, rfl⟩
        rw [← ho] at hol how hos hoa CN hsO
        have HOO := Lib.hid ho
        have hto : ∀ a ∈ o, a.tx.size ≤ 100000000 := fun a ha => Nat.le_trans (hos a ha).1 (by omega)
        have hok : ∀ a ∈ o, 0 ≤ a.pl ∧ a.pl ≤ n ∧ (a.bi = 0 ∨ a.bi = 1) := fun a ha => isSplice_pl (hos a ha).2.1
        obtain ⟨rs, hrs⟩ := ish_ex n p o
        have CS := Lib.hid fun (sb : Nat) (W : World) (hW : Below w.heap.size w W) (hS : ISet W sb n o) => iShift_rows (o := o) (.pointer (some ⟨sb, 0, none⟩)) n PA pm pc p (hP.below hW) hp (by omega) n0 n40 hok how hto (by omega) (fun W' hW' => iLen_any (hS.below hW')) (fun W' hW' => iAll_any (hS.below hW') (by omega)) rs hrs _ rfl
        have CG := Lib.hid fun (W : World) (hW : Below w.heap.size w W) => ichg_any PA pm pc p W (hP.below hW) hp (by omega)
        have CP := Lib.hid fun (er : Int) (Q : Option Addr) (qc : Nat) (PB : Option Addr) (pbc : Nat) (W : World) (hQ : RowsAt encI 5 W Q o) (hB : ChsAt W PB p) => rShift13_any n er Q m qc o PB pm pbc p W hQ hol (by omega) n0 n40 (fun a ha => ⟨(hok a ha).1, (hok a ha).2.1⟩) hB hp (by omega) hto rs hrs
        have CALL := Lib.hid fun (sb : Nat) (W : World) (hS : ISet W sb n o) => iAll_any hS (by omega)
        have HOL := Lib.hid hol
        have HLL := Lib.hid hl
        have HSO := Lib.hid hsO
        have HOA := Lib.hid hoa
        subst hz
        by_cases hz2 : rs = 0
        · obtain ⟨N, hN⟩ : ∃ N, N = ord ilt ((ishift p o).map icl) := ⟨_, rfl⟩
          rw [← hN] at CS
          rw [ish_map] at hN
          obtain ⟨t1, t2, t3, t4⟩ := tog_at hoa hN
          rw [hol] at t1
          have HT1 := Lib.hid t1
          have HT2 := Lib.hid t2
          have HT3 := Lib.hid t3
          have HT4 := Lib.hid t4
          have HTG := Lib.hid fun (i j : Nat) (hi : i < o.length) (hjl : j < o.length) (hj : j < i) (e1 : o[i].pl = o[j].pl) (e2 : o[i].bi = o[j].bi) => tog_le hoa hsO hN hi hj e1 e2
          have CALN := Lib.hid fun (sb : Nat) (W : World) (hS : ISet W sb (n + dlt p) N) => iAll_any hS (by omega)
          subst hz2
          clear t1 t2 t3 t4 hN CP CG CR hrs hol how hos hoa ho hto hr hr0 hw1 ht hI hl hn hc hO hP hp hpn hpc g1 g2 hok hsO n0 n40
          go_enter Try.func5, Try.ntmps5
          go_wp2_with fail
          with_reducible refine (CLF.out).mono ?_
          rintro e w2 ⟨rfl, bb⟩
          have Q2 := Lib.hid bb
          clear bb
          go_wp2_with fail
          with_reducible refine (CN.out _ Q2.out).mono ?_
          rintro e w4 ⟨p4, rfl, _, hp4, bb⟩
          have Q4 := Lib.hid (Q2.out.trans (bb.mono Q2.out.size))
          obtain ⟨s4, rfl, h4⟩ := hp4 (by first | exact trivial | rfl)
          have H4 := Lib.hid h4
          clear hp4 h4
          clear bb
          go_wp2_with fail
          with_reducible refine (CS.out s4 _ Q4.out H4.out).mono ?_
          rintro e w5 ⟨p5, rfl, _, hp5, bb⟩
          have Q5 := Lib.hid (Q4.out.trans (bb.mono Q4.out.size))
          obtain ⟨s5, rfl, h5⟩ := hp5 (by first | exact trivial | rfl)
          have H5 := Lib.hid h5
          have CA5 := Lib.hid (CALL.out s4 _ (H4.out.below bb))
          clear hp5 h5 H4
          clear bb
          go_wp2_with fail
          with_reducible refine (CA5.out).mono ?_
          rintro e w8 ⟨v8, rfl, o8, bb⟩
          have Q8 := Lib.hid (Q5.out.trans (bb.mono Q5.out.size))
          obtain ⟨A8, c8, rfl, hR8, _, hC8⟩ := rows_of_own encI_len (by omega) o8
          rw [HOL.out] at hC8
          have HR8 := Lib.hid hR8
          have HC8 := Lib.hid hC8
          have CA8 := Lib.hid (CALN.out s5 _ (H5.out.below bb))
          clear o8 hR8 hC8
          clear bb
          go_wp2_with fail
          with_reducible refine (CA8.out).mono ?_
          rintro e w9 ⟨v9, rfl, o9, bb⟩
          have Q9 := Lib.hid (Q8.out.trans (bb.mono Q8.out.size))
          obtain ⟨A9, c9, rfl, hR9, _, _⟩ := rows_of_own encI_len (by omega) o9
          have HRW := Lib.hid (HR8.out.below bb)
          have HRN := Lib.hid hR9
          clear o9 hR9 CA8 CALN CALL HR8 H5 CS CN CLF
          clear bb
          rw [HOL.out, HT1.out]
          go_wp2_with fail
          go_loopg [83] m (fun g i wr => ∃ (k : Nat), i = .int .i64 k ∧ k ≤ m ∧ m - k ≤ g ∧ Hid (Below w9.heap.size w9 wr))
          case atStart => exact ⟨0, rfl, by omega, by omega, Lib.hid (Below.refl _ _)⟩
          case round =>
            obtain ⟨k, rfl, h1, h2, hb⟩ := hrel
            by_cases hlt : k < m
            · have hkl : k < o.length := by rw [HOL.out]; exact hlt
              obtain ⟨bA, off, rfl, hbA, f0, f1, f2, f3, f4⟩ := (HRW.out.below hb.out).in5 hkl
              have HX := Lib.hid (HT3.out _ (List.getElem_mem hkl))
              have HX4 := Lib.hid (HT4.out _ (List.getElem_mem hkl))
              have HTK := Lib.hid fun (j : Nat) (hjl : j < o.length) (hj : j < k) e1 e2 => HTG.out k j hkl hjl hj e1 e2
              generalize ha : o[k] = a at *
              have HA := Lib.hid ha
              clear ha
              have i1 : (0 : Int) ≤ k := by omega
              have i2 : (k : Int) < m := by omega
              have i3 : k ≤ c8 := Nat.le_trans h1 HC8.out.1
              have i4 : (k : Int) ≤ c8 := by omega
              obtain ⟨ba, hba⟩ : ∃ ba, ba = wr.heap.size := ⟨_, rfl⟩
              have x3 : Below wr.heap.size wr (wr.alloc (.cells #[.int .i64 a.id, .int .i64 a.pl, .int .i64 a.bi, .int .i64 a.ky, .string a.tx] 46)) := (Below.refl _ _).alloc (Nat.le_refl _) _
              have R3 : RawAt 46 (wr.alloc (.cells #[.int .i64 a.id, .int .i64 a.pl, .int .i64 a.bi, .int .i64 a.ky, .string a.tx] 46)) wr.heap.size #[.int .i64 a.id, .int .i64 a.pl, .int .i64 a.bi, .int .i64 a.ky, .string a.tx] := heap_alloc_new wr _
              have HQ3 := Lib.hid (hb.out.trans (x3.mono hb.out.size))
              rw [← hba] at R3
              have HR3 := Lib.hid R3
              have HBA := Lib.hid hba
              clear hba x3 R3 hb
              go_wp2_with fail
              rw [← HBA.out]
              generalize wr.alloc (.cells #[.int .i64 a.id, .int .i64 a.pl, .int .i64 a.bi, .int .i64 a.ky, .string a.tx] 46) = W3 at *
              clear f0 f1 f2 f3 f4 HBA
              obtain ⟨gO, hgO⟩ : ∃ g, g = gk := ⟨_, rfl⟩
              subst hgO
              go_loopg [92] k (fun g i W => ∃ (j : Nat), i = .int .i64 j ∧ j ≤ k ∧ k - j ≤ g ∧ Hid (Below W3.heap.size W3 W))
              case atStart => exact ⟨0, rfl, by omega, by omega, Lib.hid (Below.refl _ _)⟩
              case round =>
                obtain ⟨j, rfl, h3, h4, hb⟩ := hrel
                by_cases hlj : j < k
                · have hjl : j < o.length := by omega
                  have hqq := HQ3.out.trans (hb.out.mono HQ3.out.size)
                  obtain ⟨_, _, e9, hbB, f0, f1, f2, f3, f4⟩ := (HRW.out.below hqq).in5 hjl
                  injection e9 with e9
                  injection e9 with e10 e11
                  subst e10
                  subst e11
                  have HY := Lib.hid (HT3.out _ (List.getElem_mem hjl))
                  have HY4 := Lib.hid (HT4.out _ (List.getElem_mem hjl))
                  have HTJ := HTK.out j hjl hlj
                  generalize o[j] = b at *
                  have HTJ := Lib.hid HTJ
                  have i5 : (0 : Int) ≤ j := by omega
                  have i6 : (j : Int) < k := by omega
                  obtain ⟨bb, hbb⟩ : ∃ bb, bb = wr.heap.size := ⟨_, rfl⟩
                  have x3 : Below wr.heap.size wr (wr.alloc (.cells #[.int .i64 b.id, .int .i64 b.pl, .int .i64 b.bi, .int .i64 b.ky, .string b.tx] 46)) := (Below.refl _ _).alloc (Nat.le_refl _) _
                  have R5 : RawAt 46 (wr.alloc (.cells #[.int .i64 b.id, .int .i64 b.pl, .int .i64 b.bi, .int .i64 b.ky, .string b.tx] 46)) wr.heap.size #[.int .i64 b.id, .int .i64 b.pl, .int .i64 b.bi, .int .i64 b.ky, .string b.tx] := heap_alloc_new wr _
                  have HQ5 := Lib.hid (hqq.trans (x3.mono hqq.size))
                  have HQ35 := Lib.hid (hb.out.trans (x3.mono hb.out.size))
                  rw [← hbb] at R5
                  have HR5 := Lib.hid R5
                  have HBB := Lib.hid hbb
                  clear hbb x3 R5 hb hqq hbB
                  go_wp2_with fail
                  rw [← HBB.out]
                  generalize wr.alloc (.cells #[.int .i64 b.id, .int .i64 b.pl, .int .i64 b.bi, .int .i64 b.ky, .string b.tx] 46) = W5 at *
                  clear f0 f1 f2 f3 f4 HBB
                  obtain ⟨gM, hgM⟩ : ∃ g, g = gk := ⟨_, rfl⟩
                  subst hgM
                  obtain ⟨X, hX⟩ : ∃ X, ixI N a.id = X := ⟨_, rfl⟩
                  obtain ⟨Y, hY⟩ : ∃ Y, ixI N b.id = Y := ⟨_, rfl⟩
                  have HXX := Lib.hid hX
                  have HYY := Lib.hid hY
                  have hXm : X < m := by rw [← hX, ← HT1.out]; exact HX.out
                  have hYm : Y < m := by rw [← hY, ← HT1.out]; exact HY.out
                  clear hX hY
                  go_loopg [17, 18, 98] m (fun g x y i W => ∃ (q : Nat), i = .int .i64 q ∧ q ≤ m ∧ m - q ≤ g ∧ Hid (Below W5.heap.size W5 W) ∧ x = .int .i64 (fx X q) ∧ y = .int .i64 (fx Y q))
                  case atStart => exact ⟨0, rfl, by omega, by omega, Lib.hid (Below.refl _ _), rfl, rfl⟩
                  case round =>
                    obtain ⟨q, rfl, h5, h6, hb, rfl, rfl⟩ := hrel
                    by_cases hlq : q < m
                    · have hql : q < N.length := by rw [HT1.out]; exact hlq
                      have hqq := HQ5.out.trans (hb.out.mono HQ5.out.size)
                      obtain ⟨bN, ofN, rfl, hbN, f0, f1, f2, f3, f4⟩ := (HRN.out.below hqq).in5 hql
                      have hx1 : N[q].id = a.id ↔ X = q := ⟨fun h => by rw [← HXX.out]; exact ixI_only HT2.out hql h, fun h => by subst h; have := ixI_is HX.out; simp only [HXX.out] at this; exact this⟩
                      have hy1 : N[q].id = b.id ↔ Y = q := ⟨fun h => by rw [← HYY.out]; exact ixI_only HT2.out hql h, fun h => by subst h; have := ixI_is HY.out; simp only [HYY.out] at this; exact this⟩
                      have HFX := Lib.hid (fx_step X q)
                      have HFY := Lib.hid (fx_step Y q)
                      generalize N[q] = d at *
                      have i7 : (0 : Int) ≤ q := by omega
                      have i8 : (q : Int) < m := by omega
                      have x3 : Below wr.heap.size wr (wr.alloc (.cells #[.int .i64 d.id, .int .i64 d.pl, .int .i64 d.bi, .int .i64 d.ky, .string d.tx] 46)) := (Below.refl _ _).alloc (Nat.le_refl _) _
                      have R7 : RawAt 46 (wr.alloc (.cells #[.int .i64 d.id, .int .i64 d.pl, .int .i64 d.bi, .int .i64 d.ky, .string d.tx] 46)) wr.heap.size #[.int .i64 d.id, .int .i64 d.pl, .int .i64 d.bi, .int .i64 d.ky, .string d.tx] := heap_alloc_new wr _
                      have HQ7 := Lib.hid (hb.out.trans (x3.mono hb.out.size))
                      have u3 := RawAt.below HR3.out (HQ35.out.trans (HQ7.out.mono HQ35.out.size)) HR3.out.lt
                      have u5 := RawAt.below HR5.out HQ7.out HR5.out.lt
                      have c3 := RawAt.cell u3 0
                      have c5 := RawAt.cell u5 0
                      have c7 := RawAt.cell R7 0
                      simp at c3 c5 c7
                      clear x3 R7 hb hqq hbN u3 u5
                      by_cases p1 : d.id = a.id
                      · have q1 : (d.id == a.id) = true := by simp [p1]
                        have q2 : decide (d.id = a.id) = true := decide_eq_true p1
                        have e1 : Hid (fx X (q + 1) = q) := Lib.hid (by rw [HFX.out, if_pos (hx1.1 p1)])
                        by_cases p2 : d.id = b.id
                        · have q3 : (d.id == b.id) = true := by simp [p2]
                          have q4 : decide (d.id = b.id) = true := decide_eq_true p2
                          have e2 : Hid (fx Y (q + 1) = q) := Lib.hid (by rw [HFY.out, if_pos (hy1.1 p2)])
                          clear p1 p2 hx1 hy1 HFX HFY
                          go_wp2
                          go_roundg (gk - 1)
                          case measure => omega
                          case rel => exact ⟨q + 1, by go_num, by omega, by omega, HQ7, by rw [e1.out], by rw [e2.out]⟩
                        · have q3 : (d.id == b.id) = false := by simp [p2]
                          have q4 : decide (d.id = b.id) = false := decide_eq_false p2
                          have e2 : Hid (fx Y (q + 1) = fx Y q) := Lib.hid (by rw [HFY.out, if_neg (fun h => p2 (hy1.2 h))])
                          clear p1 p2 hx1 hy1 HFX HFY
                          go_wp2
                          go_roundg (gk - 1)
                          case measure => omega
                          case rel => exact ⟨q + 1, by go_num, by omega, by omega, HQ7, by rw [e1.out], by rw [e2.out]⟩
                      · have q1 : (d.id == a.id) = false := by simp [p1]
                        have q2 : decide (d.id = a.id) = false := decide_eq_false p1
                        have e1 : Hid (fx X (q + 1) = fx X q) := Lib.hid (by rw [HFX.out, if_neg (fun h => p1 (hx1.2 h))])
                        by_cases p2 : d.id = b.id
                        · have q3 : (d.id == b.id) = true := by simp [p2]
                          have q4 : decide (d.id = b.id) = true := decide_eq_true p2
                          have e2 : Hid (fx Y (q + 1) = q) := Lib.hid (by rw [HFY.out, if_pos (hy1.1 p2)])
                          clear p1 p2 hx1 hy1 HFX HFY
                          go_wp2
                          go_roundg (gk - 1)
                          case measure => omega
                          case rel => exact ⟨q + 1, by go_num, by omega, by omega, HQ7, by rw [e1.out], by rw [e2.out]⟩
                        · have q3 : (d.id == b.id) = false := by simp [p2]
                          have q4 : decide (d.id = b.id) = false := decide_eq_false p2
                          have e2 : Hid (fx Y (q + 1) = fx Y q) := Lib.hid (by rw [HFY.out, if_neg (fun h => p2 (hy1.2 h))])
                          clear p1 p2 hx1 hy1 HFX HFY
                          go_wp2
                          go_roundg (gk - 1)
                          case measure => omega
                          case rel => exact ⟨q + 1, by go_num, by omega, by omega, HQ7, by rw [e1.out], by rw [e2.out]⟩
                    · obtain rfl : m = q := by omega
                      have ex : fx X m = X := by unfold fx; rw [if_pos hXm]
                      have ey : fx Y m = Y := by unfold fx; rw [if_pos hYm]
                      rw [ex, ey]
                      have hqq := HQ5.out.trans (hb.out.mono HQ5.out.size)
                      have HQ8 := Lib.hid (HQ35.out.trans (hb.out.mono HQ35.out.size))
                      have hXl : X < N.length := by rw [HT1.out]; exact hXm
                      have hYl : Y < N.length := by rw [HT1.out]; exact hYm
                      have hvX : N[X] = ish p a := by have := HX4.out HX.out; simp only [HXX.out] at this; exact this
                      have hvY : N[Y] = ish p b := by have := HY4.out HY.out; simp only [HYY.out] at this; exact this
                      obtain ⟨px, hpx⟩ : ∃ z, (ish p a).pl = z := ⟨_, rfl⟩
                      obtain ⟨py, hpy⟩ : ∃ z, (ish p b).pl = z := ⟨_, rfl⟩
                      have HTZ : Hid (a.pl = b.pl → a.bi = b.bi → Y ≤ X ∧ px = py) := Lib.hid fun e1 e2 => by
                        have := HTJ.out e1 e2
                        rw [HXX.out, HYY.out, hpx, hpy] at this
                        exact this
                      obtain ⟨gN, oN, rfl, hgN, _, d1, _, _, _⟩ := (HRN.out.below hqq).in5 hXl
                      obtain ⟨_, _, e9, _, _, d2, _, _, _⟩ := (HRN.out.below hqq).in5 hYl
                      injection e9 with e9
                      injection e9 with e10 e11
                      subst e10
                      subst e11
                      rw [hvX, hpx] at d1
                      rw [hvY, hpy] at d2
                      have u3 := RawAt.below HR3.out HQ8.out HR3.out.lt
                      have u5 := RawAt.below HR5.out hb.out HR5.out.lt
                      have z1 := RawAt.cell u3 1
                      have z2 := RawAt.cell u3 2
                      have z3 := RawAt.cell u5 1
                      have z4 := RawAt.cell u5 2
                      simp at z1 z2 z3 z4
                      have MK : Hid (∀ W : World, Below wr.heap.size wr W → (fun W => W.cell? ⟨ba, 1, none⟩ = some (.int .i64 a.pl) ∧ W.cell? ⟨ba, 2, none⟩ = some (.int .i64 a.bi) ∧ W.cell? ⟨bb, 1, none⟩ = some (.int .i64 b.pl) ∧ W.cell? ⟨bb, 2, none⟩ = some (.int .i64 b.bi) ∧ W.cell? ⟨gN, oN + X * 5 + 1, none⟩ = some (.int .i64 px) ∧ W.cell? ⟨gN, oN + Y * 5 + 1, none⟩ = some (.int .i64 py)) W) := Lib.hid fun W hW => ⟨((old_cells hW).1 _ _ (Nat.lt_of_lt_of_le u3.lt (Nat.le_refl _))).trans z1, ((old_cells hW).1 _ _ u3.lt).trans z2, ((old_cells hW).1 _ _ u5.lt).trans z3, ((old_cells hW).1 _ _ u5.lt).trans z4, ((old_cells hW).1 _ _ hgN).trans d1, ((old_cells hW).1 _ _ hgN).trans d2⟩
                      have hW2 : Below wr.heap.size wr wr.drew := (Below.refl _ _).drew
                      have j1 : (0 : Int) ≤ X := by omega
                      have j2 : (X : Int) < m := by omega
                      have j3 : (0 : Int) ≤ Y := by omega
                      have j4 : (Y : Int) < m := by omega
                      have j5 : decide ((X : Int) < 0) = false := decide_eq_false (by omega)
                      have j6 : decide ((Y : Int) < 0) = false := decide_eq_false (by omega)
                      clear u3 u5 z1 z2 z3 z4 d1 d2 hgN hvX hvY hpx hpy hqq hb ex ey
                      by_cases p1 : a.pl = b.pl
                      · have q1 : (a.pl == b.pl) = true := by simp [p1]
                        have q2 : decide (a.pl = b.pl) = true := decide_eq_true p1
                        by_cases p2 : a.bi = b.bi
                        · have q3 : (a.bi == b.bi) = true := by simp [p2]
                          have q4 : decide (a.bi = b.bi) = true := decide_eq_true p2
                          obtain ⟨y1, y2⟩ := HTZ.out p1 p2
                          have j7 : decide (X < Y) = false := decide_eq_false (by omega)
                          have j8 : decide ((X : Int) < (Y : Int)) = false := decide_eq_false (by omega)
                          have j9 : (px != py) = false := by simp [y2]
                          have j10 : decide (px ≠ py) = false := by simp [y2]
                          clear y1 y2 p1 p2
                          go_wp2_with fail
                          refine wp_region_noPanic ?_
                          refine wp_region_held_drew (S := (fun W => W.cell? ⟨ba, 1, none⟩ = some (.int .i64 a.pl) ∧ W.cell? ⟨ba, 2, none⟩ = some (.int .i64 a.bi) ∧ W.cell? ⟨bb, 1, none⟩ = some (.int .i64 b.pl) ∧ W.cell? ⟨bb, 2, none⟩ = some (.int .i64 b.bi) ∧ W.cell? ⟨gN, oN + X * 5 + 1, none⟩ = some (.int .i64 px) ∧ W.cell? ⟨gN, oN + Y * 5 + 1, none⟩ = some (.int .i64 py))) (by kernel_rfl) (MK.out _ hW2) (fun hHeld => ?_)
                          refine wpAnyH_take (i := 0) (v := ?_) rfl (by kernel_rfl) (by kernel_rfl) (by kernel_rfl) (fun _ _ _ h => h) (Or.inl ⟨by rfl, ?_⟩) hHeld ?_
                          rotate_left
                          · intro w hSw
                            (try dsimp only at hSw)
                            go_simp
                            try with_reducible rfl
                          go_simp
                          refine wpAnyH_take (i := 1) (v := ?_) rfl (by kernel_rfl) (by kernel_rfl) (by kernel_rfl) (fun _ _ _ h => h) (Or.inl ⟨by rfl, ?_⟩) hHeld ?_
                          rotate_left
                          · intro w hSw
                            (try dsimp only at hSw)
                            go_simp
                            try with_reducible rfl
                          go_simp
                          refine wpAnyH_take (i := 2) (v := ?_) rfl (by kernel_rfl) (by kernel_rfl) (by kernel_rfl) (fun _ _ _ h => h) (Or.inl ⟨by rfl, ?_⟩) hHeld ?_
                          rotate_left
                          · intro w hSw
                            (try dsimp only at hSw)
                            go_simp
                            try with_reducible rfl
                          go_simp
                          refine wpAnyH_take (i := 3) (v := ?_) rfl (by kernel_rfl) (by kernel_rfl) (by kernel_rfl) (fun _ _ _ h => h) (Or.inl ⟨by rfl, ?_⟩) hHeld ?_
                          rotate_left
                          · intro w hSw
                            (try dsimp only at hSw)
                            go_simp
                            try with_reducible rfl
                          go_simp
                          refine wpAnyH_take (i := 4) (v := ?_) rfl (by kernel_rfl) (by kernel_rfl) (by kernel_rfl) (fun _ _ _ h => h) (Or.inl ⟨by rfl, ?_⟩) hHeld ?_
                          rotate_left
                          · intro w hSw
                            (try dsimp only at hSw)
                            go_simp
                            try with_reducible rfl
                          go_simp
                          refine wpAnyH_take (i := 5) (v := ?_) rfl (by kernel_rfl) (by kernel_rfl) (by kernel_rfl) (fun _ _ _ h => h) (Or.inl ⟨by rfl, ?_⟩) hHeld ?_
                          rotate_left
                          · intro w hSw
                            (try dsimp only at hSw)
                            go_simp
                            try with_reducible rfl
                          go_simp
                          refine wpAnyH_take (i := 6) (v := ?_) rfl (by kernel_rfl) (by kernel_rfl) (by kernel_rfl) (fun _ _ _ h => h) (Or.inl ⟨by rfl, ?_⟩) hHeld ?_
                          rotate_left
                          · intro w hSw
                            (try dsimp only at hSw)
                            go_simp
                            try with_reducible rfl
                          go_simp
                          refine wpAnyH_take (i := 7) (v := ?_) rfl (by kernel_rfl) (by kernel_rfl) (by kernel_rfl) (fun _ _ _ h => h) (Or.inl ⟨by rfl, ?_⟩) hHeld ?_
                          rotate_left
                          · intro w hSw
                            (try dsimp only at hSw)
                            go_simp
                            try with_reducible rfl
                          go_simp
                          refine wpAnyH_take (i := 8) (v := ?_) rfl (by kernel_rfl) (by kernel_rfl) (by kernel_rfl) (fun _ _ _ h => h) (Or.inl ⟨by rfl, ?_⟩) hHeld ?_
                          rotate_left
                          · intro w hSw
                            (try dsimp only at hSw)
                            go_simp
                            try with_reducible rfl
                          go_simp
                          refine wpAnyH_take (i := 9) (v := ?_) rfl (by kernel_rfl) (by kernel_rfl) (by kernel_rfl) (fun _ _ _ h => h) (Or.inl ⟨by rfl, ?_⟩) hHeld ?_
                          rotate_left
                          · intro w hSw
                            (try dsimp only at hSw)
                            go_simp
                            try with_reducible rfl
                          go_simp
                          refine wpAnyH_take (i := 10) (v := ?_) rfl (by kernel_rfl) (by kernel_rfl) (by kernel_rfl) (fun _ _ _ h => h) (Or.inl ⟨by rfl, ?_⟩) hHeld ?_
                          rotate_left
                          · intro w hSw
                            (try dsimp only at hSw)
                            go_simp
                            try with_reducible rfl
                          go_simp
                          refine wpAnyH_take (i := 11) (v := ?_) rfl (by kernel_rfl) (by kernel_rfl) (by kernel_rfl) (fun _ _ _ h => h) (Or.inl ⟨by rfl, ?_⟩) hHeld ?_
                          rotate_left
                          · intro w hSw
                            (try dsimp only at hSw)
                            go_simp
                            try with_reducible rfl
                          go_simp
                          refine wpAnyH_take (i := 12) (v := ?_) rfl (by kernel_rfl) (by kernel_rfl) (by kernel_rfl) (fun _ _ _ h => h) (Or.inl ⟨by rfl, ?_⟩) hHeld ?_
                          rotate_left
                          · intro w hSw
                            (try dsimp only at hSw)
                            go_simp
                            try with_reducible rfl
                          go_simp
                          refine wpAnyH_take (i := 13) (v := ?_) rfl (by kernel_rfl) (by kernel_rfl) (by kernel_rfl) (fun _ _ _ h => h) (Or.inl ⟨by rfl, ?_⟩) hHeld ?_
                          rotate_left
                          · intro w hSw
                            (try dsimp only at hSw)
                            go_simp
                            try with_reducible rfl
                          go_simp
                          refine wpAnyH_take (i := 14) (v := ?_) rfl (by kernel_rfl) (by kernel_rfl) (by kernel_rfl) (fun _ _ _ h => h) (Or.inl ⟨by rfl, ?_⟩) hHeld ?_
                          rotate_left
                          · intro w hSw
                            (try dsimp only at hSw)
                            go_simp
                            try with_reducible rfl
                          go_simp
                          refine wpAnyH_take (i := 15) (v := ?_) rfl (by kernel_rfl) (by kernel_rfl) (by kernel_rfl) (fun _ _ _ h => h) (Or.inl ⟨by rfl, ?_⟩) hHeld ?_
                          rotate_left
                          · intro w hSw
                            (try dsimp only at hSw)
                            go_simp
                            try with_reducible rfl
                          go_simp
                          refine wpAnyH_take (i := 16) (v := ?_) rfl (by kernel_rfl) (by kernel_rfl) (by kernel_rfl) (fun _ _ _ h => h) (Or.inl ⟨by rfl, ?_⟩) hHeld ?_
                          rotate_left
                          · intro w hSw
                            (try dsimp only at hSw)
                            go_simp
                            try with_reducible rfl
                          go_simp
                          refine wpAnyH_take (i := 17) (v := ?_) rfl (by kernel_rfl) (by kernel_rfl) (by kernel_rfl) (fun _ _ _ h => h) (Or.inl ⟨by rfl, ?_⟩) hHeld ?_
                          rotate_left
                          · intro w hSw
                            (try dsimp only at hSw)
                            go_simp
                            try with_reducible rfl
                          go_simp
                          refine wpAnyH_take (i := 18) (v := ?_) rfl (by kernel_rfl) (by kernel_rfl) (by kernel_rfl) (fun _ _ _ h => h) (Or.inl ⟨by rfl, ?_⟩) hHeld ?_
                          rotate_left
                          · intro w hSw
                            (try dsimp only at hSw)
                            go_simp
                            try with_reducible rfl
                          go_simp
                          refine wpAnyH_take (i := 19) (v := ?_) rfl (by kernel_rfl) (by kernel_rfl) (by kernel_rfl) (fun _ _ _ h => h) (Or.inl ⟨by rfl, ?_⟩) hHeld ?_
                          rotate_left
                          · intro w hSw
                            (try dsimp only at hSw)
                            go_simp
                            try with_reducible rfl
                          go_simp
                          refine wpAnyH_take (i := 20) (v := ?_) rfl (by kernel_rfl) (by kernel_rfl) (by kernel_rfl) (fun _ _ _ h => h) (Or.inl ⟨by rfl, ?_⟩) hHeld ?_
                          rotate_left
                          · intro w hSw
                            (try dsimp only at hSw)
                            go_simp
                            try with_reducible rfl
                          go_simp
                          refine wpAnyH_take (i := 21) (v := ?_) rfl (by kernel_rfl) (by kernel_rfl) (by kernel_rfl) (fun _ _ _ h => h) (Or.inl ⟨by rfl, ?_⟩) hHeld ?_
                          rotate_left
                          · intro w hSw
                            (try dsimp only at hSw)
                            go_simp
                            try with_reducible rfl
                          go_simp
                          refine wpAnyH_take (i := 22) (v := ?_) rfl (by kernel_rfl) (by kernel_rfl) (by kernel_rfl) (fun _ _ _ h => h) (Or.inl ⟨by rfl, ?_⟩) hHeld ?_
                          rotate_left
                          · intro w hSw
                            (try dsimp only at hSw)
                            go_simp
                            try with_reducible rfl
                          go_simp
                          refine wpAnyH_take (i := 23) (v := ?_) rfl (by kernel_rfl) (by kernel_rfl) (by kernel_rfl) (fun _ _ _ h => h) (Or.inl ⟨by rfl, ?_⟩) hHeld ?_
                          rotate_left
                          · intro w hSw
                            (try dsimp only at hSw)
                            go_simp
                            try with_reducible rfl
                          go_simp
                          refine wpAnyH_take (i := 24) (v := ?_) rfl (by kernel_rfl) (by kernel_rfl) (by kernel_rfl) (fun _ _ _ h => h) (Or.inl ⟨by rfl, ?_⟩) hHeld ?_
                          rotate_left
                          · intro w hSw
                            (try dsimp only at hSw)
                            go_simp
                            try with_reducible rfl
                          go_simp
                          refine wpAnyH_take (i := 25) (v := ?_) rfl (by kernel_rfl) (by kernel_rfl) (by kernel_rfl) (fun _ _ _ h => h) (Or.inl ⟨by rfl, ?_⟩) hHeld ?_
                          rotate_left
                          · intro w hSw
                            (try dsimp only at hSw)
                            go_simp
                            try with_reducible rfl
                          go_simp
                          refine wpAnyH_take (i := 26) (v := ?_) rfl (by kernel_rfl) (by kernel_rfl) (by kernel_rfl) (fun _ _ _ h => h) (Or.inl ⟨by rfl, ?_⟩) hHeld ?_
                          rotate_left
                          · intro w hSw
                            (try dsimp only at hSw)
                            go_simp
                            try with_reducible rfl
                          go_simp
                          refine wpAnyH_take (i := 27) (v := ?_) rfl (by kernel_rfl) (by kernel_rfl) (by kernel_rfl) (fun _ _ _ h => h) (Or.inl ⟨by rfl, ?_⟩) hHeld ?_
                          rotate_left
                          · intro w hSw
                            (try dsimp only at hSw)
                            go_simp
                            try with_reducible rfl
                          go_simp
                          refine wpAnyH_take (i := 28) (v := ?_) rfl (by kernel_rfl) (by kernel_rfl) (by kernel_rfl) (fun _ _ _ h => h) (Or.inl ⟨by rfl, ?_⟩) hHeld ?_
                          rotate_left
                          · intro w hSw
                            (try dsimp only at hSw)
                            go_simp
                            try with_reducible rfl
                          go_simp
                          refine wpAnyH_take (i := 29) (v := ?_) rfl (by kernel_rfl) (by kernel_rfl) (by kernel_rfl) (fun _ _ _ h => h) (Or.inl ⟨by rfl, ?_⟩) hHeld ?_
                          rotate_left
                          · intro w hSw
                            (try dsimp only at hSw)
                            go_simp
                            try with_reducible rfl
                          go_simp
                          refine wpAnyH_take (i := 30) (v := ?_) rfl (by kernel_rfl) (by kernel_rfl) (by kernel_rfl) (fun _ _ _ h => h) (Or.inl ⟨by rfl, ?_⟩) hHeld ?_
                          rotate_left
                          · intro w hSw
                            (try dsimp only at hSw)
                            go_simp
                            try with_reducible rfl
                          go_simp
                          refine wpAnyH_take (i := 31) (v := ?_) rfl (by kernel_rfl) (by kernel_rfl) (by kernel_rfl) (fun _ _ _ h => h) (Or.inl ⟨by rfl, ?_⟩) hHeld ?_
                          rotate_left
                          · intro w hSw
                            (try dsimp only at hSw)
                            go_simp
                            try with_reducible rfl
                          go_simp
                          refine wpAnyH_take (i := 32) (v := ?_) rfl (by kernel_rfl) (by kernel_rfl) (by kernel_rfl) (fun _ _ _ h => h) (Or.inl ⟨by rfl, ?_⟩) hHeld ?_
                          rotate_left
                          · intro w hSw
                            (try dsimp only at hSw)
                            go_simp
                            try with_reducible rfl
                          go_simp
                          refine wpAnyH_take (i := 33) (v := ?_) rfl (by kernel_rfl) (by kernel_rfl) (by kernel_rfl) (fun _ _ _ h => h) (Or.inl ⟨by rfl, ?_⟩) hHeld ?_
                          rotate_left
                          · intro w hSw
                            (try dsimp only at hSw)
                            go_simp
                            try with_reducible rfl
                          go_simp
                          refine wpAnyH_take (i := 34) (v := ?_) rfl (by kernel_rfl) (by kernel_rfl) (by kernel_rfl) (fun _ _ _ h => h) (Or.inl ⟨by rfl, ?_⟩) hHeld ?_
                          rotate_left
                          · intro w hSw
                            (try dsimp only at hSw)
                            go_simp
                            try with_reducible rfl
                          go_simp
                          refine wpAnyH_take (i := 35) (v := ?_) rfl (by kernel_rfl) (by kernel_rfl) (by kernel_rfl) (fun _ _ _ h => h) (Or.inl ⟨by rfl, ?_⟩) hHeld ?_
                          rotate_left
                          · intro w hSw
                            (try dsimp only at hSw)
                            go_simp
                            try with_reducible rfl
                          go_simp
                          refine wpAnyH_take (i := 36) (v := ?_) rfl (by kernel_rfl) (by kernel_rfl) (by kernel_rfl) (fun _ _ _ h => h) (Or.inl ⟨by rfl, ?_⟩) hHeld ?_
                          rotate_left
                          · intro w hSw
                            (try dsimp only at hSw)
                            go_simp
                            try with_reducible rfl
                          go_simp
                          refine wpAnyH_take (i := 37) (v := ?_) rfl (by kernel_rfl) (by kernel_rfl) (by kernel_rfl) (fun _ _ _ h => h) (Or.inl ⟨by rfl, ?_⟩) hHeld ?_
                          rotate_left
                          · intro w hSw
                            (try dsimp only at hSw)
                            go_simp
                            try with_reducible rfl
                          go_simp
                          refine wpAnyH_done (by kernel_rfl) ?_ _
                          refine NoPanic.normal ?_
                          have HQ9 := Lib.hid (HQ8.out.trans (hW2.mono HQ8.out.size))
                          clear hW2 hHeld
                          go_wp2
                          go_roundg (gM - 1)
                          case measure => omega
                          case rel => exact ⟨j + 1, by go_num, by omega, by omega, HQ9⟩
                        · have q3 : (a.bi == b.bi) = false := by simp [p2]
                          have q4 : decide (a.bi = b.bi) = false := decide_eq_false p2
                          clear p1 p2
                          go_wp2_with fail
                          refine wp_region_noPanic ?_
                          refine wp_region_held_drew (S := (fun W => W.cell? ⟨ba, 1, none⟩ = some (.int .i64 a.pl) ∧ W.cell? ⟨ba, 2, none⟩ = some (.int .i64 a.bi) ∧ W.cell? ⟨bb, 1, none⟩ = some (.int .i64 b.pl) ∧ W.cell? ⟨bb, 2, none⟩ = some (.int .i64 b.bi) ∧ W.cell? ⟨gN, oN + X * 5 + 1, none⟩ = some (.int .i64 px) ∧ W.cell? ⟨gN, oN + Y * 5 + 1, none⟩ = some (.int .i64 py))) (by kernel_rfl) (MK.out _ hW2) (fun hHeld => ?_)
                          refine wpAnyH_take (i := 0) (v := ?_) rfl (by kernel_rfl) (by kernel_rfl) (by kernel_rfl) (fun _ _ _ h => h) (Or.inl ⟨by rfl, ?_⟩) hHeld ?_
                          rotate_left
                          · intro w hSw
                            (try dsimp only at hSw)
                            go_simp
                            try with_reducible rfl
                          go_simp
                          refine wpAnyH_take (i := 1) (v := ?_) rfl (by kernel_rfl) (by kernel_rfl) (by kernel_rfl) (fun _ _ _ h => h) (Or.inl ⟨by rfl, ?_⟩) hHeld ?_
                          rotate_left
                          · intro w hSw
                            (try dsimp only at hSw)
                            go_simp
                            try with_reducible rfl
                          go_simp
                          refine wpAnyH_take (i := 2) (v := ?_) rfl (by kernel_rfl) (by kernel_rfl) (by kernel_rfl) (fun _ _ _ h => h) (Or.inl ⟨by rfl, ?_⟩) hHeld ?_
                          rotate_left
                          · intro w hSw
                            (try dsimp only at hSw)
                            go_simp
                            try with_reducible rfl
                          go_simp
                          refine wpAnyH_take (i := 3) (v := ?_) rfl (by kernel_rfl) (by kernel_rfl) (by kernel_rfl) (fun _ _ _ h => h) (Or.inl ⟨by rfl, ?_⟩) hHeld ?_
                          rotate_left
                          · intro w hSw
                            (try dsimp only at hSw)
                            go_simp
                            try with_reducible rfl
                          go_simp
                          refine wpAnyH_take (i := 4) (v := ?_) rfl (by kernel_rfl) (by kernel_rfl) (by kernel_rfl) (fun _ _ _ h => h) (Or.inl ⟨by rfl, ?_⟩) hHeld ?_
                          rotate_left
                          · intro w hSw
                            (try dsimp only at hSw)
                            go_simp
                            try with_reducible rfl
                          go_simp
                          refine wpAnyH_take (i := 5) (v := ?_) rfl (by kernel_rfl) (by kernel_rfl) (by kernel_rfl) (fun _ _ _ h => h) (Or.inl ⟨by rfl, ?_⟩) hHeld ?_
                          rotate_left
                          · intro w hSw
                            (try dsimp only at hSw)
                            go_simp
                            try with_reducible rfl
                          go_simp
                          refine wpAnyH_take (i := 6) (v := ?_) rfl (by kernel_rfl) (by kernel_rfl) (by kernel_rfl) (fun _ _ _ h => h) (Or.inl ⟨by rfl, ?_⟩) hHeld ?_
                          rotate_left
                          · intro w hSw
                            (try dsimp only at hSw)
                            go_simp
                            try with_reducible rfl
                          go_simp
                          refine wpAnyH_take (i := 7) (v := ?_) rfl (by kernel_rfl) (by kernel_rfl) (by kernel_rfl) (fun _ _ _ h => h) (Or.inl ⟨by rfl, ?_⟩) hHeld ?_
                          rotate_left
                          · intro w hSw
                            (try dsimp only at hSw)
                            go_simp
                            try with_reducible rfl
                          go_simp
                          refine wpAnyH_take (i := 8) (v := ?_) rfl (by kernel_rfl) (by kernel_rfl) (by kernel_rfl) (fun _ _ _ h => h) (Or.inl ⟨by rfl, ?_⟩) hHeld ?_
                          rotate_left
                          · intro w hSw
                            (try dsimp only at hSw)
                            go_simp
                            try with_reducible rfl
                          go_simp
                          refine wpAnyH_take (i := 9) (v := ?_) rfl (by kernel_rfl) (by kernel_rfl) (by kernel_rfl) (fun _ _ _ h => h) (Or.inl ⟨by rfl, ?_⟩) hHeld ?_
                          rotate_left
                          · intro w hSw
                            (try dsimp only at hSw)
                            go_simp
                            try with_reducible rfl
                          go_simp
                          refine wpAnyH_take (i := 10) (v := ?_) rfl (by kernel_rfl) (by kernel_rfl) (by kernel_rfl) (fun _ _ _ h => h) (Or.inl ⟨by rfl, ?_⟩) hHeld ?_
                          rotate_left
                          · intro w hSw
                            (try dsimp only at hSw)
                            go_simp
                            try with_reducible rfl
                          go_simp
                          refine wpAnyH_take (i := 11) (v := ?_) rfl (by kernel_rfl) (by kernel_rfl) (by kernel_rfl) (fun _ _ _ h => h) (Or.inl ⟨by rfl, ?_⟩) hHeld ?_
                          rotate_left
                          · intro w hSw
                            (try dsimp only at hSw)
                            go_simp
                            try with_reducible rfl
                          go_simp
                          refine wpAnyH_take (i := 12) (v := ?_) rfl (by kernel_rfl) (by kernel_rfl) (by kernel_rfl) (fun _ _ _ h => h) (Or.inl ⟨by rfl, ?_⟩) hHeld ?_
                          rotate_left
                          · intro w hSw
                            (try dsimp only at hSw)
                            go_simp
                            try with_reducible rfl
                          go_simp
                          refine wpAnyH_take (i := 13) (v := ?_) rfl (by kernel_rfl) (by kernel_rfl) (by kernel_rfl) (fun _ _ _ h => h) (Or.inl ⟨by rfl, ?_⟩) hHeld ?_
                          rotate_left
                          · intro w hSw
                            (try dsimp only at hSw)
                            go_simp
                            try with_reducible rfl
                          go_simp
                          refine wpAnyH_take (i := 14) (v := ?_) rfl (by kernel_rfl) (by kernel_rfl) (by kernel_rfl) (fun _ _ _ h => h) (Or.inl ⟨by rfl, ?_⟩) hHeld ?_
                          rotate_left
                          · intro w hSw
                            (try dsimp only at hSw)
                            go_simp
                            try with_reducible rfl
                          go_simp
                          refine wpAnyH_take (i := 15) (v := ?_) rfl (by kernel_rfl) (by kernel_rfl) (by kernel_rfl) (fun _ _ _ h => h) (Or.inl ⟨by rfl, ?_⟩) hHeld ?_
                          rotate_left
                          · intro w hSw
                            (try dsimp only at hSw)
                            go_simp
                            try with_reducible rfl
                          go_simp
                          refine wpAnyH_take (i := 16) (v := ?_) rfl (by kernel_rfl) (by kernel_rfl) (by kernel_rfl) (fun _ _ _ h => h) (Or.inl ⟨by rfl, ?_⟩) hHeld ?_
                          rotate_left
                          · intro w hSw
                            (try dsimp only at hSw)
                            go_simp
                            try with_reducible rfl
                          go_simp
                          refine wpAnyH_take (i := 17) (v := ?_) rfl (by kernel_rfl) (by kernel_rfl) (by kernel_rfl) (fun _ _ _ h => h) (Or.inl ⟨by rfl, ?_⟩) hHeld ?_
                          rotate_left
                          · intro w hSw
                            (try dsimp only at hSw)
                            go_simp
                            try with_reducible rfl
                          go_simp
                          refine wpAnyH_take (i := 18) (v := ?_) rfl (by kernel_rfl) (by kernel_rfl) (by kernel_rfl) (fun _ _ _ h => h) (Or.inl ⟨by rfl, ?_⟩) hHeld ?_
                          rotate_left
                          · intro w hSw
                            (try dsimp only at hSw)
                            go_simp
                            try with_reducible rfl
                          go_simp
                          refine wpAnyH_take (i := 19) (v := ?_) rfl (by kernel_rfl) (by kernel_rfl) (by kernel_rfl) (fun _ _ _ h => h) (Or.inl ⟨by rfl, ?_⟩) hHeld ?_
                          rotate_left
                          · intro w hSw
                            (try dsimp only at hSw)
                            go_simp
                            try with_reducible rfl
                          go_simp
                          refine wpAnyH_take (i := 20) (v := undef) rfl (by kernel_rfl) (by kernel_rfl) (by kernel_rfl) (fun _ _ _ h => h) (Or.inr ⟨by rfl, rfl⟩) hHeld ?_
                          go_simp
                          refine wpAnyH_take (i := 21) (v := undef) rfl (by kernel_rfl) (by kernel_rfl) (by kernel_rfl) (fun _ _ _ h => h) (Or.inr ⟨by rfl, rfl⟩) hHeld ?_
                          go_simp
                          refine wpAnyH_take (i := 22) (v := undef) rfl (by kernel_rfl) (by kernel_rfl) (by kernel_rfl) (fun _ _ _ h => h) (Or.inr ⟨by rfl, rfl⟩) hHeld ?_
                          go_simp
                          refine wpAnyH_take (i := 23) (v := undef) rfl (by kernel_rfl) (by kernel_rfl) (by kernel_rfl) (fun _ _ _ h => h) (Or.inr ⟨by rfl, rfl⟩) hHeld ?_
                          go_simp
                          refine wpAnyH_take (i := 24) (v := undef) rfl (by kernel_rfl) (by kernel_rfl) (by kernel_rfl) (fun _ _ _ h => h) (Or.inr ⟨by rfl, rfl⟩) hHeld ?_
                          go_simp
                          refine wpAnyH_take (i := 25) (v := undef) rfl (by kernel_rfl) (by kernel_rfl) (by kernel_rfl) (fun _ _ _ h => h) (Or.inr ⟨by rfl, rfl⟩) hHeld ?_
                          go_simp
                          refine wpAnyH_take (i := 26) (v := undef) rfl (by kernel_rfl) (by kernel_rfl) (by kernel_rfl) (fun _ _ _ h => h) (Or.inr ⟨by rfl, rfl⟩) hHeld ?_
                          go_simp
                          refine wpAnyH_take (i := 27) (v := undef) rfl (by kernel_rfl) (by kernel_rfl) (by kernel_rfl) (fun _ _ _ h => h) (Or.inr ⟨by rfl, rfl⟩) hHeld ?_
                          go_simp
                          refine wpAnyH_take (i := 28) (v := undef) rfl (by kernel_rfl) (by kernel_rfl) (by kernel_rfl) (fun _ _ _ h => h) (Or.inr ⟨by rfl, rfl⟩) hHeld ?_
                          go_simp
                          refine wpAnyH_take (i := 29) (v := undef) rfl (by kernel_rfl) (by kernel_rfl) (by kernel_rfl) (fun _ _ _ h => h) (Or.inr ⟨by rfl, rfl⟩) hHeld ?_
                          go_simp
                          refine wpAnyH_take (i := 30) (v := undef) rfl (by kernel_rfl) (by kernel_rfl) (by kernel_rfl) (fun _ _ _ h => h) (Or.inr ⟨by rfl, rfl⟩) hHeld ?_
                          go_simp
                          refine wpAnyH_take (i := 31) (v := undef) rfl (by kernel_rfl) (by kernel_rfl) (by kernel_rfl) (fun _ _ _ h => h) (Or.inr ⟨by rfl, rfl⟩) hHeld ?_
                          go_simp
                          refine wpAnyH_take (i := 32) (v := undef) rfl (by kernel_rfl) (by kernel_rfl) (by kernel_rfl) (fun _ _ _ h => h) (Or.inr ⟨by rfl, rfl⟩) hHeld ?_
                          go_simp
                          refine wpAnyH_take (i := 33) (v := undef) rfl (by kernel_rfl) (by kernel_rfl) (by kernel_rfl) (fun _ _ _ h => h) (Or.inr ⟨by rfl, rfl⟩) hHeld ?_
                          go_simp
                          refine wpAnyH_take (i := 34) (v := undef) rfl (by kernel_rfl) (by kernel_rfl) (by kernel_rfl) (fun _ _ _ h => h) (Or.inr ⟨by rfl, rfl⟩) hHeld ?_
                          go_simp
                          refine wpAnyH_take (i := 35) (v := undef) rfl (by kernel_rfl) (by kernel_rfl) (by kernel_rfl) (fun _ _ _ h => h) (Or.inr ⟨by rfl, rfl⟩) hHeld ?_
                          go_simp
                          refine wpAnyH_take (i := 36) (v := ?_) rfl (by kernel_rfl) (by kernel_rfl) (by kernel_rfl) (fun _ _ _ h => h) (Or.inl ⟨by rfl, ?_⟩) hHeld ?_
                          rotate_left
                          · intro w hSw
                            (try dsimp only at hSw)
                            go_simp
                            try with_reducible rfl
                          go_simp
                          refine wpAnyH_take (i := 37) (v := ?_) rfl (by kernel_rfl) (by kernel_rfl) (by kernel_rfl) (fun _ _ _ h => h) (Or.inl ⟨by rfl, ?_⟩) hHeld ?_
                          rotate_left
                          · intro w hSw
                            (try dsimp only at hSw)
                            go_simp
                            try with_reducible rfl
                          go_simp
                          refine wpAnyH_done (by kernel_rfl) ?_ _
                          refine NoPanic.normal ?_
                          have HQ9 := Lib.hid (HQ8.out.trans (hW2.mono HQ8.out.size))
                          clear hW2 hHeld
                          go_wp2
                          go_roundg (gM - 1)
                          case measure => omega
                          case rel => exact ⟨j + 1, by go_num, by omega, by omega, HQ9⟩
                      · have q1 : (a.pl == b.pl) = false := by simp [p1]
                        have q2 : decide (a.pl = b.pl) = false := decide_eq_false p1
                        clear p1
                        go_wp2_with fail
                        refine wp_region_noPanic ?_
                        refine wp_region_held_drew (S := (fun W => W.cell? ⟨ba, 1, none⟩ = some (.int .i64 a.pl) ∧ W.cell? ⟨ba, 2, none⟩ = some (.int .i64 a.bi) ∧ W.cell? ⟨bb, 1, none⟩ = some (.int .i64 b.pl) ∧ W.cell? ⟨bb, 2, none⟩ = some (.int .i64 b.bi) ∧ W.cell? ⟨gN, oN + X * 5 + 1, none⟩ = some (.int .i64 px) ∧ W.cell? ⟨gN, oN + Y * 5 + 1, none⟩ = some (.int .i64 py))) (by kernel_rfl) (MK.out _ hW2) (fun hHeld => ?_)
                        refine wpAnyH_take (i := 0) (v := ?_) rfl (by kernel_rfl) (by kernel_rfl) (by kernel_rfl) (fun _ _ _ h => h) (Or.inl ⟨by rfl, ?_⟩) hHeld ?_
                        rotate_left
                        · intro w hSw
                          (try dsimp only at hSw)
                          go_simp
                          try with_reducible rfl
                        go_simp
                        refine wpAnyH_take (i := 1) (v := ?_) rfl (by kernel_rfl) (by kernel_rfl) (by kernel_rfl) (fun _ _ _ h => h) (Or.inl ⟨by rfl, ?_⟩) hHeld ?_
                        rotate_left
                        · intro w hSw
                          (try dsimp only at hSw)
                          go_simp
                          try with_reducible rfl
                        go_simp
                        refine wpAnyH_take (i := 2) (v := ?_) rfl (by kernel_rfl) (by kernel_rfl) (by kernel_rfl) (fun _ _ _ h => h) (Or.inl ⟨by rfl, ?_⟩) hHeld ?_
                        rotate_left
                        · intro w hSw
                          (try dsimp only at hSw)
                          go_simp
                          try with_reducible rfl
                        go_simp
                        refine wpAnyH_take (i := 3) (v := ?_) rfl (by kernel_rfl) (by kernel_rfl) (by kernel_rfl) (fun _ _ _ h => h) (Or.inl ⟨by rfl, ?_⟩) hHeld ?_
                        rotate_left
                        · intro w hSw
                          (try dsimp only at hSw)
                          go_simp
                          try with_reducible rfl
                        go_simp
                        refine wpAnyH_take (i := 4) (v := ?_) rfl (by kernel_rfl) (by kernel_rfl) (by kernel_rfl) (fun _ _ _ h => h) (Or.inl ⟨by rfl, ?_⟩) hHeld ?_
                        rotate_left
                        · intro w hSw
                          (try dsimp only at hSw)
                          go_simp
                          try with_reducible rfl
                        go_simp
                        refine wpAnyH_take (i := 5) (v := ?_) rfl (by kernel_rfl) (by kernel_rfl) (by kernel_rfl) (fun _ _ _ h => h) (Or.inl ⟨by rfl, ?_⟩) hHeld ?_
                        rotate_left
                        · intro w hSw
                          (try dsimp only at hSw)
                          go_simp
                          try with_reducible rfl
                        go_simp
                        refine wpAnyH_take (i := 6) (v := ?_) rfl (by kernel_rfl) (by kernel_rfl) (by kernel_rfl) (fun _ _ _ h => h) (Or.inl ⟨by rfl, ?_⟩) hHeld ?_
                        rotate_left
                        · intro w hSw
                          (try dsimp only at hSw)
                          go_simp
                          try with_reducible rfl
                        go_simp
                        refine wpAnyH_take (i := 7) (v := ?_) rfl (by kernel_rfl) (by kernel_rfl) (by kernel_rfl) (fun _ _ _ h => h) (Or.inl ⟨by rfl, ?_⟩) hHeld ?_
                        rotate_left
                        · intro w hSw
                          (try dsimp only at hSw)
                          go_simp
                          try with_reducible rfl
                        go_simp
                        refine wpAnyH_take (i := 8) (v := ?_) rfl (by kernel_rfl) (by kernel_rfl) (by kernel_rfl) (fun _ _ _ h => h) (Or.inl ⟨by rfl, ?_⟩) hHeld ?_
                        rotate_left
                        · intro w hSw
                          (try dsimp only at hSw)
                          go_simp
                          try with_reducible rfl
                        go_simp
                        refine wpAnyH_take (i := 9) (v := ?_) rfl (by kernel_rfl) (by kernel_rfl) (by kernel_rfl) (fun _ _ _ h => h) (Or.inl ⟨by rfl, ?_⟩) hHeld ?_
                        rotate_left
                        · intro w hSw
                          (try dsimp only at hSw)
                          go_simp
                          try with_reducible rfl
                        go_simp
                        refine wpAnyH_take (i := 10) (v := ?_) rfl (by kernel_rfl) (by kernel_rfl) (by kernel_rfl) (fun _ _ _ h => h) (Or.inl ⟨by rfl, ?_⟩) hHeld ?_
                        rotate_left
                        · intro w hSw
                          (try dsimp only at hSw)
                          go_simp
                          try with_reducible rfl
                        go_simp
                        refine wpAnyH_take (i := 11) (v := ?_) rfl (by kernel_rfl) (by kernel_rfl) (by kernel_rfl) (fun _ _ _ h => h) (Or.inl ⟨by rfl, ?_⟩) hHeld ?_
                        rotate_left
                        · intro w hSw
                          (try dsimp only at hSw)
                          go_simp
                          try with_reducible rfl
                        go_simp
                        refine wpAnyH_take (i := 12) (v := ?_) rfl (by kernel_rfl) (by kernel_rfl) (by kernel_rfl) (fun _ _ _ h => h) (Or.inl ⟨by rfl, ?_⟩) hHeld ?_
                        rotate_left
                        · intro w hSw
                          (try dsimp only at hSw)
                          go_simp
                          try with_reducible rfl
                        go_simp
                        refine wpAnyH_take (i := 13) (v := undef) rfl (by kernel_rfl) (by kernel_rfl) (by kernel_rfl) (fun _ _ _ h => h) (Or.inr ⟨by rfl, rfl⟩) hHeld ?_
                        go_simp
                        refine wpAnyH_take (i := 14) (v := undef) rfl (by kernel_rfl) (by kernel_rfl) (by kernel_rfl) (fun _ _ _ h => h) (Or.inr ⟨by rfl, rfl⟩) hHeld ?_
                        go_simp
                        refine wpAnyH_take (i := 15) (v := undef) rfl (by kernel_rfl) (by kernel_rfl) (by kernel_rfl) (fun _ _ _ h => h) (Or.inr ⟨by rfl, rfl⟩) hHeld ?_
                        go_simp
                        refine wpAnyH_take (i := 16) (v := undef) rfl (by kernel_rfl) (by kernel_rfl) (by kernel_rfl) (fun _ _ _ h => h) (Or.inr ⟨by rfl, rfl⟩) hHeld ?_
                        go_simp
                        refine wpAnyH_take (i := 17) (v := undef) rfl (by kernel_rfl) (by kernel_rfl) (by kernel_rfl) (fun _ _ _ h => h) (Or.inr ⟨by rfl, rfl⟩) hHeld ?_
                        go_simp
                        refine wpAnyH_take (i := 18) (v := ?_) rfl (by kernel_rfl) (by kernel_rfl) (by kernel_rfl) (fun _ _ _ h => h) (Or.inl ⟨by rfl, ?_⟩) hHeld ?_
                        rotate_left
                        · intro w hSw
                          (try dsimp only at hSw)
                          go_simp
                          try with_reducible rfl
                        go_simp
                        refine wpAnyH_take (i := 19) (v := ?_) rfl (by kernel_rfl) (by kernel_rfl) (by kernel_rfl) (fun _ _ _ h => h) (Or.inl ⟨by rfl, ?_⟩) hHeld ?_
                        rotate_left
                        · intro w hSw
                          (try dsimp only at hSw)
                          go_simp
                          try with_reducible rfl
                        go_simp
                        refine wpAnyH_take (i := 20) (v := undef) rfl (by kernel_rfl) (by kernel_rfl) (by kernel_rfl) (fun _ _ _ h => h) (Or.inr ⟨by rfl, rfl⟩) hHeld ?_
                        go_simp
                        refine wpAnyH_take (i := 21) (v := undef) rfl (by kernel_rfl) (by kernel_rfl) (by kernel_rfl) (fun _ _ _ h => h) (Or.inr ⟨by rfl, rfl⟩) hHeld ?_
                        go_simp
                        refine wpAnyH_take (i := 22) (v := undef) rfl (by kernel_rfl) (by kernel_rfl) (by kernel_rfl) (fun _ _ _ h => h) (Or.inr ⟨by rfl, rfl⟩) hHeld ?_
                        go_simp
                        refine wpAnyH_take (i := 23) (v := undef) rfl (by kernel_rfl) (by kernel_rfl) (by kernel_rfl) (fun _ _ _ h => h) (Or.inr ⟨by rfl, rfl⟩) hHeld ?_
                        go_simp
                        refine wpAnyH_take (i := 24) (v := undef) rfl (by kernel_rfl) (by kernel_rfl) (by kernel_rfl) (fun _ _ _ h => h) (Or.inr ⟨by rfl, rfl⟩) hHeld ?_
                        go_simp
                        refine wpAnyH_take (i := 25) (v := undef) rfl (by kernel_rfl) (by kernel_rfl) (by kernel_rfl) (fun _ _ _ h => h) (Or.inr ⟨by rfl, rfl⟩) hHeld ?_
                        go_simp
                        refine wpAnyH_take (i := 26) (v := undef) rfl (by kernel_rfl) (by kernel_rfl) (by kernel_rfl) (fun _ _ _ h => h) (Or.inr ⟨by rfl, rfl⟩) hHeld ?_
                        go_simp
                        refine wpAnyH_take (i := 27) (v := undef) rfl (by kernel_rfl) (by kernel_rfl) (by kernel_rfl) (fun _ _ _ h => h) (Or.inr ⟨by rfl, rfl⟩) hHeld ?_
                        go_simp
                        refine wpAnyH_take (i := 28) (v := undef) rfl (by kernel_rfl) (by kernel_rfl) (by kernel_rfl) (fun _ _ _ h => h) (Or.inr ⟨by rfl, rfl⟩) hHeld ?_
                        go_simp
                        refine wpAnyH_take (i := 29) (v := undef) rfl (by kernel_rfl) (by kernel_rfl) (by kernel_rfl) (fun _ _ _ h => h) (Or.inr ⟨by rfl, rfl⟩) hHeld ?_
                        go_simp
                        refine wpAnyH_take (i := 30) (v := undef) rfl (by kernel_rfl) (by kernel_rfl) (by kernel_rfl) (fun _ _ _ h => h) (Or.inr ⟨by rfl, rfl⟩) hHeld ?_
                        go_simp
                        refine wpAnyH_take (i := 31) (v := undef) rfl (by kernel_rfl) (by kernel_rfl) (by kernel_rfl) (fun _ _ _ h => h) (Or.inr ⟨by rfl, rfl⟩) hHeld ?_
                        go_simp
                        refine wpAnyH_take (i := 32) (v := undef) rfl (by kernel_rfl) (by kernel_rfl) (by kernel_rfl) (fun _ _ _ h => h) (Or.inr ⟨by rfl, rfl⟩) hHeld ?_
                        go_simp
                        refine wpAnyH_take (i := 33) (v := undef) rfl (by kernel_rfl) (by kernel_rfl) (by kernel_rfl) (fun _ _ _ h => h) (Or.inr ⟨by rfl, rfl⟩) hHeld ?_
                        go_simp
                        refine wpAnyH_take (i := 34) (v := undef) rfl (by kernel_rfl) (by kernel_rfl) (by kernel_rfl) (fun _ _ _ h => h) (Or.inr ⟨by rfl, rfl⟩) hHeld ?_
                        go_simp
                        refine wpAnyH_take (i := 35) (v := undef) rfl (by kernel_rfl) (by kernel_rfl) (by kernel_rfl) (fun _ _ _ h => h) (Or.inr ⟨by rfl, rfl⟩) hHeld ?_
                        go_simp
                        refine wpAnyH_take (i := 36) (v := ?_) rfl (by kernel_rfl) (by kernel_rfl) (by kernel_rfl) (fun _ _ _ h => h) (Or.inl ⟨by rfl, ?_⟩) hHeld ?_
                        rotate_left
                        · intro w hSw
                          (try dsimp only at hSw)
                          go_simp
                          try with_reducible rfl
                        go_simp
                        refine wpAnyH_take (i := 37) (v := ?_) rfl (by kernel_rfl) (by kernel_rfl) (by kernel_rfl) (fun _ _ _ h => h) (Or.inl ⟨by rfl, ?_⟩) hHeld ?_
                        rotate_left
                        · intro w hSw
                          (try dsimp only at hSw)
                          go_simp
                          try with_reducible rfl
                        go_simp
                        refine wpAnyH_done (by kernel_rfl) ?_ _
                        refine NoPanic.normal ?_
                        have HQ9 := Lib.hid (HQ8.out.trans (hW2.mono HQ8.out.size))
                        clear hW2 hHeld
                        go_wp2
                        go_roundg (gM - 1)
                        case measure => omega
                        case rel => exact ⟨j + 1, by go_num, by omega, by omega, HQ9⟩
                · obtain rfl : k = j := by omega
                  have HQZ := Lib.hid (HQ3.out.trans (hb.out.mono HQ3.out.size))
                  clear hb
                  go_wp2
                  go_roundg (gO - 1)
                  case measure => omega
                  case rel => exact ⟨k + 1, by go_num, by omega, by omega, HQZ⟩
            · obtain rfl : m = k := by omega
              have Q10 := Lib.hid (Q9.out.trans (hb.out.mono Q9.out.size))
              clear hb
              go_wp2_with fail
              with_reducible refine (C3.out _).mono ?_
              rintro e w11 ⟨rfl, bb⟩
              have Q11 := Lib.hid (Q10.out.trans (bb.mono Q10.out.size))
              clear bb
              go_wp2
              go_ret
              exact ⟨rfl, Q11.out⟩
        · have k5 : (rs != 0) = true := by simp [hz2]
          have k6 : (rs == 0) = false := by simp [hz2]
          have HZ2 := Lib.hid hz2
          clear hz2 hrs hol how hos hoa ho hto hr hr0 hw1 ht hI hl hn hc hO hP hp hpn hpc g1 g2 hok hsO n0 n40
          go_enter Try.func5, Try.ntmps5
          go_wp2_with fail
          with_reducible refine (CLF.out).mono ?_
          rintro e w2 ⟨rfl, bb⟩
          have Q2 := Lib.hid bb
          clear bb
          go_wp2_with fail
          with_reducible refine (CN.out _ Q2.out).mono ?_
          rintro e w4 ⟨p4, rfl, _, hp4, bb⟩
          have Q4 := Lib.hid (Q2.out.trans (bb.mono Q2.out.size))
          obtain ⟨s4, rfl, h4⟩ := hp4 (by first | exact trivial | rfl)
          have H4 := Lib.hid h4
          clear hp4 h4
          clear bb
          go_wp2_with fail
          with_reducible refine (CS.out s4 _ Q4.out H4.out).mono ?_
          rintro e w5 ⟨p5, rfl, hp5, _, bb⟩
          have Q5 := Lib.hid (Q4.out.trans (bb.mono Q4.out.size))
          have hp := hp5 HZ2.out
          subst hp
          clear hp5 H4
          clear bb
          go_wp2_with fail
          with_reducible refine (CR.out _ Q5.out).mono ?_
          rintro e w6 ⟨nn, A6, m6, c6, rfl, hres, bb⟩
          have Q6 := Lib.hid (Q5.out.trans (bb.mono Q5.out.size))
          obtain ⟨y1, y2, hR6⟩ := hres (by first | exact trivial | rfl)
          rw [HLL.out] at y2
          rw [← HOO.out] at hR6
          have y1 := y1.symm
          subst y1
          have y2 := y2.symm
          subst y2
          have HR6 := Lib.hid hR6
          clear hres hR6
          clear bb
          go_wp2_with fail
          with_reducible refine (CG.out _ Q6.out).mono ?_
          rintro e w7 ⟨A7, c7, rfl, hG, _, bb⟩
          have Q7 := Lib.hid (Q6.out.trans (bb.mono Q6.out.size))
          have CP7 := Lib.hid (CP.out 0 A6 c6 A7 c7 _ (HR6.out.below bb) hG)
          clear hG HR6
          clear bb
          go_wp2_with fail
          with_reducible refine (CP7.out).mono ?_
          rintro e w8 ⟨nn, A8, m8, c8, rfl, _, bb⟩
          have Q8 := Lib.hid (Q7.out.trans (bb.mono Q7.out.size))
          clear bb
          go_wp2_with fail
          with_reducible refine (C3.out _).mono ?_
          rintro e w9 ⟨rfl, bb⟩
          have Q9 := Lib.hid (Q8.out.trans (bb.mono Q8.out.size))
          clear bb
          go_wp2
          go_ret
          exact ⟨rfl, Q9.out⟩
      · have k5 : (r != 0) = true := by simp [hz]
        have k6 : (r == 0) = false := by simp [hz]
        have HZ := Lib.hid hz
        clear hz hr hol how hw1 ht hI hl hn hc hO hP hp hpn hpc g1 g2
        go_enter Try.func5, Try.ntmps5
        go_wp2_with fail
        with_reducible refine (CLF.out).mono ?_
        rintro e w2 ⟨rfl, bb⟩
        have Q2 := Lib.hid bb
        clear bb
        go_wp2_with fail
        with_reducible refine (CN.out _ Q2.out).mono ?_
        rintro e w4 ⟨p4, rfl, hp4, _, bb⟩
        have Q4 := Lib.hid (Q2.out.trans (bb.mono Q2.out.size))
        have hp := hp4 HZ.out
        subst hp
        clear hp4
        clear bb
        go_wp2_with fail
        with_reducible refine (CR.out _ Q4.out).mono ?_
        rintro e w5 ⟨nn, A5, m5, c5, rfl, _, bb⟩
        have Q5 := Lib.hid (Q4.out.trans (bb.mono Q4.out.size))
        clear bb
        go_wp2_with fail
        with_reducible refine (C3.out _).mono ?_
        rintro e w8 ⟨rfl, bb⟩
        have Q8 := Lib.hid (Q5.out.trans (bb.mono Q5.out.size))
        clear bb
        go_wp2
        go_ret
        exact ⟨rfl, Q8.out⟩
  · have CLF := Lib.hid (CL1.out true ⟨fun _ => g1, fun _ => rfl⟩)
    clear CL1
    go_enter Try.func5, Try.ntmps5
    go_wp2_with fail
    with_reducible refine (CLF.out).mono ?_
    rintro e w2 ⟨rfl, bb⟩
    have Q2 := Lib.hid bb
    clear bb
    go_wp2_with fail
    with_reducible refine (C3.out _).mono ?_
    rintro e w8 ⟨rfl, bb⟩
    have Q8 := Lib.hid (Q2.out.trans (bb.mono Q2.out.size))
    clear bb
    go_wp2
    go_ret
    exact ⟨rfl, Q8.out⟩
end Go.Proofs.Ytmijlijgcaaiiaa
