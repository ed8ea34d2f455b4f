/- Creases: the law CreaseUpdates, walked. -/
import Derived.Test.YtjkmkobnfhepaaaGreatCrUm
import Derived.Test.YtjkmkobnfhepaaaGreatCrUe
import Derived.Test.YtjkmkobnfhepaaaGreatCrX
import Derived.Test.YtjkmkobnfhepaaaGreatSpcB
import Derived.Test.YtjkmkobnfhepaaaGreatInC2
import Derived.Deep.DeepCutAuto
import Derived.BigQuiet
namespace Go.Proofs.YtjkmkobnfhepaaaGreat
open Go.RowKit Go.Sort
set_option linter.unusedVariables false
abbrev cuZ : Array Value := #[.int .i64 0, .slice none 0 0, .int .i64 0]
abbrev cuS : Array Value := #[.int .i64 0, .int .i64 0]
theorem cu_rows {w : World} {A : Option Addr} {l : List In} (h : RowsAt encI 5 w A l) {t : TypeId} {b : Nat} {cs : Array Value} (r : RawAt t w b cs) (hs : cs.size = 3) (vs : Array Value) : RowsAt encI 5 (w.setRow b vs) A l := by
  intro hl
  obtain ⟨bA, off, rfl, h1, h2⟩ := h hl
  have hne : bA ≠ b := by
    rintro rfl
    have := h2 0 hl 4 (by omega)
    rw [RawAt.cell r, Array.getElem?_eq_none (by omega)] at this
    cases this
  exact ⟨bA, off, rfl, by simpa using h1, fun j hj c hc => (cell_setRow_other w b vs _ hne).trans (h2 j hj c hc)⟩
theorem cr_hi : ∀ (l : List (Int × Int)) (f t : Int), CrOk f l t → ∀ x ∈ l, x.2 ≤ t
  | y :: l, f, t, h, x, hx => by
    obtain ⟨h1, h2, h3⟩ := h
    rcases List.mem_cons.1 hx with rfl | hx
    · exact h3.le
    · exact cr_hi l y.2 t h3 x hx
set_option maxHeartbeats 32000000 in
set_option maxRecDepth 100000 in
theorem creaseUpdates_walk (t : Txt) (x : Spc) (w : World) (hT : TxtOk w t) (hS : SpcOk w x) (hta : ∀ a ∈ x.a, a.tx.size ≤ 100000000) :
    Calls Tryz.prog 3 #[.agg #[.int .i64 t.n, .slice t.A t.m t.c, .slice t.B t.k t.d], .agg #[.int .i64 x.f, .int .i64 x.t, .slice x.R x.r x.rc, .slice x.A x.n x.c, .slice x.B x.k x.d]] w fun e w' => e = .returned (.bool true) ∧ Below w.heap.size w w' := by
  obtain ⟨n, A, m, c, l, B, k, d, o⟩ := t
  obtain ⟨f, tt, RA, rn, rc, rem, BA, bk, bc, add, DB, dk, dc, h2⟩ := x
  obtain ⟨_, la, mx, caps, rows, ok, lb, mxb, capsb, rowsb, okb⟩ := hT
  obtain ⟨_, lr, mxr, ints, wfr, lad, mxa, capsa, rowsa, oka, lh, mxh, capsh, rowsh⟩ := hS
  simp only at la mx caps rows ok lb mxb capsb rowsb okb lr mxr ints wfr lad mxa capsa rowsa oka lh mxh capsh rowsh hta ⊢
  have C6 := Lib.hid fun W => csix_any W
  have CLO := Lib.hid fun (b : Bool) (hb : b = true ↔ ¬ Short16 n l o) (W : World) (hW : Below w.heap.size w W) => long16_any n A m c l B k d o b W (rows.below hW) caps la mx (fun x hx => (ok x hx).2.2.2.2) lb mxb hb
  by_cases g : Short16 n l o
  rotate_left
  · skip
    obtain ⟨n1, n2, b1, e1⟩ := new2 w 25 30 #[.int .i64 n, .slice A m c, .slice B k d] #[.int .i64 f, .int .i64 tt, .slice RA rn rc, .slice BA bk bc, .slice DB dk dc]
    clear e1
    go_enter Tryz.func3, Tryz.ntmps3
    go_upto_region 1 with fail
    generalize (w.alloc (.cells #[.int .i64 n, .slice A m c, .slice B k d] 25)).alloc (.cells #[.int .i64 f, .int .i64 tt, .slice RA rn rc, .slice BA bk bc, .slice DB dk dc] 30) = W1 at *
    have T0 := Lib.hid n1
    have X0 := Lib.hid n2
    have HQ := Lib.hid b1
    clear n1 n2 b1
    have pT00 : W1.cell? ⟨w.heap.size, 0, none⟩ = some (.int .i64 n) := RawAt.cell T0.out 0
    have pT01 : W1.cell? ⟨w.heap.size, 1, none⟩ = some (.slice A m c) := RawAt.cell T0.out 1
    have pT02 : W1.cell? ⟨w.heap.size, 2, none⟩ = some (.slice B k d) := RawAt.cell T0.out 2
    go_wp2_with fail
    with_reducible refine (CLO.out true ⟨fun _ => g, fun _ => rfl⟩ _ HQ.out).mono ?_
    rintro e w2 ⟨rfl, b9⟩
    clear pT00 pT01 pT02
    have HQ := Lib.hid (HQ.out.trans (b9.mono HQ.out.size))
    have T0 := Lib.hid (RawAt.below T0.out b9 (RawAt.lt T0.out))
    have X0 := Lib.hid (RawAt.below X0.out b9 (RawAt.lt X0.out))
    clear b9
    go_wp2_with fail
    with_reducible refine (C6.out _).mono ?_
    rintro e wz ⟨rfl, bz⟩
    have HZ9 := Lib.hid (HQ.out.trans (bz.mono HQ.out.size))
    clear bz
    go_wp2
    go_ret
    exact ⟨rfl, HZ9.out⟩
  have CL1 := Lib.hid (CLO.out false ⟨fun h => absurd h (by simp), fun h => absurd g h⟩)
  clear CLO
  obtain ⟨g0, g1, g2, g3, g4, g5⟩ := g
  obtain ⟨N, rfl⟩ : ∃ N : Nat, n = N := ⟨n.toNat, by omega⟩
  have HX : Hid (∀ W, Below w.heap.size w W → Tx16 W N A m c l B k o) := Lib.hid fun W hW => ⟨rows.below hW, caps, la, g4, g5, by omega, by rw [← la]; exact g2, rowsb.below hW, lb, by rw [← lb]; exact g3⟩
  have hx0 := HX.out w (Below.refl _ _)
  have HWF := Lib.hid fun (a : In) (ha : a ∈ l) => (ok a ha).1
  have HWA := Lib.hid fun (a : In) (ha : a ∈ add) => (oka a ha).1
  have HCAP := Lib.hid caps
  have HCA := Lib.hid capsa
  have HRA := Lib.hid rowsa
  have HRH := Lib.hid rowsh
  have HINT := Lib.hid ints
  have HLA := Lib.hid la
  have HLR := Lib.hid lr
  have HLD := Lib.hid lad
  have HLH := Lib.hid lh
  have HG4 := Lib.hid g4
  have HG5 := Lib.hid g5
  have HTA := Lib.hid hta
  have k1 := hx0.k1
  have hm := hx0.hm
  have hn2 := hx0.n2
  have hset := hx0.set
  have hol := hx0.olen
  have HSET := Lib.hid hset
  have HOL := Lib.hid hol
  have hzi := hx0.zis
  have HZI := Lib.hid hzi.1
  have hzb := hzi.2
  have CR := Lib.hid fun (b : Bool) (hb : b = true ↔ RtOk 0 o N) (W : World) (hW : Below w.heap.size w W) => rRight16 N B k d o b hb W (HX.out W hW).hB (HX.out W hW).hk (by omega)
  have CRH := Lib.hid fun (b : Bool) (hb : b = true ↔ RtOk 0 h2 N) (W : World) (hW : Below w.heap.size w W) (hd : dk ≤ 100) => rRight16 N DB dk dc h2 b hb W (HRH.out.below hW) HLH.out (by omega)
  have CRN : Hid (∀ W, Below w.heap.size w W → Calls Tryz.prog 7 #[.int .i64 N, .slice A m c] W fun e w' => ∃ A2 c2, e = .returned (.agg #[.int .i64 N, .slice A2 m c2, .int .i64 0]) ∧ RowsAt encI 5 w' A2 (oI l) ∧ Below W.heap.size W w') := Lib.hid fun W hW => by
    refine (rNew13_c N A m c l W (HX.out W hW).hA HCAP.out HLA.out (fun a ha => Nat.le_trans (HG4.out a ha) (by omega)) 0 HG5.out).mono ?_
    rintro e w' ⟨nn, A2, m2, c2, rfl, hres, hb⟩
    obtain ⟨q1, q2, q3, _⟩ := hres rfl
    subst q1
    rw [HLA.out] at q2
    subst q2
    exact ⟨A2, c2, rfl, q3, hb⟩
  clear hx0 hset hol hzi g0 g1 g2 g3 g4 g5 wfr caps capsa rowsa rowsh ints la lr lad lh rows rowsb oka ok okb lb capsb capsh
  obtain ⟨n1, n2, b1, e1⟩ := new2 w 25 30 #[.int .i64 N, .slice A m c, .slice B k d] #[.int .i64 f, .int .i64 tt, .slice RA rn rc, .slice BA bk bc, .slice DB dk dc]
  clear e1
  go_enter Tryz.func3, Tryz.ntmps3
  go_upto_region 1 with fail
  generalize (w.alloc (.cells #[.int .i64 N, .slice A m c, .slice B k d] 25)).alloc (.cells #[.int .i64 f, .int .i64 tt, .slice RA rn rc, .slice BA bk bc, .slice DB dk dc] 30) = W1 at *
  have T0 := Lib.hid n1
  have X0 := Lib.hid n2
  have HQ := Lib.hid b1
  clear n1 n2 b1
  have pT00 : W1.cell? ⟨w.heap.size, 0, none⟩ = some (.int .i64 N) := RawAt.cell T0.out 0
  have pT01 : W1.cell? ⟨w.heap.size, 1, none⟩ = some (.slice A m c) := RawAt.cell T0.out 1
  have pT02 : W1.cell? ⟨w.heap.size, 2, none⟩ = some (.slice B k d) := RawAt.cell T0.out 2
  go_wp2_with fail
  with_reducible refine (CL1.out _ HQ.out).mono ?_
  rintro e w2 ⟨rfl, b9⟩
  clear pT00 pT01 pT02
  have HQ := Lib.hid (HQ.out.trans (b9.mono HQ.out.size))
  have T0 := Lib.hid (RawAt.below T0.out b9 (RawAt.lt T0.out))
  have X0 := Lib.hid (RawAt.below X0.out b9 (RawAt.lt X0.out))
  clear b9
  have pT00 : w2.cell? ⟨w.heap.size, 0, none⟩ = some (.int .i64 N) := RawAt.cell T0.out 0
  have pT02 : w2.cell? ⟨w.heap.size, 2, none⟩ = some (.slice B k d) := RawAt.cell T0.out 2
  go_wp2_with fail
  by_cases hr : RtOk 0 o N
  rotate_left
  · skip
    with_reducible refine (CR.out false ⟨fun h => absurd h (by simp), fun h => absurd h hr⟩ _ HQ.out).mono ?_
    rintro e w3 ⟨rfl, b9⟩
    clear pT00 pT02
    have HQ := Lib.hid (HQ.out.trans (b9.mono HQ.out.size))
    have T0 := Lib.hid (RawAt.below T0.out b9 (RawAt.lt T0.out))
    have X0 := Lib.hid (RawAt.below X0.out b9 (RawAt.lt X0.out))
    clear b9
    go_wp2_with fail
    with_reducible refine (C6.out _).mono ?_
    rintro e wz ⟨rfl, bz⟩
    have HZ9 := Lib.hid (HQ.out.trans (bz.mono HQ.out.size))
    clear bz
    go_wp2
    go_ret
    exact ⟨rfl, HZ9.out⟩
  with_reducible refine (CR.out true ⟨fun _ => hr, fun _ => rfl⟩ _ HQ.out).mono ?_
  rintro e w3 ⟨rfl, b9⟩
  clear pT00 pT02
  have HQ := Lib.hid (HQ.out.trans (b9.mono HQ.out.size))
  have T0 := Lib.hid (RawAt.below T0.out b9 (RawAt.lt T0.out))
  have X0 := Lib.hid (RawAt.below X0.out b9 (RawAt.lt X0.out))
  clear b9
  clear CR
  have pX02 : w3.cell? ⟨w.heap.size + 1, 2, none⟩ = some (.slice RA rn rc) := RawAt.cell X0.out 2
  have pX03 : w3.cell? ⟨w.heap.size + 1, 3, none⟩ = some (.slice BA bk bc) := RawAt.cell X0.out 3
  have pX04 : w3.cell? ⟨w.heap.size + 1, 4, none⟩ = some (.slice DB dk dc) := RawAt.cell X0.out 4
  by_cases d1 : rn ≤ 60
  rotate_left
  · skip
    have kd1 : decide ((60 : Int) < rn) = true := decide_eq_true (by omega)
    go_wp2_with fail
    with_reducible refine (C6.out _).mono ?_
    rintro e wz ⟨rfl, bz⟩
    have HZ9 := Lib.hid (HQ.out.trans (bz.mono HQ.out.size))
    clear bz
    go_wp2
    go_ret
    exact ⟨rfl, HZ9.out⟩
  have kd1 : decide ((60 : Int) < rn) = false := decide_eq_false (by omega)
  by_cases d2 : bk ≤ 60
  rotate_left
  · skip
    have kd2 : decide ((60 : Int) < bk) = true := decide_eq_true (by omega)
    go_wp2_with fail
    with_reducible refine (C6.out _).mono ?_
    rintro e wz ⟨rfl, bz⟩
    have HZ9 := Lib.hid (HQ.out.trans (bz.mono HQ.out.size))
    clear bz
    go_wp2
    go_ret
    exact ⟨rfl, HZ9.out⟩
  have kd2 : decide ((60 : Int) < bk) = false := decide_eq_false (by omega)
  by_cases d3 : dk ≤ 100
  rotate_left
  · skip
    have kd3 : decide ((100 : Int) < dk) = true := decide_eq_true (by omega)
    go_wp2_with fail
    with_reducible refine (C6.out _).mono ?_
    rintro e wz ⟨rfl, bz⟩
    have HZ9 := Lib.hid (HQ.out.trans (bz.mono HQ.out.size))
    clear bz
    go_wp2
    go_ret
    exact ⟨rfl, HZ9.out⟩
  have kd3 : decide ((100 : Int) < dk) = false := decide_eq_false (by omega)
  go_upto_region 3 with fail
  clear pX02 pX03 pX04
  clear kd1 kd2 kd3
  obtain ⟨rs, hrs⟩ : ∃ rs, rs = if remOk (oI l) rem then iwrong N (left (oI l) rem ++ add) else 6 := ⟨_, rfl⟩
  obtain ⟨o2, ho2⟩ : ∃ o2, o2 = oI (left (oI l) rem ++ add) := ⟨_, rfl⟩
  have HO2 := Lib.hid ho2
  have hsz : ∀ a ∈ oI l, a.tx.size ≤ 160 := fun a ha => (ord_size HG5.out a ha).1
  have how : ∀ a ∈ oI l, (Lit.int .i64 a.id).wf = true := fun a ha => by
    obtain ⟨y, hy, rfl⟩ := List.mem_map.1 ((ord_perm ilt ilt_swo _).mem_iff.1 ha)
    exact HWF.out y hy
  have HI0 : Hid (rs = 0 → iwrong N (left (oI l) rem ++ add) = 0) := Lib.hid fun h => by
    by_cases q : remOk (oI l) rem
    · rw [if_pos q] at hrs; rw [← hrs]; exact h
    · rw [if_neg q] at hrs; omega
  have HS160 : Hid (rs = 0 → ∀ a ∈ o2, a.tx.size ≤ 160) := Lib.hid fun h => by rw [ho2]; exact fun a ha => (ord_size (HI0.out h) a ha).1
  have HWO : Hid (∀ a ∈ o2, (Lit.int .i64 a.id).wf = true) := Lib.hid fun a ha => by
    rw [ho2] at ha
    obtain ⟨y, hy, rfl⟩ := List.mem_map.1 ((ord_perm ilt ilt_swo _).mem_iff.1 ha)
    rcases List.mem_append.1 hy with h1 | h1
    · exact how y (List.mem_filter.1 h1).1
    · exact HWA.out y h1
  have hol2 : o2.length = (left (oI l) rem ++ add).length := by rw [ho2]; unfold oI; rw [(ord_perm ilt ilt_swo _).length_eq, List.length_map]
  have hol3 : o2.length ≤ 120 := by
    rw [hol2, List.length_append, HLD.out]
    have : (left (oI l) rem).length ≤ (oI l).length := List.length_filter_le _ _
    rw [HOL.out] at this
    omega
  have CSR : Hid (∀ (A2 : Option Addr) (c2 : Nat) (W : World), RowsAt encI 5 W A2 (oI l) → Below w.heap.size w W → Calls Tryz.prog 8 #[.agg #[.int .i64 N, .slice A2 m c2, .int .i64 0], .slice RA rn rc, .slice BA bk bc] W fun e w' => ∃ nn A3 m3 c3, e = .returned (.agg #[.int .i64 nn, .slice A3 m3 c3, .int .i64 rs]) ∧ (rs = 0 → nn = N ∧ o2.length = m3 ∧ RowsAt encI 5 w' A3 o2 ∧ Caps A3 m3 c3) ∧ Below W.heap.size W w') := Lib.hid fun A2 c2 W hR hW => by
    refine (rSplice13_c N 0 A2 m c2 (oI l) RA rn rc rem BA bk bc add W hR HOL.out (by omega) HSET.out.apart (HINT.out.below hW) HLR.out (by omega) (HRA.out.below hW) HLD.out HCA.out (by omega) (fun a ha => Nat.le_trans (hsz a ha) (by omega)) HTA.out rs hrs).mono ?_
    rintro e w' ⟨nn, A3, m3, c3, rfl, hres, hb⟩
    refine ⟨nn, A3, m3, c3, rfl, fun h => ?_, hb⟩
    obtain ⟨q1, q2, q3, q4⟩ := hres h
    rw [HO2.out]
    exact ⟨q1, by rw [← HO2.out, hol2]; exact q2.symm, q3, q4⟩
  clear hrs how ho2
  go_cut [5] from 17 (fun s5 wx => ∃ (bz : Nat) (A3 : Option Addr) (m3 c3 : Nat) (nn : Int), s5 = .pointer (some ⟨bz, 0, none⟩) ∧ Hid (RawAt 35 wx bz #[.int .i64 nn, .slice A3 m3 c3, .int .i64 rs]) ∧ Hid (rs = 0 → nn = N ∧ o2.length = m3 ∧ RowsAt encI 5 wx A3 o2 ∧ Caps A3 m3 c3) ∧ Hid (Below w3.heap.size w3 wx))
  case first =>
    as_aux_lemma =>
      have hW : Below w3.heap.size w3 w3.drew := (Below.refl _ _).drew
      have MK : Hid (∀ V : World, Below w3.heap.size w3 V → (fun V => V.cell? ⟨w.heap.size, 0, none⟩ = some (.int .i64 N) ∧ V.cell? ⟨w.heap.size, 1, none⟩ = some (.slice A m c) ∧ V.cell? ⟨w.heap.size + 1, 2, none⟩ = some (.slice RA rn rc) ∧ V.cell? ⟨w.heap.size + 1, 3, none⟩ = some (.slice BA bk bc)) V) := Lib.hid fun V hV => ⟨RawAt.cell (RawAt.below T0.out hV (RawAt.lt T0.out)) 0, RawAt.cell (RawAt.below T0.out hV (RawAt.lt T0.out)) 1, RawAt.cell (RawAt.below X0.out hV (RawAt.lt X0.out)) 2, RawAt.cell (RawAt.below X0.out hV (RawAt.lt X0.out)) 3⟩
      refine wp_region_noPanic ?_
      refine wp_region_held_drew (S := fun V => V.cell? ⟨w.heap.size, 0, none⟩ = some (.int .i64 N) ∧ V.cell? ⟨w.heap.size, 1, none⟩ = some (.slice A m c) ∧ V.cell? ⟨w.heap.size + 1, 2, none⟩ = some (.slice RA rn rc) ∧ V.cell? ⟨w.heap.size + 1, 3, none⟩ = some (.slice BA bk bc)) (by kernel_rfl) (MK.out _ hW) (fun hHeld => ?_)
      refine wpAnyH_take (i := 0) (v := ?_) rfl (by kernel_rfl) (by kernel_rfl) (by kernel_rfl) (fun _ _ _ h => h) (Or.inl ⟨by rfl, ?_⟩) hHeld ?_
      rotate_left
      · intro w hSw; (try dsimp only at hSw); go_simp; try with_reducible rfl
      go_simp
      refine wpAnyH_take (i := 1) (v := ?_) rfl (by kernel_rfl) (by kernel_rfl) (by kernel_rfl) (fun _ _ _ h => h) (Or.inl ⟨by rfl, ?_⟩) hHeld ?_
      rotate_left
      · intro w hSw; (try dsimp only at hSw); go_simp; try with_reducible rfl
      go_simp
      refine wpAnyH_take (i := 2) (v := ?_) rfl (by kernel_rfl) (by kernel_rfl) (by kernel_rfl) (fun _ _ _ h => h) (Or.inl ⟨by rfl, ?_⟩) hHeld ?_
      rotate_left
      · intro w hSw; (try dsimp only at hSw); go_simp; try with_reducible rfl
      go_simp
      refine wpAnyH_take (i := 3) (v := ?_) rfl (by kernel_rfl) (by kernel_rfl) (by kernel_rfl) (fun _ _ _ h => h) (Or.inl ⟨by rfl, ?_⟩) hHeld ?_
      rotate_left
      · intro w hSw; (try dsimp only at hSw); go_simp; try with_reducible rfl
      go_simp
      refine wpAnyH_take (i := 5) (v := ?_) rfl (by kernel_rfl) (by kernel_rfl) (by kernel_rfl) (fun _ _ _ h => h) (Or.inl ⟨by rfl, ?_⟩) hHeld ?_
      rotate_left
      · intro w hSw; (try dsimp only at hSw); go_simp; try with_reducible rfl
      go_simp
      refine wpAnyH_take (i := 6) (v := ?_) rfl (by kernel_rfl) (by kernel_rfl) (by kernel_rfl) (fun _ _ _ h => h) (Or.inl ⟨by rfl, ?_⟩) hHeld ?_
      rotate_left
      · intro w hSw; (try dsimp only at hSw); go_simp; try with_reducible rfl
      go_simp
      refine wpAnyH_take (i := 7) (v := ?_) rfl (by kernel_rfl) (by kernel_rfl) (by kernel_rfl) (fun _ _ _ h => h) (Or.inl ⟨by rfl, ?_⟩) hHeld ?_
      rotate_left
      · intro w hSw; (try dsimp only at hSw); go_simp; try with_reducible rfl
      go_simp
      refine wpAnyH_take (i := 8) (v := ?_) rfl (by kernel_rfl) (by kernel_rfl) (by kernel_rfl) (fun _ _ _ h => h) (Or.inl ⟨by rfl, ?_⟩) hHeld ?_
      rotate_left
      · intro w hSw; (try dsimp only at hSw); go_simp; try with_reducible rfl
      go_simp
      refine wpAnyH_ready (rs := [4, 10]) (by kernel_rfl) (by simp) ?_
      refine AllReadyH.cons rfl (fun K hK => ?_) (AllReadyH.cons rfl (fun K hK => ?_) AllReadyH.nil)
      · go_simp
        go_wp2_with (first | (go_at_call 7; ((refine (CRN.out _ (HQ.out.trans (hW.mono HQ.out.size))).mono ?_); rintro e wN ⟨A2, c2, rfl, hR2, b9⟩)))
        have hW := hW.trans (b9.mono hW.size)
        clear b9
        refine hK.out _ _ (by with_reducible exact MK.out _ hW) (fun hHeld => ?_)
        clear hK K
        go_simp
        refine wpAnyH_ready (rs := [9, 10]) (by kernel_rfl) (by simp) ?_
        refine AllReadyH.cons rfl (fun K hK => ?_) (AllReadyH.cons rfl (fun K hK => ?_) AllReadyH.nil)
        · go_simp
          go_wp2_with (first | (go_at_call 8; ((refine (CSR.out A2 c2 _ hR2 (HQ.out.trans (hW.mono HQ.out.size))).mono ?_); rintro e wH ⟨nn, A3, m3, c3, rfl, hR3, b9⟩)))
          have hR2 := hR2.below b9
          have hW := hW.trans (b9.mono hW.size)
          clear b9
          refine hK.out _ _ (by with_reducible exact MK.out _ hW) (fun hHeld => ?_)
          clear hK K
          go_simp
          refine wpAnyH_ready (rs := [10]) (by kernel_rfl) (by simp) ?_
          refine AllReadyH.cons rfl (fun K hK => ?_) ?_
          rotate_left
          · exact AllReadyH.nil
          go_simp
          go_wp2_with (fail)
          have RZ : RawAt 35 (wH.alloc (.cells cuZ 35)) wH.heap.size cuZ := heap_alloc_new wH _
          have hR3 : rs = 0 → nn = N ∧ o2.length = m3 ∧ RowsAt encI 5 (wH.alloc (.cells cuZ 35)) A3 o2 ∧ Caps A3 m3 c3 := fun h => ⟨(hR3 h).1, (hR3 h).2.1, (hR3 h).2.2.1.below ((Below.refl wH.heap.size wH).alloc (Nat.le_refl _) (.cells cuZ 35)), (hR3 h).2.2.2⟩
          have hleZ : w3.heap.size ≤ wH.heap.size := by have := hW.size; omega
          have hW : Below w3.heap.size w3 (wH.alloc (.cells cuZ 35)) := hW.trans (((Below.refl wH.heap.size wH).alloc (Nat.le_refl _) (.cells cuZ 35)).mono hW.size)
          refine hK.out _ _ (by with_reducible exact MK.out _ hW) (fun hHeld => ?_)
          clear hK K
          go_simp
          refine wpAnyH_ready (rs := [11]) (by kernel_rfl) (by simp) ?_
          refine AllReadyH.cons rfl (fun K hK => ?_) ?_
          rotate_left
          · exact AllReadyH.nil
          have hW9 := below_setRow (g := wH.heap.size) hW hleZ #[.int .i64 nn, .slice A3 m3 c3, .int .i64 rs]
          have hR4 := fun h => (⟨(hR3 h).1, (hR3 h).2.1, cu_rows (hR3 h).2.2.1 RZ rfl #[.int .i64 nn, .slice A3 m3 c3, .int .i64 rs], (hR3 h).2.2.2⟩ : nn = N ∧ o2.length = m3 ∧ RowsAt encI 5 _ A3 o2 ∧ Caps A3 m3 c3)
          refine step_store_row rfl 35 _ _ rfl wH.heap.size #[.int .i64 nn, .slice A3 m3 c3, .int .i64 rs] rfl rfl RZ (by kernel_rfl) rfl (by simp [Value.oneCell']) ?_
          refine hK.out _ _ (by with_reducible exact MK.out _ hW9) (fun hHeld => ?_)
          clear hK K
          go_simp
          refine wpAnyH_done (by kernel_rfl) ?_ _
          refine NoPanic.normal ?_
          go_wp2_with fail
          have RN := raw_row RZ #[.int .i64 nn, .slice A3 m3 c3, .int .i64 rs]
          go_meet
          exact ⟨wH.heap.size, A3, m3, c3, nn, rfl, Lib.hid RN, Lib.hid hR4, Lib.hid hW9⟩
        · go_simp
          go_wp2_with (fail)
          have RZ : RawAt 35 (wN.alloc (.cells cuZ 35)) wN.heap.size cuZ := heap_alloc_new wN _
          have hR2 : RowsAt encI 5 (wN.alloc (.cells cuZ 35)) A2 (oI l) := hR2.below ((Below.refl wN.heap.size wN).alloc (Nat.le_refl _) (.cells cuZ 35))
          have hleZ : w3.heap.size ≤ wN.heap.size := by have := hW.size; omega
          have hW : Below w3.heap.size w3 (wN.alloc (.cells cuZ 35)) := hW.trans (((Below.refl wN.heap.size wN).alloc (Nat.le_refl _) (.cells cuZ 35)).mono hW.size)
          refine hK.out _ _ (by with_reducible exact MK.out _ hW) (fun hHeld => ?_)
          clear hK K
          go_simp
          refine wpAnyH_ready (rs := [9]) (by kernel_rfl) (by simp) ?_
          refine AllReadyH.cons rfl (fun K hK => ?_) ?_
          rotate_left
          · exact AllReadyH.nil
          go_simp
          go_wp2_with (first | (go_at_call 8; ((refine (CSR.out A2 c2 _ hR2 (HQ.out.trans (hW.mono HQ.out.size))).mono ?_); rintro e wH ⟨nn, A3, m3, c3, rfl, hR3, b9⟩)))
          have RZ := RawAt.below RZ b9 (RawAt.lt RZ)
          have hR2 := hR2.below b9
          have hW := hW.trans (b9.mono hW.size)
          clear b9
          refine hK.out _ _ (by with_reducible exact MK.out _ hW) (fun hHeld => ?_)
          clear hK K
          go_simp
          refine wpAnyH_ready (rs := [11]) (by kernel_rfl) (by simp) ?_
          refine AllReadyH.cons rfl (fun K hK => ?_) ?_
          rotate_left
          · exact AllReadyH.nil
          have hW9 := below_setRow (g := wN.heap.size) hW hleZ #[.int .i64 nn, .slice A3 m3 c3, .int .i64 rs]
          have hR4 := fun h => (⟨(hR3 h).1, (hR3 h).2.1, cu_rows (hR3 h).2.2.1 RZ rfl #[.int .i64 nn, .slice A3 m3 c3, .int .i64 rs], (hR3 h).2.2.2⟩ : nn = N ∧ o2.length = m3 ∧ RowsAt encI 5 _ A3 o2 ∧ Caps A3 m3 c3)
          refine step_store_row rfl 35 _ _ rfl wN.heap.size #[.int .i64 nn, .slice A3 m3 c3, .int .i64 rs] rfl rfl RZ (by kernel_rfl) rfl (by simp [Value.oneCell']) ?_
          refine hK.out _ _ (by with_reducible exact MK.out _ hW9) (fun hHeld => ?_)
          clear hK K
          go_simp
          refine wpAnyH_done (by kernel_rfl) ?_ _
          refine NoPanic.normal ?_
          go_wp2_with fail
          have RN := raw_row RZ #[.int .i64 nn, .slice A3 m3 c3, .int .i64 rs]
          go_meet
          exact ⟨wN.heap.size, A3, m3, c3, nn, rfl, Lib.hid RN, Lib.hid hR4, Lib.hid hW9⟩
      · go_simp
        go_wp2_with (fail)
        have RZ : RawAt 35 (w3.alloc (.cells cuZ 35)).drew w3.heap.size cuZ := heap_alloc_new w3 _
        have hleZ : w3.heap.size ≤ w3.heap.size := Nat.le_refl _
        have hW : Below w3.heap.size w3 (w3.alloc (.cells cuZ 35)).drew := (((Below.refl w3.heap.size w3).alloc (Nat.le_refl _) (.cells cuZ 35))).drew
        refine hK.out _ _ (by with_reducible exact MK.out _ hW) (fun hHeld => ?_)
        clear hK K
        go_simp
        refine wpAnyH_ready (rs := [4]) (by kernel_rfl) (by simp) ?_
        refine AllReadyH.cons rfl (fun K hK => ?_) ?_
        rotate_left
        · exact AllReadyH.nil
        go_simp
        go_wp2_with (first | (go_at_call 7; ((refine (CRN.out _ (HQ.out.trans (hW.mono HQ.out.size))).mono ?_); rintro e wN ⟨A2, c2, rfl, hR2, b9⟩)))
        have RZ := RawAt.below RZ b9 (RawAt.lt RZ)
        have hW := hW.trans (b9.mono hW.size)
        clear b9
        refine hK.out _ _ (by with_reducible exact MK.out _ hW) (fun hHeld => ?_)
        clear hK K
        go_simp
        refine wpAnyH_ready (rs := [9]) (by kernel_rfl) (by simp) ?_
        refine AllReadyH.cons rfl (fun K hK => ?_) ?_
        rotate_left
        · exact AllReadyH.nil
        go_simp
        go_wp2_with (first | (go_at_call 8; ((refine (CSR.out A2 c2 _ hR2 (HQ.out.trans (hW.mono HQ.out.size))).mono ?_); rintro e wH ⟨nn, A3, m3, c3, rfl, hR3, b9⟩)))
        have RZ := RawAt.below RZ b9 (RawAt.lt RZ)
        have hR2 := hR2.below b9
        have hW := hW.trans (b9.mono hW.size)
        clear b9
        refine hK.out _ _ (by with_reducible exact MK.out _ hW) (fun hHeld => ?_)
        clear hK K
        go_simp
        refine wpAnyH_ready (rs := [11]) (by kernel_rfl) (by simp) ?_
        refine AllReadyH.cons rfl (fun K hK => ?_) ?_
        rotate_left
        · exact AllReadyH.nil
        have hW9 := below_setRow (g := w3.heap.size) hW hleZ #[.int .i64 nn, .slice A3 m3 c3, .int .i64 rs]
        have hR4 := fun h => (⟨(hR3 h).1, (hR3 h).2.1, cu_rows (hR3 h).2.2.1 RZ rfl #[.int .i64 nn, .slice A3 m3 c3, .int .i64 rs], (hR3 h).2.2.2⟩ : nn = N ∧ o2.length = m3 ∧ RowsAt encI 5 _ A3 o2 ∧ Caps A3 m3 c3)
        refine step_store_row rfl 35 _ _ rfl w3.heap.size #[.int .i64 nn, .slice A3 m3 c3, .int .i64 rs] rfl rfl RZ (by kernel_rfl) rfl (by simp [Value.oneCell']) ?_
        refine hK.out _ _ (by with_reducible exact MK.out _ hW9) (fun hHeld => ?_)
        clear hK K
        go_simp
        refine wpAnyH_done (by kernel_rfl) ?_ _
        refine NoPanic.normal ?_
        go_wp2_with fail
        have RN := raw_row RZ #[.int .i64 nn, .slice A3 m3 c3, .int .i64 rs]
        go_meet
        exact ⟨w3.heap.size, A3, m3, c3, nn, rfl, Lib.hid RN, Lib.hid hR4, Lib.hid hW9⟩
  obtain ⟨bz, A3, m3, c3, nn, rfl, Z0, H30, HBx⟩ := hcut
  have b9 := HBx.out
  clear HBx
  have HQ := Lib.hid (HQ.out.trans (b9.mono HQ.out.size))
  have T0 := Lib.hid (RawAt.below T0.out b9 (RawAt.lt T0.out))
  have X0 := Lib.hid (RawAt.below X0.out b9 (RawAt.lt X0.out))
  clear b9
  have pT00 : wc.cell? ⟨w.heap.size, 0, none⟩ = some (.int .i64 N) := RawAt.cell T0.out 0
  have pZ01 : wc.cell? ⟨bz, 1, none⟩ = some (.slice A3 m3 c3) := RawAt.cell Z0.out 1
  have pZ02 : wc.cell? ⟨bz, 2, none⟩ = some (.int .i64 rs) := RawAt.cell Z0.out 2
  have pX04 : wc.cell? ⟨w.heap.size + 1, 4, none⟩ = some (.slice DB dk dc) := RawAt.cell X0.out 4
  go_upto_region 5 with fail
  clear pT00 pZ01 pZ02 pX04
  have nU : RawAt 25 (wc.alloc (.cells #[.int .i64 N, .slice A3 m3 c3, .slice DB dk dc] 25)) wc.heap.size #[.int .i64 N, .slice A3 m3 c3, .slice DB dk dc] := heap_alloc_new wc _
  have b9 : Below wc.heap.size wc (wc.alloc (.cells #[.int .i64 N, .slice A3 m3 c3, .slice DB dk dc] 25)) := (Below.refl _ _).alloc (Nat.le_refl _) _
  obtain ⟨bu, hbu⟩ : ∃ g, g = wc.heap.size := ⟨_, rfl⟩
  rw [← hbu] at nU ⊢
  clear hbu
  generalize wc.alloc (.cells #[.int .i64 N, .slice A3 m3 c3, .slice DB dk dc] 25) = w4 at *
  have H3 : Hid (rs = 0 → nn = N ∧ o2.length = m3 ∧ RowsAt encI 5 w4 A3 o2 ∧ Caps A3 m3 c3) := Lib.hid fun h => ⟨(H30.out h).1, (H30.out h).2.1, (H30.out h).2.2.1.below b9, (H30.out h).2.2.2⟩
  have U0 := Lib.hid nU
  clear nU H30
  have HQ := Lib.hid (HQ.out.trans (b9.mono HQ.out.size))
  have T0 := Lib.hid (RawAt.below T0.out b9 (RawAt.lt T0.out))
  have X0 := Lib.hid (RawAt.below X0.out b9 (RawAt.lt X0.out))
  have Z0 := Lib.hid (RawAt.below Z0.out b9 (RawAt.lt Z0.out))
  clear b9
  by_cases hz : rs = 0
  rotate_left
  · skip
    have k1 : (rs == 0) = false := by simpa using hz
    have k2 : (rs != 0) = true := by simpa using hz
    clear H3 HI0 HS160
    have pZ02 : w4.cell? ⟨bz, 2, none⟩ = some (.int .i64 rs) := RawAt.cell Z0.out 2
    go_wp2_with fail
    with_reducible refine (C6.out _).mono ?_
    rintro e wz ⟨rfl, bz⟩
    have HZ9 := Lib.hid (HQ.out.trans (bz.mono HQ.out.size))
    clear bz
    go_wp2
    go_ret
    exact ⟨rfl, HZ9.out⟩
  subst hz
  obtain ⟨y1, y2, y3, y4⟩ := H3.out rfl
  subst y1
  have HI := Lib.hid (HI0.out rfl)
  have HS := Lib.hid (HS160.out rfl)
  have HR3 := Lib.hid y3
  have HC3 := Lib.hid y4
  have HL3 := Lib.hid y2
  clear H3 HI0 HS160 y3 y4 CSR
  have hm3 : m3 ≤ 120 := by omega
  clear y2
  have CLU := Lib.hid fun (b : Bool) (hb : b = true ↔ ¬ Short16 N o2 h2) (W : World) (hW : Below w4.heap.size w4 W) => long16_any N A3 m3 c3 o2 DB dk dc h2 b W (HR3.out.below hW) HC3.out HL3.out (Nat.le_trans hm3 (by unfold maxLen; omega)) (fun x hx => Nat.le_trans (HS.out x hx) (by unfold maxLen; omega)) HLH.out mxh hb
  have pZ02 : w4.cell? ⟨bz, 2, none⟩ = some (.int .i64 0) := RawAt.cell Z0.out 2
  have pU00 : w4.cell? ⟨bu, 0, none⟩ = some (.int .i64 N) := RawAt.cell U0.out 0
  have pU01 : w4.cell? ⟨bu, 1, none⟩ = some (.slice A3 m3 c3) := RawAt.cell U0.out 1
  have pU02 : w4.cell? ⟨bu, 2, none⟩ = some (.slice DB dk dc) := RawAt.cell U0.out 2
  go_wp2_with fail
  by_cases g' : Short16 N o2 h2
  rotate_left
  · skip
    with_reducible refine (CLU.out true ⟨fun _ => g', fun _ => rfl⟩ _ (Below.refl _ _)).mono ?_
    rintro e w5 ⟨rfl, b9⟩
    clear pZ02 pU00 pU01 pU02
    have HQ := Lib.hid (HQ.out.trans (b9.mono HQ.out.size))
    have T0 := Lib.hid (RawAt.below T0.out b9 (RawAt.lt T0.out))
    have X0 := Lib.hid (RawAt.below X0.out b9 (RawAt.lt X0.out))
    have Z0 := Lib.hid (RawAt.below Z0.out b9 (RawAt.lt Z0.out))
    have U0 := Lib.hid (RawAt.below U0.out b9 (RawAt.lt U0.out))
    clear b9
    go_wp2_with fail
    with_reducible refine (C6.out _).mono ?_
    rintro e wz ⟨rfl, bz⟩
    have HZ9 := Lib.hid (HQ.out.trans (bz.mono HQ.out.size))
    clear bz
    go_wp2
    go_ret
    exact ⟨rfl, HZ9.out⟩
  with_reducible refine (CLU.out false ⟨fun h => absurd h (by simp), fun h => absurd g' h⟩ _ (Below.refl _ _)).mono ?_
  rintro e w5 ⟨rfl, b9⟩
  clear pZ02 pU00 pU01 pU02
  have HXU0 : Tx16 w4 N A3 m3 c3 o2 DB dk h2 := ⟨HR3.out, HC3.out, HL3.out, g'.2.2.2.2.1, g'.2.2.2.2.2, by omega, by rw [← HL3.out]; exact g'.2.2.1, (HRH.out.below HQ.out), HLH.out, by rw [← HLH.out]; exact g'.2.2.2.1⟩
  have HXU := Lib.hid (HXU0.below b9)
  have HQ := Lib.hid (HQ.out.trans (b9.mono HQ.out.size))
  have T0 := Lib.hid (RawAt.below T0.out b9 (RawAt.lt T0.out))
  have X0 := Lib.hid (RawAt.below X0.out b9 (RawAt.lt X0.out))
  have Z0 := Lib.hid (RawAt.below Z0.out b9 (RawAt.lt Z0.out))
  have U0 := Lib.hid (RawAt.below U0.out b9 (RawAt.lt U0.out))
  clear b9
  clear CLU HR3 HXU0
  have pX00 : w5.cell? ⟨w.heap.size + 1, 0, none⟩ = some (.int .i64 f) := RawAt.cell X0.out 0
  have pX01 : w5.cell? ⟨w.heap.size + 1, 1, none⟩ = some (.int .i64 tt) := RawAt.cell X0.out 1
  have pT00 : w5.cell? ⟨w.heap.size, 0, none⟩ = some (.int .i64 N) := RawAt.cell T0.out 0
  by_cases e1 : 0 ≤ f
  rotate_left
  · skip
    have ke1 : decide (f < 0) = true := decide_eq_true (by omega)
    go_wp2_with fail
    with_reducible refine (C6.out _).mono ?_
    rintro e wz ⟨rfl, bz⟩
    have HZ9 := Lib.hid (HQ.out.trans (bz.mono HQ.out.size))
    clear bz
    go_wp2
    go_ret
    exact ⟨rfl, HZ9.out⟩
  have ke1 : decide (f < 0) = false := decide_eq_false (by omega)
  by_cases e2 : f ≤ tt
  rotate_left
  · skip
    have ke2 : decide (tt < f) = true := decide_eq_true (by omega)
    go_wp2_with fail
    with_reducible refine (C6.out _).mono ?_
    rintro e wz ⟨rfl, bz⟩
    have HZ9 := Lib.hid (HQ.out.trans (bz.mono HQ.out.size))
    clear bz
    go_wp2
    go_ret
    exact ⟨rfl, HZ9.out⟩
  have ke2 : decide (tt < f) = false := decide_eq_false (by omega)
  by_cases e3 : tt ≤ N
  rotate_left
  · skip
    have ke3 : decide ((N : Int) < tt) = true := decide_eq_true (by omega)
    go_wp2_with fail
    with_reducible refine (C6.out _).mono ?_
    rintro e wz ⟨rfl, bz⟩
    have HZ9 := Lib.hid (HQ.out.trans (bz.mono HQ.out.size))
    clear bz
    go_wp2
    go_ret
    exact ⟨rfl, HZ9.out⟩
  have ke3 : decide ((N : Int) < tt) = false := decide_eq_false (by omega)
  go_upto_region 7 with fail
  clear pX00 pX01 pT00
  clear ke1 ke2 ke3
  as_aux_lemma =>
    have CW := Lib.hid fun (W : World) (hW : Below w.heap.size w W) => woven16_any d (HX.out W hW) HWF.out
    have CN := Lib.hid fun (a : Addr) (h : Nat) (W : World) (hT : WvAt W (some a) (wvP 0 (oI l) N) h) (hW : Below w.heap.size w W) => cNew_any B k d o W hT HSET.out.wv (HX.out W hW).hB (HX.out W hW).hk (by omega) (by rw [← HZI.out]; omega)
    have hW : Below w5.heap.size w5 w5.drew := (Below.refl _ _).drew
    have MK : Hid (∀ V : World, Below w5.heap.size w5 V → (fun V => V.cell? ⟨w.heap.size, 0, none⟩ = some (.int .i64 N) ∧ V.cell? ⟨w.heap.size, 1, none⟩ = some (.slice A m c) ∧ V.cell? ⟨w.heap.size, 2, none⟩ = some (.slice B k d)) V) := Lib.hid fun V hV => ⟨RawAt.cell (RawAt.below T0.out hV (RawAt.lt T0.out)) 0, RawAt.cell (RawAt.below T0.out hV (RawAt.lt T0.out)) 1, RawAt.cell (RawAt.below T0.out hV (RawAt.lt T0.out)) 2⟩
    refine wp_region_noPanic ?_
    refine wp_region_held_drew (S := (fun V => V.cell? ⟨w.heap.size, 0, none⟩ = some (.int .i64 N) ∧ V.cell? ⟨w.heap.size, 1, none⟩ = some (.slice A m c) ∧ V.cell? ⟨w.heap.size, 2, none⟩ = some (.slice B k d))) (by kernel_rfl) (MK.out _ hW) (fun hHeld => ?_)
    refine wpAnyH_take (i := 0) (v := ?_) rfl (by kernel_rfl) (by kernel_rfl) (by kernel_rfl) (fun _ _ _ h => h) (Or.inl ⟨by rfl, ?_⟩) hHeld ?_
    rotate_left
    · intro w hSw; (try dsimp only at hSw); go_simp; try with_reducible rfl
    go_simp
    refine wpAnyH_take (i := 2) (v := ?_) rfl (by kernel_rfl) (by kernel_rfl) (by kernel_rfl) (fun _ _ _ h => h) (Or.inl ⟨by rfl, ?_⟩) hHeld ?_
    rotate_left
    · intro w hSw; (try dsimp only at hSw); go_simp; try with_reducible rfl
    go_simp
    refine wpAnyH_take (i := 3) (v := ?_) rfl (by kernel_rfl) (by kernel_rfl) (by kernel_rfl) (fun _ _ _ h => h) (Or.inl ⟨by rfl, ?_⟩) hHeld ?_
    rotate_left
    · intro w hSw; (try dsimp only at hSw); go_simp; try with_reducible rfl
    go_simp
    refine wpAnyH_ready (rs := [1]) (by kernel_rfl) (by simp) ?_
    refine AllReadyH.cons rfl (fun K hK => ?_) ?_
    rotate_left
    · exact AllReadyH.nil
    go_simp
    go_wp2_with (first | (go_at_call 10; ((with_reducible refine (CW.out _ (HQ.out.trans (hW.mono HQ.out.size))).mono ?_); rintro e w6 ⟨a4, h4, rfl, hT4, b9⟩; have hW := hW.trans (b9.mono hW.size))) | (go_at_call 9; ((with_reducible refine (CN.out a4 h4 _ hT4 (HQ.out.trans (hW.mono HQ.out.size))).mono ?_); rintro e w7 ⟨(⟨_, ac, hc, rfl, hC7⟩ | ⟨hno, _⟩), b9⟩; rotate_left; exact absurd hr hno; have hW := hW.trans (b9.mono hW.size))))
    refine hK.out _ _ (by with_reducible exact MK.out _ hW) (fun hHeld => ?_)
    clear hK K
    go_simp
    refine wpAnyH_ready (rs := [4]) (by kernel_rfl) (by simp) ?_
    refine AllReadyH.cons rfl (fun K hK => ?_) ?_
    rotate_left
    · exact AllReadyH.nil
    go_simp
    go_wp2_with (first | (go_at_call 10; ((with_reducible refine (CW.out _ (HQ.out.trans (hW.mono HQ.out.size))).mono ?_); rintro e w6 ⟨a4, h4, rfl, hT4, b9⟩; have hW := hW.trans (b9.mono hW.size))) | (go_at_call 9; ((with_reducible refine (CN.out a4 h4 _ hT4 (HQ.out.trans (hW.mono HQ.out.size))).mono ?_); rintro e w7 ⟨(⟨_, ac, hc, rfl, hC7⟩ | ⟨hno, _⟩), b9⟩; rotate_left; exact absurd hr hno; have hW := hW.trans (b9.mono hW.size))))
    refine hK.out _ _ (by with_reducible exact MK.out _ hW) (fun hHeld => ?_)
    clear hK K
    go_simp
    refine wpAnyH_take (i := 5) (v := ?_) rfl (by kernel_rfl) (by kernel_rfl) (by kernel_rfl) (fun _ _ _ h => h) (Or.inl ⟨by rfl, ?_⟩) hHeld ?_
    rotate_left
    · intro w hSw; (try dsimp only at hSw); go_simp; try with_reducible rfl
    go_simp
    refine wpAnyH_take (i := 6) (v := ?_) rfl (by kernel_rfl) (by kernel_rfl) (by kernel_rfl) (fun _ _ _ h => h) (Or.inl ⟨by rfl, ?_⟩) hHeld ?_
    rotate_left
    · intro w hSw; (try dsimp only at hSw); go_simp; try with_reducible rfl
    go_simp
    refine wpAnyH_take (i := 7) (v := ?_) rfl (by kernel_rfl) (by kernel_rfl) (by kernel_rfl) (fun _ _ _ h => h) (Or.inl ⟨by rfl, ?_⟩) hHeld ?_
    rotate_left
    · intro w hSw; (try dsimp only at hSw); go_simp; try with_reducible rfl
    go_simp
    refine wpAnyH_take (i := 8) (v := ?_) rfl (by kernel_rfl) (by kernel_rfl) (by kernel_rfl) (fun _ _ _ h => h) (Or.inl ⟨by rfl, ?_⟩) hHeld ?_
    rotate_left
    · intro w hSw; (try dsimp only at hSw); go_simp; try with_reducible rfl
    go_simp
    refine wpAnyH_take (i := 9) (v := ?_) rfl (by kernel_rfl) (by kernel_rfl) (by kernel_rfl) (fun _ _ _ h => h) (Or.inl ⟨by rfl, ?_⟩) hHeld ?_
    rotate_left
    · intro w hSw; (try dsimp only at hSw); go_simp; try with_reducible rfl
    go_simp
    refine wpAnyH_done (by kernel_rfl) ?_ _
    refine NoPanic.normal ?_
    have HC7 := Lib.hid hC7
    have b9 := hW
    clear hC7 hT4 MK CW CN hW
    have HQ := Lib.hid (HQ.out.trans (b9.mono HQ.out.size))
    have T0 := Lib.hid (RawAt.below T0.out b9 (RawAt.lt T0.out))
    have X0 := Lib.hid (RawAt.below X0.out b9 (RawAt.lt X0.out))
    have Z0 := Lib.hid (RawAt.below Z0.out b9 (RawAt.lt Z0.out))
    have U0 := Lib.hid (RawAt.below U0.out b9 (RawAt.lt U0.out))
    have HXU := Lib.hid (HXU.out.below b9)
    clear b9
    have hm3' := HXU.out.hm
    have CWU := Lib.hid (woven16_any dc HXU.out HWO.out)
    have HOO : Hid (oI o2 = o2) := Lib.hid (by rw [HO2.out]; exact oI_again _)
    have pU00 : w7.cell? ⟨bu, 0, none⟩ = some (.int .i64 N) := RawAt.cell U0.out 0
    have pU01 : w7.cell? ⟨bu, 1, none⟩ = some (.slice A3 m3 c3) := RawAt.cell U0.out 1
    have pU02 : w7.cell? ⟨bu, 2, none⟩ = some (.slice DB dk dc) := RawAt.cell U0.out 2
    go_wp2_with fail
    with_reducible refine (CWU.out).mono ?_
    rintro e w8 ⟨av, hv, rfl, hV, b9⟩
    clear pU00 pU01 pU02
    have HQ := Lib.hid (HQ.out.trans (b9.mono HQ.out.size))
    have T0 := Lib.hid (RawAt.below T0.out b9 (RawAt.lt T0.out))
    have X0 := Lib.hid (RawAt.below X0.out b9 (RawAt.lt X0.out))
    have Z0 := Lib.hid (RawAt.below Z0.out b9 (RawAt.lt Z0.out))
    have U0 := Lib.hid (RawAt.below U0.out b9 (RawAt.lt U0.out))
    have HXU := Lib.hid (HXU.out.below b9)
    have HC7 := Lib.hid (HC7.out.below b9)
    clear b9
    have HV := Lib.hid hV
    clear hV CWU
    have pT00 : w8.cell? ⟨w.heap.size, 0, none⟩ = some (.int .i64 N) := RawAt.cell T0.out 0
    have pT01 : w8.cell? ⟨w.heap.size, 1, none⟩ = some (.slice A m c) := RawAt.cell T0.out 1
    go_wp2_with fail
    with_reducible refine (CRN.out _ HQ.out).mono ?_
    rintro e w9 ⟨A9, c9, rfl, hR9, b9⟩
    clear pT00 pT01
    have HQ := Lib.hid (HQ.out.trans (b9.mono HQ.out.size))
    have T0 := Lib.hid (RawAt.below T0.out b9 (RawAt.lt T0.out))
    have X0 := Lib.hid (RawAt.below X0.out b9 (RawAt.lt X0.out))
    have Z0 := Lib.hid (RawAt.below Z0.out b9 (RawAt.lt Z0.out))
    have U0 := Lib.hid (RawAt.below U0.out b9 (RawAt.lt U0.out))
    have HXU := Lib.hid (HXU.out.below b9)
    have HC7 := Lib.hid (HC7.out.below b9)
    have HV := Lib.hid (HV.out.below b9)
    clear b9
    have HR9 := Lib.hid hR9
    clear hR9
    go_upto_region 12 with fail
    have nU : RawAt 35 (w9.alloc (.cells #[.int .i64 N, .slice A9 m c9, .int .i64 0] 35)) w9.heap.size #[.int .i64 N, .slice A9 m c9, .int .i64 0] := heap_alloc_new w9 _
    have b9 : Below w9.heap.size w9 (w9.alloc (.cells #[.int .i64 N, .slice A9 m c9, .int .i64 0] 35)) := (Below.refl _ _).alloc (Nat.le_refl _) _
    obtain ⟨bq, hbq⟩ : ∃ g, g = w9.heap.size := ⟨_, rfl⟩
    rw [← hbq] at nU ⊢
    clear hbq
    generalize w9.alloc (.cells #[.int .i64 N, .slice A9 m c9, .int .i64 0] 35) = wa at *
    have Q0 := Lib.hid nU
    clear nU
    have HQ := Lib.hid (HQ.out.trans (b9.mono HQ.out.size))
    have T0 := Lib.hid (RawAt.below T0.out b9 (RawAt.lt T0.out))
    have X0 := Lib.hid (RawAt.below X0.out b9 (RawAt.lt X0.out))
    have Z0 := Lib.hid (RawAt.below Z0.out b9 (RawAt.lt Z0.out))
    have U0 := Lib.hid (RawAt.below U0.out b9 (RawAt.lt U0.out))
    have HXU := Lib.hid (HXU.out.below b9)
    have HC7 := Lib.hid (HC7.out.below b9)
    have HV := Lib.hid (HV.out.below b9)
    have HR9 := Lib.hid (HR9.out.below b9)
    clear b9
    as_aux_lemma =>
      obtain ⟨F1, hF⟩ : ∃ z, z = f + wosum f 0 (oI l) := ⟨_, rfl⟩
      obtain ⟨T1, hT⟩ : ∃ z, z = tt + wosum tt 1 (oI l) := ⟨_, rfl⟩
      have HF1 := Lib.hid hF
      have HT1 := Lib.hid hT
      clear hF hT
      have COa : Hid (∀ W, Below wa.heap.size wa W → Calls Tryz.prog 11 #[.agg #[.int .i64 N, .slice A9 m c9, .int .i64 0], .int .i64 f, .int .i64 0] W fun e w' => e = .returned (.int .i64 F1) ∧ Below W.heap.size W w') := Lib.hid fun W hW => by
        rw [HF1.out]
        exact rOut_any N 0 A9 m c9 (oI l) f 0 W (HR9.out.below hW) HOL.out (by omega) (by omega) (by omega) (fun a ha => Nat.le_trans (hsz a ha) (by omega))
      have COb : Hid (∀ W, Below wa.heap.size wa W → Calls Tryz.prog 11 #[.agg #[.int .i64 N, .slice A9 m c9, .int .i64 0], .int .i64 tt, .int .i64 1] W fun e w' => e = .returned (.int .i64 T1) ∧ Below W.heap.size W w') := Lib.hid fun W hW => by
        rw [HT1.out]
        exact rOut_any N 0 A9 m c9 (oI l) tt 1 W (HR9.out.below hW) HOL.out (by omega) (by omega) (by omega) (fun a ha => Nat.le_trans (hsz a ha) (by omega))
      go_cut [11] from 17 (fun sv wx => ∃ bn : Nat, sv = .pointer (some ⟨bn, 0, none⟩) ∧ Hid (RawAt 27 wx bn #[.int .i64 F1, .int .i64 T1]) ∧ Hid (Below wa.heap.size wa wx))
      case first =>
        as_aux_lemma =>
          have hW : Below wa.heap.size wa wa.drew := (Below.refl _ _).drew
          have MK : Hid (∀ V : World, Below wa.heap.size wa V → (fun V => V.cell? ⟨bq, 0, none⟩ = some (.int .i64 N) ∧ V.cell? ⟨bq, 1, none⟩ = some (.slice A9 m c9) ∧ V.cell? ⟨bq, 2, none⟩ = some (.int .i64 0) ∧ V.cell? ⟨w.heap.size + 1, 0, none⟩ = some (.int .i64 f) ∧ V.cell? ⟨w.heap.size + 1, 1, none⟩ = some (.int .i64 tt)) V) := Lib.hid fun V hV => ⟨RawAt.cell (RawAt.below Q0.out hV (RawAt.lt Q0.out)) 0, RawAt.cell (RawAt.below Q0.out hV (RawAt.lt Q0.out)) 1, RawAt.cell (RawAt.below Q0.out hV (RawAt.lt Q0.out)) 2, RawAt.cell (RawAt.below X0.out hV (RawAt.lt X0.out)) 0, RawAt.cell (RawAt.below X0.out hV (RawAt.lt X0.out)) 1⟩
          refine wp_region_noPanic ?_
          refine wp_region_held_drew (S := fun V => V.cell? ⟨bq, 0, none⟩ = some (.int .i64 N) ∧ V.cell? ⟨bq, 1, none⟩ = some (.slice A9 m c9) ∧ V.cell? ⟨bq, 2, none⟩ = some (.int .i64 0) ∧ V.cell? ⟨w.heap.size + 1, 0, none⟩ = some (.int .i64 f) ∧ V.cell? ⟨w.heap.size + 1, 1, none⟩ = some (.int .i64 tt)) (by kernel_rfl) (MK.out _ hW) (fun hHeld => ?_)
          refine wpAnyH_take (i := 0) (v := ?_) rfl (by kernel_rfl) (by kernel_rfl) (by kernel_rfl) (fun _ _ _ h => h) (Or.inl ⟨by rfl, ?_⟩) hHeld ?_
          rotate_left
          · intro w hSw; (try dsimp only at hSw); go_simp; try with_reducible rfl
          go_simp
          refine wpAnyH_take (i := 1) (v := ?_) rfl (by kernel_rfl) (by kernel_rfl) (by kernel_rfl) (fun _ _ _ h => h) (Or.inl ⟨by rfl, ?_⟩) hHeld ?_
          rotate_left
          · intro w hSw; (try dsimp only at hSw); go_simp; try with_reducible rfl
          go_simp
          refine wpAnyH_take (i := 2) (v := ?_) rfl (by kernel_rfl) (by kernel_rfl) (by kernel_rfl) (fun _ _ _ h => h) (Or.inl ⟨by rfl, ?_⟩) hHeld ?_
          rotate_left
          · intro w hSw; (try dsimp only at hSw); go_simp; try with_reducible rfl
          go_simp
          refine wpAnyH_take (i := 3) (v := ?_) rfl (by kernel_rfl) (by kernel_rfl) (by kernel_rfl) (fun _ _ _ h => h) (Or.inl ⟨by rfl, ?_⟩) hHeld ?_
          rotate_left
          · intro w hSw; (try dsimp only at hSw); go_simp; try with_reducible rfl
          go_simp
          refine wpAnyH_take (i := 5) (v := ?_) rfl (by kernel_rfl) (by kernel_rfl) (by kernel_rfl) (fun _ _ _ h => h) (Or.inl ⟨by rfl, ?_⟩) hHeld ?_
          rotate_left
          · intro w hSw; (try dsimp only at hSw); go_simp; try with_reducible rfl
          go_simp
          refine wpAnyH_take (i := 6) (v := ?_) rfl (by kernel_rfl) (by kernel_rfl) (by kernel_rfl) (fun _ _ _ h => h) (Or.inl ⟨by rfl, ?_⟩) hHeld ?_
          rotate_left
          · intro w hSw; (try dsimp only at hSw); go_simp; try with_reducible rfl
          go_simp
          refine wpAnyH_take (i := 7) (v := ?_) rfl (by kernel_rfl) (by kernel_rfl) (by kernel_rfl) (fun _ _ _ h => h) (Or.inl ⟨by rfl, ?_⟩) hHeld ?_
          rotate_left
          · intro w hSw; (try dsimp only at hSw); go_simp; try with_reducible rfl
          go_simp
          refine wpAnyH_take (i := 8) (v := ?_) rfl (by kernel_rfl) (by kernel_rfl) (by kernel_rfl) (fun _ _ _ h => h) (Or.inl ⟨by rfl, ?_⟩) hHeld ?_
          rotate_left
          · intro w hSw; (try dsimp only at hSw); go_simp; try with_reducible rfl
          go_simp
          refine wpAnyH_ready (rs := [4, 11]) (by kernel_rfl) (by simp) ?_
          refine AllReadyH.cons rfl (fun K hK => ?_) (AllReadyH.cons rfl (fun K hK => ?_) AllReadyH.nil)
          · go_simp
            go_wp2_with (first | (go_at_call 11; ((with_reducible refine (COa.out _ hW).mono ?_); rintro e wN ⟨rfl, b9⟩)))
            have hW := hW.trans (b9.mono hW.size)
            clear b9
            refine hK.out _ _ (by with_reducible exact MK.out _ hW) (fun hHeld => ?_)
            clear hK K
            go_simp
            refine wpAnyH_ready (rs := [9, 11]) (by kernel_rfl) (by simp) ?_
            refine AllReadyH.cons rfl (fun K hK => ?_) (AllReadyH.cons rfl (fun K hK => ?_) AllReadyH.nil)
            · go_simp
              go_wp2_with (first | (go_at_call 11; ((with_reducible refine (COb.out _ hW).mono ?_); rintro e wH ⟨rfl, b9⟩)))
              have hW := hW.trans (b9.mono hW.size)
              clear b9
              refine hK.out _ _ (by with_reducible exact MK.out _ hW) (fun hHeld => ?_)
              clear hK K
              go_simp
              refine wpAnyH_take (i := 10) (v := ?_) rfl (by kernel_rfl) (by kernel_rfl) (by kernel_rfl) (fun _ _ _ h => h) (Or.inl ⟨by rfl, ?_⟩) hHeld ?_
              rotate_left
              · intro w hSw; (try dsimp only at hSw); go_simp; try with_reducible rfl
              go_simp
              refine wpAnyH_ready (rs := [11]) (by kernel_rfl) (by simp) ?_
              refine AllReadyH.cons rfl (fun K hK => ?_) ?_
              rotate_left
              · exact AllReadyH.nil
              go_simp
              go_wp2_with (fail)
              have RZ : RawAt 27 (wH.alloc (.cells cuS 27)) wH.heap.size cuS := heap_alloc_new wH _
              have hleZ : wa.heap.size ≤ wH.heap.size := by have := hW.size; omega
              have hW : Below wa.heap.size wa (wH.alloc (.cells cuS 27)) := hW.trans (((Below.refl wH.heap.size wH).alloc (Nat.le_refl _) (.cells cuS 27)).mono hW.size)
              refine hK.out _ _ (by with_reducible exact MK.out _ hW) (fun hHeld => ?_)
              clear hK K
              go_simp
              refine wpAnyH_ready (rs := [12]) (by kernel_rfl) (by simp) ?_
              refine AllReadyH.cons rfl (fun K hK => ?_) ?_
              rotate_left
              · exact AllReadyH.nil
              have hW9 := below_setRow (g := wH.heap.size) hW hleZ #[.int .i64 F1, .int .i64 T1]
              refine step_store_row rfl 27 _ _ rfl wH.heap.size #[.int .i64 F1, .int .i64 T1] rfl rfl RZ (by kernel_rfl) rfl (by simp [Value.oneCell']) ?_
              refine hK.out _ _ (by with_reducible exact MK.out _ hW9) (fun hHeld => ?_)
              clear hK K
              go_simp
              refine wpAnyH_done (by kernel_rfl) ?_ _
              refine NoPanic.normal ?_
              go_wp2_with fail
              have RN := raw_row RZ #[.int .i64 F1, .int .i64 T1]
              go_meet
              exact ⟨wH.heap.size, rfl, Lib.hid RN, Lib.hid hW9⟩
            · go_simp
              go_wp2_with (fail)
              have RZ : RawAt 27 (wN.alloc (.cells cuS 27)) wN.heap.size cuS := heap_alloc_new wN _
              have hleZ : wa.heap.size ≤ wN.heap.size := by have := hW.size; omega
              have hW : Below wa.heap.size wa (wN.alloc (.cells cuS 27)) := hW.trans (((Below.refl wN.heap.size wN).alloc (Nat.le_refl _) (.cells cuS 27)).mono hW.size)
              refine hK.out _ _ (by with_reducible exact MK.out _ hW) (fun hHeld => ?_)
              clear hK K
              go_simp
              refine wpAnyH_ready (rs := [9]) (by kernel_rfl) (by simp) ?_
              refine AllReadyH.cons rfl (fun K hK => ?_) ?_
              rotate_left
              · exact AllReadyH.nil
              go_simp
              go_wp2_with (first | (go_at_call 11; ((with_reducible refine (COb.out _ hW).mono ?_); rintro e wH ⟨rfl, b9⟩)))
              have RZ := RawAt.below RZ b9 (RawAt.lt RZ)
              have hW := hW.trans (b9.mono hW.size)
              clear b9
              refine hK.out _ _ (by with_reducible exact MK.out _ hW) (fun hHeld => ?_)
              clear hK K
              go_simp
              refine wpAnyH_take (i := 10) (v := ?_) rfl (by kernel_rfl) (by kernel_rfl) (by kernel_rfl) (fun _ _ _ h => h) (Or.inl ⟨by rfl, ?_⟩) hHeld ?_
              rotate_left
              · intro w hSw; (try dsimp only at hSw); go_simp; try with_reducible rfl
              go_simp
              refine wpAnyH_ready (rs := [12]) (by kernel_rfl) (by simp) ?_
              refine AllReadyH.cons rfl (fun K hK => ?_) ?_
              rotate_left
              · exact AllReadyH.nil
              have hW9 := below_setRow (g := wN.heap.size) hW hleZ #[.int .i64 F1, .int .i64 T1]
              refine step_store_row rfl 27 _ _ rfl wN.heap.size #[.int .i64 F1, .int .i64 T1] rfl rfl RZ (by kernel_rfl) rfl (by simp [Value.oneCell']) ?_
              refine hK.out _ _ (by with_reducible exact MK.out _ hW9) (fun hHeld => ?_)
              clear hK K
              go_simp
              refine wpAnyH_done (by kernel_rfl) ?_ _
              refine NoPanic.normal ?_
              go_wp2_with fail
              have RN := raw_row RZ #[.int .i64 F1, .int .i64 T1]
              go_meet
              exact ⟨wN.heap.size, rfl, Lib.hid RN, Lib.hid hW9⟩
          · go_simp
            go_wp2_with (fail)
            have RZ : RawAt 27 (wa.alloc (.cells cuS 27)).drew wa.heap.size cuS := heap_alloc_new wa _
            have hleZ : wa.heap.size ≤ wa.heap.size := Nat.le_refl _
            have hW : Below wa.heap.size wa (wa.alloc (.cells cuS 27)).drew := (((Below.refl wa.heap.size wa).alloc (Nat.le_refl _) (.cells cuS 27))).drew
            refine hK.out _ _ (by with_reducible exact MK.out _ hW) (fun hHeld => ?_)
            clear hK K
            go_simp
            refine wpAnyH_ready (rs := [4]) (by kernel_rfl) (by simp) ?_
            refine AllReadyH.cons rfl (fun K hK => ?_) ?_
            rotate_left
            · exact AllReadyH.nil
            go_simp
            go_wp2_with (first | (go_at_call 11; ((with_reducible refine (COa.out _ hW).mono ?_); rintro e wN ⟨rfl, b9⟩)))
            have RZ := RawAt.below RZ b9 (RawAt.lt RZ)
            have hW := hW.trans (b9.mono hW.size)
            clear b9
            refine hK.out _ _ (by with_reducible exact MK.out _ hW) (fun hHeld => ?_)
            clear hK K
            go_simp
            refine wpAnyH_ready (rs := [9]) (by kernel_rfl) (by simp) ?_
            refine AllReadyH.cons rfl (fun K hK => ?_) ?_
            rotate_left
            · exact AllReadyH.nil
            go_simp
            go_wp2_with (first | (go_at_call 11; ((with_reducible refine (COb.out _ hW).mono ?_); rintro e wH ⟨rfl, b9⟩)))
            have RZ := RawAt.below RZ b9 (RawAt.lt RZ)
            have hW := hW.trans (b9.mono hW.size)
            clear b9
            refine hK.out _ _ (by with_reducible exact MK.out _ hW) (fun hHeld => ?_)
            clear hK K
            go_simp
            refine wpAnyH_take (i := 10) (v := ?_) rfl (by kernel_rfl) (by kernel_rfl) (by kernel_rfl) (fun _ _ _ h => h) (Or.inl ⟨by rfl, ?_⟩) hHeld ?_
            rotate_left
            · intro w hSw; (try dsimp only at hSw); go_simp; try with_reducible rfl
            go_simp
            refine wpAnyH_ready (rs := [12]) (by kernel_rfl) (by simp) ?_
            refine AllReadyH.cons rfl (fun K hK => ?_) ?_
            rotate_left
            · exact AllReadyH.nil
            have hW9 := below_setRow (g := wa.heap.size) hW hleZ #[.int .i64 F1, .int .i64 T1]
            refine step_store_row rfl 27 _ _ rfl wa.heap.size #[.int .i64 F1, .int .i64 T1] rfl rfl RZ (by kernel_rfl) rfl (by simp [Value.oneCell']) ?_
            refine hK.out _ _ (by with_reducible exact MK.out _ hW9) (fun hHeld => ?_)
            clear hK K
            go_simp
            refine wpAnyH_done (by kernel_rfl) ?_ _
            refine NoPanic.normal ?_
            go_wp2_with fail
            have RN := raw_row RZ #[.int .i64 F1, .int .i64 T1]
            go_meet
            exact ⟨wa.heap.size, rfl, Lib.hid RN, Lib.hid hW9⟩
      obtain ⟨bo, rfl, O0, HBx⟩ := hcut
      have b9 := HBx.out
      clear HBx COa COb
      obtain ⟨wb, hwc⟩ : ∃ W, W = wc := ⟨_, rfl⟩
      rw [← hwc] at O0 b9 ⊢
      clear hwc
      have HQ := Lib.hid (HQ.out.trans (b9.mono HQ.out.size))
      have T0 := Lib.hid (RawAt.below T0.out b9 (RawAt.lt T0.out))
      have X0 := Lib.hid (RawAt.below X0.out b9 (RawAt.lt X0.out))
      have Z0 := Lib.hid (RawAt.below Z0.out b9 (RawAt.lt Z0.out))
      have U0 := Lib.hid (RawAt.below U0.out b9 (RawAt.lt U0.out))
      have HXU := Lib.hid (HXU.out.below b9)
      have HC7 := Lib.hid (HC7.out.below b9)
      have HV := Lib.hid (HV.out.below b9)
      have HR9 := Lib.hid (HR9.out.below b9)
      have Q0 := Lib.hid (RawAt.below Q0.out b9 (RawAt.lt Q0.out))
      clear b9
      go_upto_region 13 with fail
      obtain ⟨F2, hF⟩ : ∃ z, z = f + wosum f 0 o2 := ⟨_, rfl⟩
      obtain ⟨T2, hT⟩ : ∃ z, z = tt + wosum tt 1 o2 := ⟨_, rfl⟩
      have HF2 := Lib.hid hF
      have HT2 := Lib.hid hT
      clear hF hT
      have COa : Hid (∀ W, Below wb.heap.size wb W → Calls Tryz.prog 11 #[.agg #[.int .i64 N, .slice A3 m3 c3, .int .i64 0], .int .i64 f, .int .i64 0] W fun e w' => e = .returned (.int .i64 F2) ∧ Below W.heap.size W w') := Lib.hid fun W hW => by
        rw [HF2.out]
        exact rOut_any N 0 A3 m3 c3 o2 f 0 W (HXU.out.hA.below hW) HL3.out (by omega) (by omega) (by omega) (fun a ha => Nat.le_trans (HS.out a ha) (by omega))
      have COb : Hid (∀ W, Below wb.heap.size wb W → Calls Tryz.prog 11 #[.agg #[.int .i64 N, .slice A3 m3 c3, .int .i64 0], .int .i64 tt, .int .i64 1] W fun e w' => e = .returned (.int .i64 T2) ∧ Below W.heap.size W w') := Lib.hid fun W hW => by
        rw [HT2.out]
        exact rOut_any N 0 A3 m3 c3 o2 tt 1 W (HXU.out.hA.below hW) HL3.out (by omega) (by omega) (by omega) (fun a ha => Nat.le_trans (HS.out a ha) (by omega))
      go_cut [12] from 17 (fun sv wx => ∃ bn : Nat, sv = .pointer (some ⟨bn, 0, none⟩) ∧ Hid (RawAt 27 wx bn #[.int .i64 F2, .int .i64 T2]) ∧ Hid (Below wb.heap.size wb wx))
      case first =>
        as_aux_lemma =>
          have hW : Below wb.heap.size wb wb.drew := (Below.refl _ _).drew
          have MK : Hid (∀ V : World, Below wb.heap.size wb V → (fun V => V.cell? ⟨bz, 0, none⟩ = some (.int .i64 N) ∧ V.cell? ⟨bz, 1, none⟩ = some (.slice A3 m3 c3) ∧ V.cell? ⟨bz, 2, none⟩ = some (.int .i64 0) ∧ V.cell? ⟨w.heap.size + 1, 0, none⟩ = some (.int .i64 f) ∧ V.cell? ⟨w.heap.size + 1, 1, none⟩ = some (.int .i64 tt)) V) := Lib.hid fun V hV => ⟨RawAt.cell (RawAt.below Z0.out hV (RawAt.lt Z0.out)) 0, RawAt.cell (RawAt.below Z0.out hV (RawAt.lt Z0.out)) 1, RawAt.cell (RawAt.below Z0.out hV (RawAt.lt Z0.out)) 2, RawAt.cell (RawAt.below X0.out hV (RawAt.lt X0.out)) 0, RawAt.cell (RawAt.below X0.out hV (RawAt.lt X0.out)) 1⟩
          refine wp_region_noPanic ?_
          refine wp_region_held_drew (S := fun V => V.cell? ⟨bz, 0, none⟩ = some (.int .i64 N) ∧ V.cell? ⟨bz, 1, none⟩ = some (.slice A3 m3 c3) ∧ V.cell? ⟨bz, 2, none⟩ = some (.int .i64 0) ∧ V.cell? ⟨w.heap.size + 1, 0, none⟩ = some (.int .i64 f) ∧ V.cell? ⟨w.heap.size + 1, 1, none⟩ = some (.int .i64 tt)) (by kernel_rfl) (MK.out _ hW) (fun hHeld => ?_)
          refine wpAnyH_take (i := 0) (v := ?_) rfl (by kernel_rfl) (by kernel_rfl) (by kernel_rfl) (fun _ _ _ h => h) (Or.inl ⟨by rfl, ?_⟩) hHeld ?_
          rotate_left
          · intro w hSw; (try dsimp only at hSw); go_simp; try with_reducible rfl
          go_simp
          refine wpAnyH_take (i := 1) (v := ?_) rfl (by kernel_rfl) (by kernel_rfl) (by kernel_rfl) (fun _ _ _ h => h) (Or.inl ⟨by rfl, ?_⟩) hHeld ?_
          rotate_left
          · intro w hSw; (try dsimp only at hSw); go_simp; try with_reducible rfl
          go_simp
          refine wpAnyH_take (i := 2) (v := ?_) rfl (by kernel_rfl) (by kernel_rfl) (by kernel_rfl) (fun _ _ _ h => h) (Or.inl ⟨by rfl, ?_⟩) hHeld ?_
          rotate_left
          · intro w hSw; (try dsimp only at hSw); go_simp; try with_reducible rfl
          go_simp
          refine wpAnyH_take (i := 3) (v := ?_) rfl (by kernel_rfl) (by kernel_rfl) (by kernel_rfl) (fun _ _ _ h => h) (Or.inl ⟨by rfl, ?_⟩) hHeld ?_
          rotate_left
          · intro w hSw; (try dsimp only at hSw); go_simp; try with_reducible rfl
          go_simp
          refine wpAnyH_take (i := 5) (v := ?_) rfl (by kernel_rfl) (by kernel_rfl) (by kernel_rfl) (fun _ _ _ h => h) (Or.inl ⟨by rfl, ?_⟩) hHeld ?_
          rotate_left
          · intro w hSw; (try dsimp only at hSw); go_simp; try with_reducible rfl
          go_simp
          refine wpAnyH_take (i := 6) (v := ?_) rfl (by kernel_rfl) (by kernel_rfl) (by kernel_rfl) (fun _ _ _ h => h) (Or.inl ⟨by rfl, ?_⟩) hHeld ?_
          rotate_left
          · intro w hSw; (try dsimp only at hSw); go_simp; try with_reducible rfl
          go_simp
          refine wpAnyH_take (i := 7) (v := ?_) rfl (by kernel_rfl) (by kernel_rfl) (by kernel_rfl) (fun _ _ _ h => h) (Or.inl ⟨by rfl, ?_⟩) hHeld ?_
          rotate_left
          · intro w hSw; (try dsimp only at hSw); go_simp; try with_reducible rfl
          go_simp
          refine wpAnyH_take (i := 8) (v := ?_) rfl (by kernel_rfl) (by kernel_rfl) (by kernel_rfl) (fun _ _ _ h => h) (Or.inl ⟨by rfl, ?_⟩) hHeld ?_
          rotate_left
          · intro w hSw; (try dsimp only at hSw); go_simp; try with_reducible rfl
          go_simp
          refine wpAnyH_ready (rs := [4, 11]) (by kernel_rfl) (by simp) ?_
          refine AllReadyH.cons rfl (fun K hK => ?_) (AllReadyH.cons rfl (fun K hK => ?_) AllReadyH.nil)
          · go_simp
            go_wp2_with (first | (go_at_call 11; ((with_reducible refine (COa.out _ hW).mono ?_); rintro e wN ⟨rfl, b9⟩)))
            have hW := hW.trans (b9.mono hW.size)
            clear b9
            refine hK.out _ _ (by with_reducible exact MK.out _ hW) (fun hHeld => ?_)
            clear hK K
            go_simp
            refine wpAnyH_ready (rs := [9, 11]) (by kernel_rfl) (by simp) ?_
            refine AllReadyH.cons rfl (fun K hK => ?_) (AllReadyH.cons rfl (fun K hK => ?_) AllReadyH.nil)
            · go_simp
              go_wp2_with (first | (go_at_call 11; ((with_reducible refine (COb.out _ hW).mono ?_); rintro e wH ⟨rfl, b9⟩)))
              have hW := hW.trans (b9.mono hW.size)
              clear b9
              refine hK.out _ _ (by with_reducible exact MK.out _ hW) (fun hHeld => ?_)
              clear hK K
              go_simp
              refine wpAnyH_take (i := 10) (v := ?_) rfl (by kernel_rfl) (by kernel_rfl) (by kernel_rfl) (fun _ _ _ h => h) (Or.inl ⟨by rfl, ?_⟩) hHeld ?_
              rotate_left
              · intro w hSw; (try dsimp only at hSw); go_simp; try with_reducible rfl
              go_simp
              refine wpAnyH_ready (rs := [11]) (by kernel_rfl) (by simp) ?_
              refine AllReadyH.cons rfl (fun K hK => ?_) ?_
              rotate_left
              · exact AllReadyH.nil
              go_simp
              go_wp2_with (fail)
              have RZ : RawAt 27 (wH.alloc (.cells cuS 27)) wH.heap.size cuS := heap_alloc_new wH _
              have hleZ : wb.heap.size ≤ wH.heap.size := by have := hW.size; omega
              have hW : Below wb.heap.size wb (wH.alloc (.cells cuS 27)) := hW.trans (((Below.refl wH.heap.size wH).alloc (Nat.le_refl _) (.cells cuS 27)).mono hW.size)
              refine hK.out _ _ (by with_reducible exact MK.out _ hW) (fun hHeld => ?_)
              clear hK K
              go_simp
              refine wpAnyH_ready (rs := [12]) (by kernel_rfl) (by simp) ?_
              refine AllReadyH.cons rfl (fun K hK => ?_) ?_
              rotate_left
              · exact AllReadyH.nil
              have hW9 := below_setRow (g := wH.heap.size) hW hleZ #[.int .i64 F2, .int .i64 T2]
              refine step_store_row rfl 27 _ _ rfl wH.heap.size #[.int .i64 F2, .int .i64 T2] rfl rfl RZ (by kernel_rfl) rfl (by simp [Value.oneCell']) ?_
              refine hK.out _ _ (by with_reducible exact MK.out _ hW9) (fun hHeld => ?_)
              clear hK K
              go_simp
              refine wpAnyH_done (by kernel_rfl) ?_ _
              refine NoPanic.normal ?_
              go_wp2_with fail
              have RN := raw_row RZ #[.int .i64 F2, .int .i64 T2]
              go_meet
              exact ⟨wH.heap.size, rfl, Lib.hid RN, Lib.hid hW9⟩
            · go_simp
              go_wp2_with (fail)
              have RZ : RawAt 27 (wN.alloc (.cells cuS 27)) wN.heap.size cuS := heap_alloc_new wN _
              have hleZ : wb.heap.size ≤ wN.heap.size := by have := hW.size; omega
              have hW : Below wb.heap.size wb (wN.alloc (.cells cuS 27)) := hW.trans (((Below.refl wN.heap.size wN).alloc (Nat.le_refl _) (.cells cuS 27)).mono hW.size)
              refine hK.out _ _ (by with_reducible exact MK.out _ hW) (fun hHeld => ?_)
              clear hK K
              go_simp
              refine wpAnyH_ready (rs := [9]) (by kernel_rfl) (by simp) ?_
              refine AllReadyH.cons rfl (fun K hK => ?_) ?_
              rotate_left
              · exact AllReadyH.nil
              go_simp
              go_wp2_with (first | (go_at_call 11; ((with_reducible refine (COb.out _ hW).mono ?_); rintro e wH ⟨rfl, b9⟩)))
              have RZ := RawAt.below RZ b9 (RawAt.lt RZ)
              have hW := hW.trans (b9.mono hW.size)
              clear b9
              refine hK.out _ _ (by with_reducible exact MK.out _ hW) (fun hHeld => ?_)
              clear hK K
              go_simp
              refine wpAnyH_take (i := 10) (v := ?_) rfl (by kernel_rfl) (by kernel_rfl) (by kernel_rfl) (fun _ _ _ h => h) (Or.inl ⟨by rfl, ?_⟩) hHeld ?_
              rotate_left
              · intro w hSw; (try dsimp only at hSw); go_simp; try with_reducible rfl
              go_simp
              refine wpAnyH_ready (rs := [12]) (by kernel_rfl) (by simp) ?_
              refine AllReadyH.cons rfl (fun K hK => ?_) ?_
              rotate_left
              · exact AllReadyH.nil
              have hW9 := below_setRow (g := wN.heap.size) hW hleZ #[.int .i64 F2, .int .i64 T2]
              refine step_store_row rfl 27 _ _ rfl wN.heap.size #[.int .i64 F2, .int .i64 T2] rfl rfl RZ (by kernel_rfl) rfl (by simp [Value.oneCell']) ?_
              refine hK.out _ _ (by with_reducible exact MK.out _ hW9) (fun hHeld => ?_)
              clear hK K
              go_simp
              refine wpAnyH_done (by kernel_rfl) ?_ _
              refine NoPanic.normal ?_
              go_wp2_with fail
              have RN := raw_row RZ #[.int .i64 F2, .int .i64 T2]
              go_meet
              exact ⟨wN.heap.size, rfl, Lib.hid RN, Lib.hid hW9⟩
          · go_simp
            go_wp2_with (fail)
            have RZ : RawAt 27 (wb.alloc (.cells cuS 27)).drew wb.heap.size cuS := heap_alloc_new wb _
            have hleZ : wb.heap.size ≤ wb.heap.size := Nat.le_refl _
            have hW : Below wb.heap.size wb (wb.alloc (.cells cuS 27)).drew := (((Below.refl wb.heap.size wb).alloc (Nat.le_refl _) (.cells cuS 27))).drew
            refine hK.out _ _ (by with_reducible exact MK.out _ hW) (fun hHeld => ?_)
            clear hK K
            go_simp
            refine wpAnyH_ready (rs := [4]) (by kernel_rfl) (by simp) ?_
            refine AllReadyH.cons rfl (fun K hK => ?_) ?_
            rotate_left
            · exact AllReadyH.nil
            go_simp
            go_wp2_with (first | (go_at_call 11; ((with_reducible refine (COa.out _ hW).mono ?_); rintro e wN ⟨rfl, b9⟩)))
            have RZ := RawAt.below RZ b9 (RawAt.lt RZ)
            have hW := hW.trans (b9.mono hW.size)
            clear b9
            refine hK.out _ _ (by with_reducible exact MK.out _ hW) (fun hHeld => ?_)
            clear hK K
            go_simp
            refine wpAnyH_ready (rs := [9]) (by kernel_rfl) (by simp) ?_
            refine AllReadyH.cons rfl (fun K hK => ?_) ?_
            rotate_left
            · exact AllReadyH.nil
            go_simp
            go_wp2_with (first | (go_at_call 11; ((with_reducible refine (COb.out _ hW).mono ?_); rintro e wH ⟨rfl, b9⟩)))
            have RZ := RawAt.below RZ b9 (RawAt.lt RZ)
            have hW := hW.trans (b9.mono hW.size)
            clear b9
            refine hK.out _ _ (by with_reducible exact MK.out _ hW) (fun hHeld => ?_)
            clear hK K
            go_simp
            refine wpAnyH_take (i := 10) (v := ?_) rfl (by kernel_rfl) (by kernel_rfl) (by kernel_rfl) (fun _ _ _ h => h) (Or.inl ⟨by rfl, ?_⟩) hHeld ?_
            rotate_left
            · intro w hSw; (try dsimp only at hSw); go_simp; try with_reducible rfl
            go_simp
            refine wpAnyH_ready (rs := [12]) (by kernel_rfl) (by simp) ?_
            refine AllReadyH.cons rfl (fun K hK => ?_) ?_
            rotate_left
            · exact AllReadyH.nil
            have hW9 := below_setRow (g := wb.heap.size) hW hleZ #[.int .i64 F2, .int .i64 T2]
            refine step_store_row rfl 27 _ _ rfl wb.heap.size #[.int .i64 F2, .int .i64 T2] rfl rfl RZ (by kernel_rfl) rfl (by simp [Value.oneCell']) ?_
            refine hK.out _ _ (by with_reducible exact MK.out _ hW9) (fun hHeld => ?_)
            clear hK K
            go_simp
            refine wpAnyH_done (by kernel_rfl) ?_ _
            refine NoPanic.normal ?_
            go_wp2_with fail
            have RN := raw_row RZ #[.int .i64 F2, .int .i64 T2]
            go_meet
            exact ⟨wb.heap.size, rfl, Lib.hid RN, Lib.hid hW9⟩
      obtain ⟨bp, rfl, P0, HBx⟩ := hcut
      have b9 := HBx.out
      clear HBx COa COb
      obtain ⟨wd, hwc⟩ : ∃ W, W = wc := ⟨_, rfl⟩
      rw [← hwc] at P0 b9 ⊢
      clear hwc
      have HQ := Lib.hid (HQ.out.trans (b9.mono HQ.out.size))
      have T0 := Lib.hid (RawAt.below T0.out b9 (RawAt.lt T0.out))
      have X0 := Lib.hid (RawAt.below X0.out b9 (RawAt.lt X0.out))
      have Z0 := Lib.hid (RawAt.below Z0.out b9 (RawAt.lt Z0.out))
      have U0 := Lib.hid (RawAt.below U0.out b9 (RawAt.lt U0.out))
      have HXU := Lib.hid (HXU.out.below b9)
      have HC7 := Lib.hid (HC7.out.below b9)
      have HV := Lib.hid (HV.out.below b9)
      have HR9 := Lib.hid (HR9.out.below b9)
      have Q0 := Lib.hid (RawAt.below Q0.out b9 (RawAt.lt Q0.out))
      have O0 := Lib.hid (RawAt.below O0.out b9 (RawAt.lt O0.out))
      clear b9
      have hxu := HXU.out
      have hzu := hxu.zis
      have HZU := Lib.hid hzu.1
      have hzub := hzu.2
      have hcr := (HX.out w (Below.refl _ _)).cr hr
      have HCR := Lib.hid hcr
      have hol4 := hxu.olen
      have hku := hxu.hk
      have hku2 := hxu.k1
      have hsu := hxu.set
      have HLL : Hid ((o.map (cpl (oI l))).length = k) := Lib.hid (by rw [List.length_map]; exact (HX.out w (Below.refl _ _)).hk)
      have HLU : Hid ((h2.map (cpl (oI o2))).length = dk) := Lib.hid (by rw [List.length_map]; exact hku)
      have HC8 : Hid (CrAt wd (some ac) (crP 0 (o.map (cpl (oI l))) (zI N l)) hc) := Lib.hid (by rw [HZI.out]; exact HC7.out)
      clear HC7
      have CU := Lib.hid (cUpd_any DB dk dc h2 F1 T1 F2 T2 wd HC8.out hcr (by rw [HLL.out]; omega) (by omega) HV.out hsu.wv hxu.hB hku (by omega) (by rw [← HZU.out]; omega))
      clear hxu hzu hcr hol4 hsu
      go_upto_region 14 with fail
      have pO00 : wd.cell? ⟨bo, 0, none⟩ = some (.int .i64 F1) := RawAt.cell O0.out 0
      have pO01 : wd.cell? ⟨bo, 1, none⟩ = some (.int .i64 T1) := RawAt.cell O0.out 1
      have pP00 : wd.cell? ⟨bp, 0, none⟩ = some (.int .i64 F2) := RawAt.cell P0.out 0
      have pP01 : wd.cell? ⟨bp, 1, none⟩ = some (.int .i64 T2) := RawAt.cell P0.out 1
      have pX04 : wd.cell? ⟨w.heap.size + 1, 4, none⟩ = some (.slice DB dk dc) := RawAt.cell X0.out 4
      go_wp2_with fail
      by_cases hU : UGood (o.map (cpl (oI l))) h2 (oI o2) F1 T1 F2 T2 (zI N l) N
      rotate_left
      · skip
        as_aux_lemma =>
          with_reducible refine (CU.out).mono ?_
          rintro e we ⟨(⟨_, rfl⟩ | ⟨hg, _⟩), b9⟩
          rotate_left
          exact absurd hg hU
          clear pO00 pO01 pP00 pP01 pX04
          have HQ := Lib.hid (HQ.out.trans (b9.mono HQ.out.size))
          have T0 := Lib.hid (RawAt.below T0.out b9 (RawAt.lt T0.out))
          have X0 := Lib.hid (RawAt.below X0.out b9 (RawAt.lt X0.out))
          have Z0 := Lib.hid (RawAt.below Z0.out b9 (RawAt.lt Z0.out))
          have U0 := Lib.hid (RawAt.below U0.out b9 (RawAt.lt U0.out))
          have HXU := Lib.hid (HXU.out.below b9)
          have HV := Lib.hid (HV.out.below b9)
          have HR9 := Lib.hid (HR9.out.below b9)
          have Q0 := Lib.hid (RawAt.below Q0.out b9 (RawAt.lt Q0.out))
          have O0 := Lib.hid (RawAt.below O0.out b9 (RawAt.lt O0.out))
          have P0 := Lib.hid (RawAt.below P0.out b9 (RawAt.lt P0.out))
          have HC8 := Lib.hid (HC8.out.below b9)
          clear b9
          clear CU
          have pT00 : we.cell? ⟨w.heap.size, 0, none⟩ = some (.int .i64 N) := RawAt.cell T0.out 0
          have pX04 : we.cell? ⟨w.heap.size + 1, 4, none⟩ = some (.slice DB dk dc) := RawAt.cell X0.out 4
          go_wp2_with fail
          by_cases hrt : RtOk 0 h2 N
          rotate_left
          · skip
            with_reducible refine (CRH.out false ⟨fun h => absurd h (by simp), fun h => absurd h hrt⟩ _ HQ.out d3).mono ?_
            rintro e wf ⟨rfl, b9⟩
            clear pT00 pX04
            have HQ := Lib.hid (HQ.out.trans (b9.mono HQ.out.size))
            have T0 := Lib.hid (RawAt.below T0.out b9 (RawAt.lt T0.out))
            have X0 := Lib.hid (RawAt.below X0.out b9 (RawAt.lt X0.out))
            have Z0 := Lib.hid (RawAt.below Z0.out b9 (RawAt.lt Z0.out))
            have U0 := Lib.hid (RawAt.below U0.out b9 (RawAt.lt U0.out))
            have HXU := Lib.hid (HXU.out.below b9)
            have HV := Lib.hid (HV.out.below b9)
            have HR9 := Lib.hid (HR9.out.below b9)
            have Q0 := Lib.hid (RawAt.below Q0.out b9 (RawAt.lt Q0.out))
            have O0 := Lib.hid (RawAt.below O0.out b9 (RawAt.lt O0.out))
            have P0 := Lib.hid (RawAt.below P0.out b9 (RawAt.lt P0.out))
            have HC8 := Lib.hid (HC8.out.below b9)
            clear b9
            go_wp2_with fail
            with_reducible refine (C6.out _).mono ?_
            rintro e wz ⟨rfl, bz⟩
            have HZ9 := Lib.hid (HQ.out.trans (bz.mono HQ.out.size))
            clear bz
            go_wp2
            go_ret
            exact ⟨rfl, HZ9.out⟩
          with_reducible refine (CRH.out true ⟨fun _ => hrt, fun _ => rfl⟩ _ HQ.out d3).mono ?_
          rintro e wf ⟨rfl, b9⟩
          clear pT00 pX04
          have HQ := Lib.hid (HQ.out.trans (b9.mono HQ.out.size))
          have T0 := Lib.hid (RawAt.below T0.out b9 (RawAt.lt T0.out))
          have X0 := Lib.hid (RawAt.below X0.out b9 (RawAt.lt X0.out))
          have Z0 := Lib.hid (RawAt.below Z0.out b9 (RawAt.lt Z0.out))
          have U0 := Lib.hid (RawAt.below U0.out b9 (RawAt.lt U0.out))
          have HXU := Lib.hid (HXU.out.below b9)
          have HV := Lib.hid (HV.out.below b9)
          have HR9 := Lib.hid (HR9.out.below b9)
          have Q0 := Lib.hid (RawAt.below Q0.out b9 (RawAt.lt Q0.out))
          have O0 := Lib.hid (RawAt.below O0.out b9 (RawAt.lt O0.out))
          have P0 := Lib.hid (RawAt.below P0.out b9 (RawAt.lt P0.out))
          have HC8 := Lib.hid (HC8.out.below b9)
          clear b9
          by_cases hfit : ((0 ≤ F1 ∧ F1 ≤ T1 ∧ T1 ≤ zI N l) ∧ F2 = F1 ∧ F2 ≤ T2 ∧ T2 ≤ zI N o2 ∧ (zI N l : Int) - T1 = zI N o2 - T2)
          rotate_left
          · skip
            have CF := Lib.hid fun (W : World) => rFits14g_any (zI N l) (zI N o2) F1 T1 F2 T2 W (by omega) false ⟨fun h => absurd h (by simp), fun h => absurd h hfit⟩
            clear hfit
            go_upto_region 17 with fail
            have CS1 := Lib.hid fun (W : World) (hW : Below w.heap.size w W) => size16_any d (HX.out W hW)
            have CS2 := Lib.hid fun (W : World) (hW : Below wf.heap.size wf W) => size16_any dc (HXU.out.below hW)
            have hW : Below wf.heap.size wf wf.drew := (Below.refl _ _).drew
            have MK : Hid (∀ V : World, Below wf.heap.size wf V → (fun V => V.cell? ⟨w.heap.size, 0, none⟩ = some (.int .i64 N) ∧ V.cell? ⟨w.heap.size, 1, none⟩ = some (.slice A m c) ∧ V.cell? ⟨w.heap.size, 2, none⟩ = some (.slice B k d) ∧ V.cell? ⟨bu, 0, none⟩ = some (.int .i64 N) ∧ V.cell? ⟨bu, 1, none⟩ = some (.slice A3 m3 c3) ∧ V.cell? ⟨bu, 2, none⟩ = some (.slice DB dk dc) ∧ V.cell? ⟨bo, 0, none⟩ = some (.int .i64 F1) ∧ V.cell? ⟨bo, 1, none⟩ = some (.int .i64 T1) ∧ V.cell? ⟨bp, 0, none⟩ = some (.int .i64 F2) ∧ V.cell? ⟨bp, 1, none⟩ = some (.int .i64 T2)) V) := Lib.hid fun V hV => ⟨RawAt.cell (RawAt.below T0.out hV (RawAt.lt T0.out)) 0, RawAt.cell (RawAt.below T0.out hV (RawAt.lt T0.out)) 1, RawAt.cell (RawAt.below T0.out hV (RawAt.lt T0.out)) 2, RawAt.cell (RawAt.below U0.out hV (RawAt.lt U0.out)) 0, RawAt.cell (RawAt.below U0.out hV (RawAt.lt U0.out)) 1, RawAt.cell (RawAt.below U0.out hV (RawAt.lt U0.out)) 2, RawAt.cell (RawAt.below O0.out hV (RawAt.lt O0.out)) 0, RawAt.cell (RawAt.below O0.out hV (RawAt.lt O0.out)) 1, RawAt.cell (RawAt.below P0.out hV (RawAt.lt P0.out)) 0, RawAt.cell (RawAt.below P0.out hV (RawAt.lt P0.out)) 1⟩
            refine wp_region_noPanic ?_
            refine wp_region_held_drew (S := (fun V => V.cell? ⟨w.heap.size, 0, none⟩ = some (.int .i64 N) ∧ V.cell? ⟨w.heap.size, 1, none⟩ = some (.slice A m c) ∧ V.cell? ⟨w.heap.size, 2, none⟩ = some (.slice B k d) ∧ V.cell? ⟨bu, 0, none⟩ = some (.int .i64 N) ∧ V.cell? ⟨bu, 1, none⟩ = some (.slice A3 m3 c3) ∧ V.cell? ⟨bu, 2, none⟩ = some (.slice DB dk dc) ∧ V.cell? ⟨bo, 0, none⟩ = some (.int .i64 F1) ∧ V.cell? ⟨bo, 1, none⟩ = some (.int .i64 T1) ∧ V.cell? ⟨bp, 0, none⟩ = some (.int .i64 F2) ∧ V.cell? ⟨bp, 1, none⟩ = some (.int .i64 T2))) (by kernel_rfl) (MK.out _ hW) (fun hHeld => ?_)
            refine wpAnyH_take (i := 0) (v := ?_) rfl (by kernel_rfl) (by kernel_rfl) (by kernel_rfl) (fun _ _ _ h => h) (Or.inl ⟨by rfl, ?_⟩) hHeld ?_
            rotate_left
            · intro w hSw; (try dsimp only at hSw); go_simp; try with_reducible rfl
            go_simp
            refine wpAnyH_take (i := 2) (v := ?_) rfl (by kernel_rfl) (by kernel_rfl) (by kernel_rfl) (fun _ _ _ h => h) (Or.inl ⟨by rfl, ?_⟩) hHeld ?_
            rotate_left
            · intro w hSw; (try dsimp only at hSw); go_simp; try with_reducible rfl
            go_simp
            refine wpAnyH_take (i := 4) (v := ?_) rfl (by kernel_rfl) (by kernel_rfl) (by kernel_rfl) (fun _ _ _ h => h) (Or.inl ⟨by rfl, ?_⟩) hHeld ?_
            rotate_left
            · intro w hSw; (try dsimp only at hSw); go_simp; try with_reducible rfl
            go_simp
            refine wpAnyH_take (i := 5) (v := ?_) rfl (by kernel_rfl) (by kernel_rfl) (by kernel_rfl) (fun _ _ _ h => h) (Or.inl ⟨by rfl, ?_⟩) hHeld ?_
            rotate_left
            · intro w hSw; (try dsimp only at hSw); go_simp; try with_reducible rfl
            go_simp
            refine wpAnyH_take (i := 6) (v := ?_) rfl (by kernel_rfl) (by kernel_rfl) (by kernel_rfl) (fun _ _ _ h => h) (Or.inl ⟨by rfl, ?_⟩) hHeld ?_
            rotate_left
            · intro w hSw; (try dsimp only at hSw); go_simp; try with_reducible rfl
            go_simp
            refine wpAnyH_ready (rs := [1]) (by kernel_rfl) (by simp) ?_
            refine AllReadyH.cons rfl (fun K hK => ?_) ?_
            rotate_left
            · exact AllReadyH.nil
            go_simp
            go_wp2_with (first | (go_at_call 14; first | ((with_reducible refine (CS1.out _ (HQ.out.trans (hW.mono HQ.out.size))).mono ?_); rintro e w6 ⟨rfl, b9⟩; have hW := hW.trans (b9.mono hW.size)) | ((with_reducible refine (CS2.out _ hW).mono ?_); rintro e w6 ⟨rfl, b9⟩; have hW := hW.trans (b9.mono hW.size))) | (go_at_call 13; ((with_reducible refine (CF.out _).mono ?_); rintro e w6 ⟨rfl, b9⟩; have hW := hW.trans (b9.mono hW.size))))
            refine hK.out _ _ (by with_reducible exact MK.out _ hW) (fun hHeld => ?_)
            clear hK K
            go_simp
            refine wpAnyH_ready (rs := [3]) (by kernel_rfl) (by simp) ?_
            refine AllReadyH.cons rfl (fun K hK => ?_) ?_
            rotate_left
            · exact AllReadyH.nil
            go_simp
            go_wp2_with (first | (go_at_call 14; first | ((with_reducible refine (CS1.out _ (HQ.out.trans (hW.mono HQ.out.size))).mono ?_); rintro e w6 ⟨rfl, b9⟩; have hW := hW.trans (b9.mono hW.size)) | ((with_reducible refine (CS2.out _ hW).mono ?_); rintro e w6 ⟨rfl, b9⟩; have hW := hW.trans (b9.mono hW.size))) | (go_at_call 13; ((with_reducible refine (CF.out _).mono ?_); rintro e w6 ⟨rfl, b9⟩; have hW := hW.trans (b9.mono hW.size))))
            refine hK.out _ _ (by with_reducible exact MK.out _ hW) (fun hHeld => ?_)
            clear hK K
            go_simp
            refine wpAnyH_ready (rs := [7]) (by kernel_rfl) (by simp) ?_
            refine AllReadyH.cons rfl (fun K hK => ?_) ?_
            rotate_left
            · exact AllReadyH.nil
            go_simp
            go_wp2_with (first | (go_at_call 14; first | ((with_reducible refine (CS1.out _ (HQ.out.trans (hW.mono HQ.out.size))).mono ?_); rintro e w6 ⟨rfl, b9⟩; have hW := hW.trans (b9.mono hW.size)) | ((with_reducible refine (CS2.out _ hW).mono ?_); rintro e w6 ⟨rfl, b9⟩; have hW := hW.trans (b9.mono hW.size))) | (go_at_call 13; ((with_reducible refine (CF.out _).mono ?_); rintro e w6 ⟨rfl, b9⟩; have hW := hW.trans (b9.mono hW.size))))
            refine hK.out _ _ (by with_reducible exact MK.out _ hW) (fun hHeld => ?_)
            clear hK K
            go_simp
            refine wpAnyH_take (i := 8) (v := ?_) rfl (by kernel_rfl) (by kernel_rfl) (by kernel_rfl) (fun _ _ _ h => h) (Or.inl ⟨by rfl, ?_⟩) hHeld ?_
            rotate_left
            · intro w hSw; (try dsimp only at hSw); go_simp; try with_reducible rfl
            go_simp
            refine wpAnyH_done (by kernel_rfl) ?_ _
            refine NoPanic.normal ?_
            obtain ⟨wg, hwN⟩ : ∃ W, W = w6 := ⟨_, rfl⟩
            rw [← hwN] at hW ⊢
            clear hwN
            have b9 := hW
            clear MK CS1 CS2 CF hW
            have HQ := Lib.hid (HQ.out.trans (b9.mono HQ.out.size))
            have T0 := Lib.hid (RawAt.below T0.out b9 (RawAt.lt T0.out))
            have X0 := Lib.hid (RawAt.below X0.out b9 (RawAt.lt X0.out))
            have Z0 := Lib.hid (RawAt.below Z0.out b9 (RawAt.lt Z0.out))
            have U0 := Lib.hid (RawAt.below U0.out b9 (RawAt.lt U0.out))
            have HXU := Lib.hid (HXU.out.below b9)
            have HV := Lib.hid (HV.out.below b9)
            have HR9 := Lib.hid (HR9.out.below b9)
            have Q0 := Lib.hid (RawAt.below Q0.out b9 (RawAt.lt Q0.out))
            have O0 := Lib.hid (RawAt.below O0.out b9 (RawAt.lt O0.out))
            have P0 := Lib.hid (RawAt.below P0.out b9 (RawAt.lt P0.out))
            have HC8 := Lib.hid (HC8.out.below b9)
            clear b9
            go_wp2_with fail
            with_reducible refine (C6.out _).mono ?_
            rintro e wz ⟨rfl, bz⟩
            have HZ9 := Lib.hid (HQ.out.trans (bz.mono HQ.out.size))
            clear bz
            go_wp2
            go_ret
            exact ⟨rfl, HZ9.out⟩
          have CF := Lib.hid fun (W : World) => rFits14g_any (zI N l) (zI N o2) F1 T1 F2 T2 W (by omega) true ⟨fun _ => hfit, fun _ => rfl⟩
          have HFT := Lib.hid hfit
          clear hfit
          go_upto_region 17 with fail
          have CS1 := Lib.hid fun (W : World) (hW : Below w.heap.size w W) => size16_any d (HX.out W hW)
          have CS2 := Lib.hid fun (W : World) (hW : Below wf.heap.size wf W) => size16_any dc (HXU.out.below hW)
          have hW : Below wf.heap.size wf wf.drew := (Below.refl _ _).drew
          have MK : Hid (∀ V : World, Below wf.heap.size wf V → (fun V => V.cell? ⟨w.heap.size, 0, none⟩ = some (.int .i64 N) ∧ V.cell? ⟨w.heap.size, 1, none⟩ = some (.slice A m c) ∧ V.cell? ⟨w.heap.size, 2, none⟩ = some (.slice B k d) ∧ V.cell? ⟨bu, 0, none⟩ = some (.int .i64 N) ∧ V.cell? ⟨bu, 1, none⟩ = some (.slice A3 m3 c3) ∧ V.cell? ⟨bu, 2, none⟩ = some (.slice DB dk dc) ∧ V.cell? ⟨bo, 0, none⟩ = some (.int .i64 F1) ∧ V.cell? ⟨bo, 1, none⟩ = some (.int .i64 T1) ∧ V.cell? ⟨bp, 0, none⟩ = some (.int .i64 F2) ∧ V.cell? ⟨bp, 1, none⟩ = some (.int .i64 T2)) V) := Lib.hid fun V hV => ⟨RawAt.cell (RawAt.below T0.out hV (RawAt.lt T0.out)) 0, RawAt.cell (RawAt.below T0.out hV (RawAt.lt T0.out)) 1, RawAt.cell (RawAt.below T0.out hV (RawAt.lt T0.out)) 2, RawAt.cell (RawAt.below U0.out hV (RawAt.lt U0.out)) 0, RawAt.cell (RawAt.below U0.out hV (RawAt.lt U0.out)) 1, RawAt.cell (RawAt.below U0.out hV (RawAt.lt U0.out)) 2, RawAt.cell (RawAt.below O0.out hV (RawAt.lt O0.out)) 0, RawAt.cell (RawAt.below O0.out hV (RawAt.lt O0.out)) 1, RawAt.cell (RawAt.below P0.out hV (RawAt.lt P0.out)) 0, RawAt.cell (RawAt.below P0.out hV (RawAt.lt P0.out)) 1⟩
          refine wp_region_noPanic ?_
          refine wp_region_held_drew (S := (fun V => V.cell? ⟨w.heap.size, 0, none⟩ = some (.int .i64 N) ∧ V.cell? ⟨w.heap.size, 1, none⟩ = some (.slice A m c) ∧ V.cell? ⟨w.heap.size, 2, none⟩ = some (.slice B k d) ∧ V.cell? ⟨bu, 0, none⟩ = some (.int .i64 N) ∧ V.cell? ⟨bu, 1, none⟩ = some (.slice A3 m3 c3) ∧ V.cell? ⟨bu, 2, none⟩ = some (.slice DB dk dc) ∧ V.cell? ⟨bo, 0, none⟩ = some (.int .i64 F1) ∧ V.cell? ⟨bo, 1, none⟩ = some (.int .i64 T1) ∧ V.cell? ⟨bp, 0, none⟩ = some (.int .i64 F2) ∧ V.cell? ⟨bp, 1, none⟩ = some (.int .i64 T2))) (by kernel_rfl) (MK.out _ hW) (fun hHeld => ?_)
          refine wpAnyH_take (i := 0) (v := ?_) rfl (by kernel_rfl) (by kernel_rfl) (by kernel_rfl) (fun _ _ _ h => h) (Or.inl ⟨by rfl, ?_⟩) hHeld ?_
          rotate_left
          · intro w hSw; (try dsimp only at hSw); go_simp; try with_reducible rfl
          go_simp
          refine wpAnyH_take (i := 2) (v := ?_) rfl (by kernel_rfl) (by kernel_rfl) (by kernel_rfl) (fun _ _ _ h => h) (Or.inl ⟨by rfl, ?_⟩) hHeld ?_
          rotate_left
          · intro w hSw; (try dsimp only at hSw); go_simp; try with_reducible rfl
          go_simp
          refine wpAnyH_take (i := 4) (v := ?_) rfl (by kernel_rfl) (by kernel_rfl) (by kernel_rfl) (fun _ _ _ h => h) (Or.inl ⟨by rfl, ?_⟩) hHeld ?_
          rotate_left
          · intro w hSw; (try dsimp only at hSw); go_simp; try with_reducible rfl
          go_simp
          refine wpAnyH_take (i := 5) (v := ?_) rfl (by kernel_rfl) (by kernel_rfl) (by kernel_rfl) (fun _ _ _ h => h) (Or.inl ⟨by rfl, ?_⟩) hHeld ?_
          rotate_left
          · intro w hSw; (try dsimp only at hSw); go_simp; try with_reducible rfl
          go_simp
          refine wpAnyH_take (i := 6) (v := ?_) rfl (by kernel_rfl) (by kernel_rfl) (by kernel_rfl) (fun _ _ _ h => h) (Or.inl ⟨by rfl, ?_⟩) hHeld ?_
          rotate_left
          · intro w hSw; (try dsimp only at hSw); go_simp; try with_reducible rfl
          go_simp
          refine wpAnyH_ready (rs := [1]) (by kernel_rfl) (by simp) ?_
          refine AllReadyH.cons rfl (fun K hK => ?_) ?_
          rotate_left
          · exact AllReadyH.nil
          go_simp
          go_wp2_with (first | (go_at_call 14; first | ((with_reducible refine (CS1.out _ (HQ.out.trans (hW.mono HQ.out.size))).mono ?_); rintro e w6 ⟨rfl, b9⟩; have hW := hW.trans (b9.mono hW.size)) | ((with_reducible refine (CS2.out _ hW).mono ?_); rintro e w6 ⟨rfl, b9⟩; have hW := hW.trans (b9.mono hW.size))) | (go_at_call 13; ((with_reducible refine (CF.out _).mono ?_); rintro e w6 ⟨rfl, b9⟩; have hW := hW.trans (b9.mono hW.size))))
          refine hK.out _ _ (by with_reducible exact MK.out _ hW) (fun hHeld => ?_)
          clear hK K
          go_simp
          refine wpAnyH_ready (rs := [3]) (by kernel_rfl) (by simp) ?_
          refine AllReadyH.cons rfl (fun K hK => ?_) ?_
          rotate_left
          · exact AllReadyH.nil
          go_simp
          go_wp2_with (first | (go_at_call 14; first | ((with_reducible refine (CS1.out _ (HQ.out.trans (hW.mono HQ.out.size))).mono ?_); rintro e w6 ⟨rfl, b9⟩; have hW := hW.trans (b9.mono hW.size)) | ((with_reducible refine (CS2.out _ hW).mono ?_); rintro e w6 ⟨rfl, b9⟩; have hW := hW.trans (b9.mono hW.size))) | (go_at_call 13; ((with_reducible refine (CF.out _).mono ?_); rintro e w6 ⟨rfl, b9⟩; have hW := hW.trans (b9.mono hW.size))))
          refine hK.out _ _ (by with_reducible exact MK.out _ hW) (fun hHeld => ?_)
          clear hK K
          go_simp
          refine wpAnyH_ready (rs := [7]) (by kernel_rfl) (by simp) ?_
          refine AllReadyH.cons rfl (fun K hK => ?_) ?_
          rotate_left
          · exact AllReadyH.nil
          go_simp
          go_wp2_with (first | (go_at_call 14; first | ((with_reducible refine (CS1.out _ (HQ.out.trans (hW.mono HQ.out.size))).mono ?_); rintro e w6 ⟨rfl, b9⟩; have hW := hW.trans (b9.mono hW.size)) | ((with_reducible refine (CS2.out _ hW).mono ?_); rintro e w6 ⟨rfl, b9⟩; have hW := hW.trans (b9.mono hW.size))) | (go_at_call 13; ((with_reducible refine (CF.out _).mono ?_); rintro e w6 ⟨rfl, b9⟩; have hW := hW.trans (b9.mono hW.size))))
          refine hK.out _ _ (by with_reducible exact MK.out _ hW) (fun hHeld => ?_)
          clear hK K
          go_simp
          refine wpAnyH_take (i := 8) (v := ?_) rfl (by kernel_rfl) (by kernel_rfl) (by kernel_rfl) (fun _ _ _ h => h) (Or.inl ⟨by rfl, ?_⟩) hHeld ?_
          rotate_left
          · intro w hSw; (try dsimp only at hSw); go_simp; try with_reducible rfl
          go_simp
          refine wpAnyH_done (by kernel_rfl) ?_ _
          refine NoPanic.normal ?_
          obtain ⟨wg, hwN⟩ : ∃ W, W = w6 := ⟨_, rfl⟩
          rw [← hwN] at hW ⊢
          clear hwN
          have b9 := hW
          clear MK CS1 CS2 CF hW
          have HQ := Lib.hid (HQ.out.trans (b9.mono HQ.out.size))
          have T0 := Lib.hid (RawAt.below T0.out b9 (RawAt.lt T0.out))
          have X0 := Lib.hid (RawAt.below X0.out b9 (RawAt.lt X0.out))
          have Z0 := Lib.hid (RawAt.below Z0.out b9 (RawAt.lt Z0.out))
          have U0 := Lib.hid (RawAt.below U0.out b9 (RawAt.lt U0.out))
          have HXU := Lib.hid (HXU.out.below b9)
          have HV := Lib.hid (HV.out.below b9)
          have HR9 := Lib.hid (HR9.out.below b9)
          have Q0 := Lib.hid (RawAt.below Q0.out b9 (RawAt.lt Q0.out))
          have O0 := Lib.hid (RawAt.below O0.out b9 (RawAt.lt O0.out))
          have P0 := Lib.hid (RawAt.below P0.out b9 (RawAt.lt P0.out))
          have HC8 := Lib.hid (HC8.out.below b9)
          clear b9
          have CP := Lib.hid (places16_any d (HX.out _ HQ.out) hr)
          have pT00 : wg.cell? ⟨w.heap.size, 0, none⟩ = some (.int .i64 N) := RawAt.cell T0.out 0
          have pT01 : wg.cell? ⟨w.heap.size, 1, none⟩ = some (.slice A m c) := RawAt.cell T0.out 1
          have pT02 : wg.cell? ⟨w.heap.size, 2, none⟩ = some (.slice B k d) := RawAt.cell T0.out 2
          go_wp2_with fail
          with_reducible refine (CP.out).mono ?_
          rintro e wh ⟨vP, rfl, hown, b9⟩
          clear pT00 pT01 pT02
          have HQ := Lib.hid (HQ.out.trans (b9.mono HQ.out.size))
          have T0 := Lib.hid (RawAt.below T0.out b9 (RawAt.lt T0.out))
          have X0 := Lib.hid (RawAt.below X0.out b9 (RawAt.lt X0.out))
          have Z0 := Lib.hid (RawAt.below Z0.out b9 (RawAt.lt Z0.out))
          have U0 := Lib.hid (RawAt.below U0.out b9 (RawAt.lt U0.out))
          have HXU := Lib.hid (HXU.out.below b9)
          have HV := Lib.hid (HV.out.below b9)
          have HR9 := Lib.hid (HR9.out.below b9)
          have Q0 := Lib.hid (RawAt.below Q0.out b9 (RawAt.lt Q0.out))
          have O0 := Lib.hid (RawAt.below O0.out b9 (RawAt.lt O0.out))
          have P0 := Lib.hid (RawAt.below P0.out b9 (RawAt.lt P0.out))
          have HC8 := Lib.hid (HC8.out.below b9)
          clear b9
          obtain ⟨AP, cP, rfl, hRP, hlP, _⟩ := rows_of_own wencS_len (by omega) hown
          have HRP := Lib.hid hRP
          clear hown hRP hlP CP
          have CP := Lib.hid (places16_any dc HXU.out hrt)
          have pU00 : wh.cell? ⟨bu, 0, none⟩ = some (.int .i64 N) := RawAt.cell U0.out 0
          have pU01 : wh.cell? ⟨bu, 1, none⟩ = some (.slice A3 m3 c3) := RawAt.cell U0.out 1
          have pU02 : wh.cell? ⟨bu, 2, none⟩ = some (.slice DB dk dc) := RawAt.cell U0.out 2
          go_wp2_with fail
          with_reducible refine (CP.out).mono ?_
          rintro e wi ⟨vP, rfl, hown, b9⟩
          clear pU00 pU01 pU02
          have HQ := Lib.hid (HQ.out.trans (b9.mono HQ.out.size))
          have T0 := Lib.hid (RawAt.below T0.out b9 (RawAt.lt T0.out))
          have X0 := Lib.hid (RawAt.below X0.out b9 (RawAt.lt X0.out))
          have Z0 := Lib.hid (RawAt.below Z0.out b9 (RawAt.lt Z0.out))
          have U0 := Lib.hid (RawAt.below U0.out b9 (RawAt.lt U0.out))
          have HXU := Lib.hid (HXU.out.below b9)
          have HV := Lib.hid (HV.out.below b9)
          have HR9 := Lib.hid (HR9.out.below b9)
          have Q0 := Lib.hid (RawAt.below Q0.out b9 (RawAt.lt Q0.out))
          have O0 := Lib.hid (RawAt.below O0.out b9 (RawAt.lt O0.out))
          have P0 := Lib.hid (RawAt.below P0.out b9 (RawAt.lt P0.out))
          have HC8 := Lib.hid (HC8.out.below b9)
          have HRP := Lib.hid (HRP.out.below b9)
          clear b9
          obtain ⟨AQ, cQ, rfl, hRP, hlP, _⟩ := rows_of_own wencS_len (by omega) hown
          have HRQ := Lib.hid hRP
          clear hown hRP hlP CP
          have pO00 : wi.cell? ⟨bo, 0, none⟩ = some (.int .i64 F1) := RawAt.cell O0.out 0
          have pO01 : wi.cell? ⟨bo, 1, none⟩ = some (.int .i64 T1) := RawAt.cell O0.out 1
          have pP00 : wi.cell? ⟨bp, 0, none⟩ = some (.int .i64 F2) := RawAt.cell P0.out 0
          have pP01 : wi.cell? ⟨bp, 1, none⟩ = some (.int .i64 T2) := RawAt.cell P0.out 1
          go_wp2_with fail
          by_cases ha0 : acr (o.map (cpl (oI l))) F1 = true
          · skip
            have CA : Hid (Calls Tryz.prog 16 #[.slice AP k cP, .int .i64 F1] wi fun e w' => e = .returned (.bool true) ∧ Below wi.heap.size wi w') := Lib.hid (by have := rAcross16 AP k cP (o.map (cpl (oI l))) F1 wi HRP.out HLL.out (by omega); rwa [ha0] at this)
            with_reducible refine (CA.out).mono ?_
            rintro e wj ⟨rfl, b9⟩
            clear pO00 pO01 pP00 pP01
            have HQ := Lib.hid (HQ.out.trans (b9.mono HQ.out.size))
            have T0 := Lib.hid (RawAt.below T0.out b9 (RawAt.lt T0.out))
            have X0 := Lib.hid (RawAt.below X0.out b9 (RawAt.lt X0.out))
            have Z0 := Lib.hid (RawAt.below Z0.out b9 (RawAt.lt Z0.out))
            have U0 := Lib.hid (RawAt.below U0.out b9 (RawAt.lt U0.out))
            have HXU := Lib.hid (HXU.out.below b9)
            have HV := Lib.hid (HV.out.below b9)
            have HR9 := Lib.hid (HR9.out.below b9)
            have Q0 := Lib.hid (RawAt.below Q0.out b9 (RawAt.lt Q0.out))
            have O0 := Lib.hid (RawAt.below O0.out b9 (RawAt.lt O0.out))
            have P0 := Lib.hid (RawAt.below P0.out b9 (RawAt.lt P0.out))
            have HC8 := Lib.hid (HC8.out.below b9)
            have HRP := Lib.hid (HRP.out.below b9)
            have HRQ := Lib.hid (HRQ.out.below b9)
            clear b9
            clear CA
            go_wp2_with fail
            with_reducible refine (C6.out _).mono ?_
            rintro e wz ⟨rfl, bz⟩
            have HZ9 := Lib.hid (HQ.out.trans (bz.mono HQ.out.size))
            clear bz
            go_wp2
            go_ret
            exact ⟨rfl, HZ9.out⟩
          rw [Bool.not_eq_true] at ha0
          have CA : Hid (Calls Tryz.prog 16 #[.slice AP k cP, .int .i64 F1] wi fun e w' => e = .returned (.bool false) ∧ Below wi.heap.size wi w') := Lib.hid (by have := rAcross16 AP k cP (o.map (cpl (oI l))) F1 wi HRP.out HLL.out (by omega); rwa [ha0] at this)
          with_reducible refine (CA.out).mono ?_
          rintro e wj ⟨rfl, b9⟩
          clear pO00 pO01 pP00 pP01
          have HQ := Lib.hid (HQ.out.trans (b9.mono HQ.out.size))
          have T0 := Lib.hid (RawAt.below T0.out b9 (RawAt.lt T0.out))
          have X0 := Lib.hid (RawAt.below X0.out b9 (RawAt.lt X0.out))
          have Z0 := Lib.hid (RawAt.below Z0.out b9 (RawAt.lt Z0.out))
          have U0 := Lib.hid (RawAt.below U0.out b9 (RawAt.lt U0.out))
          have HXU := Lib.hid (HXU.out.below b9)
          have HV := Lib.hid (HV.out.below b9)
          have HR9 := Lib.hid (HR9.out.below b9)
          have Q0 := Lib.hid (RawAt.below Q0.out b9 (RawAt.lt Q0.out))
          have O0 := Lib.hid (RawAt.below O0.out b9 (RawAt.lt O0.out))
          have P0 := Lib.hid (RawAt.below P0.out b9 (RawAt.lt P0.out))
          have HC8 := Lib.hid (HC8.out.below b9)
          have HRP := Lib.hid (HRP.out.below b9)
          have HRQ := Lib.hid (HRQ.out.below b9)
          clear b9
          clear CA
          have pO00 : wj.cell? ⟨bo, 0, none⟩ = some (.int .i64 F1) := RawAt.cell O0.out 0
          have pO01 : wj.cell? ⟨bo, 1, none⟩ = some (.int .i64 T1) := RawAt.cell O0.out 1
          have pP00 : wj.cell? ⟨bp, 0, none⟩ = some (.int .i64 F2) := RawAt.cell P0.out 0
          have pP01 : wj.cell? ⟨bp, 1, none⟩ = some (.int .i64 T2) := RawAt.cell P0.out 1
          go_wp2_with fail
          by_cases ha1 : acr (o.map (cpl (oI l))) T1 = true
          · skip
            have CA : Hid (Calls Tryz.prog 16 #[.slice AP k cP, .int .i64 T1] wj fun e w' => e = .returned (.bool true) ∧ Below wj.heap.size wj w') := Lib.hid (by have := rAcross16 AP k cP (o.map (cpl (oI l))) T1 wj HRP.out HLL.out (by omega); rwa [ha1] at this)
            with_reducible refine (CA.out).mono ?_
            rintro e wk ⟨rfl, b9⟩
            clear pO00 pO01 pP00 pP01
            have HQ := Lib.hid (HQ.out.trans (b9.mono HQ.out.size))
            have T0 := Lib.hid (RawAt.below T0.out b9 (RawAt.lt T0.out))
            have X0 := Lib.hid (RawAt.below X0.out b9 (RawAt.lt X0.out))
            have Z0 := Lib.hid (RawAt.below Z0.out b9 (RawAt.lt Z0.out))
            have U0 := Lib.hid (RawAt.below U0.out b9 (RawAt.lt U0.out))
            have HXU := Lib.hid (HXU.out.below b9)
            have HV := Lib.hid (HV.out.below b9)
            have HR9 := Lib.hid (HR9.out.below b9)
            have Q0 := Lib.hid (RawAt.below Q0.out b9 (RawAt.lt Q0.out))
            have O0 := Lib.hid (RawAt.below O0.out b9 (RawAt.lt O0.out))
            have P0 := Lib.hid (RawAt.below P0.out b9 (RawAt.lt P0.out))
            have HC8 := Lib.hid (HC8.out.below b9)
            have HRP := Lib.hid (HRP.out.below b9)
            have HRQ := Lib.hid (HRQ.out.below b9)
            clear b9
            clear CA
            go_wp2_with fail
            with_reducible refine (C6.out _).mono ?_
            rintro e wz ⟨rfl, bz⟩
            have HZ9 := Lib.hid (HQ.out.trans (bz.mono HQ.out.size))
            clear bz
            go_wp2
            go_ret
            exact ⟨rfl, HZ9.out⟩
          rw [Bool.not_eq_true] at ha1
          have CA : Hid (Calls Tryz.prog 16 #[.slice AP k cP, .int .i64 T1] wj fun e w' => e = .returned (.bool false) ∧ Below wj.heap.size wj w') := Lib.hid (by have := rAcross16 AP k cP (o.map (cpl (oI l))) T1 wj HRP.out HLL.out (by omega); rwa [ha1] at this)
          with_reducible refine (CA.out).mono ?_
          rintro e wk ⟨rfl, b9⟩
          clear pO00 pO01 pP00 pP01
          have HQ := Lib.hid (HQ.out.trans (b9.mono HQ.out.size))
          have T0 := Lib.hid (RawAt.below T0.out b9 (RawAt.lt T0.out))
          have X0 := Lib.hid (RawAt.below X0.out b9 (RawAt.lt X0.out))
          have Z0 := Lib.hid (RawAt.below Z0.out b9 (RawAt.lt Z0.out))
          have U0 := Lib.hid (RawAt.below U0.out b9 (RawAt.lt U0.out))
          have HXU := Lib.hid (HXU.out.below b9)
          have HV := Lib.hid (HV.out.below b9)
          have HR9 := Lib.hid (HR9.out.below b9)
          have Q0 := Lib.hid (RawAt.below Q0.out b9 (RawAt.lt Q0.out))
          have O0 := Lib.hid (RawAt.below O0.out b9 (RawAt.lt O0.out))
          have P0 := Lib.hid (RawAt.below P0.out b9 (RawAt.lt P0.out))
          have HC8 := Lib.hid (HC8.out.below b9)
          have HRP := Lib.hid (HRP.out.below b9)
          have HRQ := Lib.hid (HRQ.out.below b9)
          clear b9
          clear CA
          have pO00 : wk.cell? ⟨bo, 0, none⟩ = some (.int .i64 F1) := RawAt.cell O0.out 0
          have pO01 : wk.cell? ⟨bo, 1, none⟩ = some (.int .i64 T1) := RawAt.cell O0.out 1
          have pP00 : wk.cell? ⟨bp, 0, none⟩ = some (.int .i64 F2) := RawAt.cell P0.out 0
          have pP01 : wk.cell? ⟨bp, 1, none⟩ = some (.int .i64 T2) := RawAt.cell P0.out 1
          go_wp2_with fail
          by_cases ha2 : acr (h2.map (cpl (oI o2))) F2 = true
          · skip
            have CA : Hid (Calls Tryz.prog 16 #[.slice AQ dk cQ, .int .i64 F2] wk fun e w' => e = .returned (.bool true) ∧ Below wk.heap.size wk w') := Lib.hid (by have := rAcross16 AQ dk cQ (h2.map (cpl (oI o2))) F2 wk HRQ.out HLU.out (by omega); rwa [ha2] at this)
            with_reducible refine (CA.out).mono ?_
            rintro e wl ⟨rfl, b9⟩
            clear pO00 pO01 pP00 pP01
            have HQ := Lib.hid (HQ.out.trans (b9.mono HQ.out.size))
            have T0 := Lib.hid (RawAt.below T0.out b9 (RawAt.lt T0.out))
            have X0 := Lib.hid (RawAt.below X0.out b9 (RawAt.lt X0.out))
            have Z0 := Lib.hid (RawAt.below Z0.out b9 (RawAt.lt Z0.out))
            have U0 := Lib.hid (RawAt.below U0.out b9 (RawAt.lt U0.out))
            have HXU := Lib.hid (HXU.out.below b9)
            have HV := Lib.hid (HV.out.below b9)
            have HR9 := Lib.hid (HR9.out.below b9)
            have Q0 := Lib.hid (RawAt.below Q0.out b9 (RawAt.lt Q0.out))
            have O0 := Lib.hid (RawAt.below O0.out b9 (RawAt.lt O0.out))
            have P0 := Lib.hid (RawAt.below P0.out b9 (RawAt.lt P0.out))
            have HC8 := Lib.hid (HC8.out.below b9)
            have HRP := Lib.hid (HRP.out.below b9)
            have HRQ := Lib.hid (HRQ.out.below b9)
            clear b9
            clear CA
            go_wp2_with fail
            with_reducible refine (C6.out _).mono ?_
            rintro e wz ⟨rfl, bz⟩
            have HZ9 := Lib.hid (HQ.out.trans (bz.mono HQ.out.size))
            clear bz
            go_wp2
            go_ret
            exact ⟨rfl, HZ9.out⟩
          rw [Bool.not_eq_true] at ha2
          have CA : Hid (Calls Tryz.prog 16 #[.slice AQ dk cQ, .int .i64 F2] wk fun e w' => e = .returned (.bool false) ∧ Below wk.heap.size wk w') := Lib.hid (by have := rAcross16 AQ dk cQ (h2.map (cpl (oI o2))) F2 wk HRQ.out HLU.out (by omega); rwa [ha2] at this)
          with_reducible refine (CA.out).mono ?_
          rintro e wl ⟨rfl, b9⟩
          clear pO00 pO01 pP00 pP01
          have HQ := Lib.hid (HQ.out.trans (b9.mono HQ.out.size))
          have T0 := Lib.hid (RawAt.below T0.out b9 (RawAt.lt T0.out))
          have X0 := Lib.hid (RawAt.below X0.out b9 (RawAt.lt X0.out))
          have Z0 := Lib.hid (RawAt.below Z0.out b9 (RawAt.lt Z0.out))
          have U0 := Lib.hid (RawAt.below U0.out b9 (RawAt.lt U0.out))
          have HXU := Lib.hid (HXU.out.below b9)
          have HV := Lib.hid (HV.out.below b9)
          have HR9 := Lib.hid (HR9.out.below b9)
          have Q0 := Lib.hid (RawAt.below Q0.out b9 (RawAt.lt Q0.out))
          have O0 := Lib.hid (RawAt.below O0.out b9 (RawAt.lt O0.out))
          have P0 := Lib.hid (RawAt.below P0.out b9 (RawAt.lt P0.out))
          have HC8 := Lib.hid (HC8.out.below b9)
          have HRP := Lib.hid (HRP.out.below b9)
          have HRQ := Lib.hid (HRQ.out.below b9)
          clear b9
          clear CA
          have pO00 : wl.cell? ⟨bo, 0, none⟩ = some (.int .i64 F1) := RawAt.cell O0.out 0
          have pO01 : wl.cell? ⟨bo, 1, none⟩ = some (.int .i64 T1) := RawAt.cell O0.out 1
          have pP00 : wl.cell? ⟨bp, 0, none⟩ = some (.int .i64 F2) := RawAt.cell P0.out 0
          have pP01 : wl.cell? ⟨bp, 1, none⟩ = some (.int .i64 T2) := RawAt.cell P0.out 1
          go_wp2_with fail
          by_cases ha3 : acr (h2.map (cpl (oI o2))) T2 = true
          · skip
            have CA : Hid (Calls Tryz.prog 16 #[.slice AQ dk cQ, .int .i64 T2] wl fun e w' => e = .returned (.bool true) ∧ Below wl.heap.size wl w') := Lib.hid (by have := rAcross16 AQ dk cQ (h2.map (cpl (oI o2))) T2 wl HRQ.out HLU.out (by omega); rwa [ha3] at this)
            with_reducible refine (CA.out).mono ?_
            rintro e wm ⟨rfl, b9⟩
            clear pO00 pO01 pP00 pP01
            have HQ := Lib.hid (HQ.out.trans (b9.mono HQ.out.size))
            have T0 := Lib.hid (RawAt.below T0.out b9 (RawAt.lt T0.out))
            have X0 := Lib.hid (RawAt.below X0.out b9 (RawAt.lt X0.out))
            have Z0 := Lib.hid (RawAt.below Z0.out b9 (RawAt.lt Z0.out))
            have U0 := Lib.hid (RawAt.below U0.out b9 (RawAt.lt U0.out))
            have HXU := Lib.hid (HXU.out.below b9)
            have HV := Lib.hid (HV.out.below b9)
            have HR9 := Lib.hid (HR9.out.below b9)
            have Q0 := Lib.hid (RawAt.below Q0.out b9 (RawAt.lt Q0.out))
            have O0 := Lib.hid (RawAt.below O0.out b9 (RawAt.lt O0.out))
            have P0 := Lib.hid (RawAt.below P0.out b9 (RawAt.lt P0.out))
            have HC8 := Lib.hid (HC8.out.below b9)
            have HRP := Lib.hid (HRP.out.below b9)
            have HRQ := Lib.hid (HRQ.out.below b9)
            clear b9
            clear CA
            go_wp2_with fail
            with_reducible refine (C6.out _).mono ?_
            rintro e wz ⟨rfl, bz⟩
            have HZ9 := Lib.hid (HQ.out.trans (bz.mono HQ.out.size))
            clear bz
            go_wp2
            go_ret
            exact ⟨rfl, HZ9.out⟩
          rw [Bool.not_eq_true] at ha3
          have CA : Hid (Calls Tryz.prog 16 #[.slice AQ dk cQ, .int .i64 T2] wl fun e w' => e = .returned (.bool false) ∧ Below wl.heap.size wl w') := Lib.hid (by have := rAcross16 AQ dk cQ (h2.map (cpl (oI o2))) T2 wl HRQ.out HLU.out (by omega); rwa [ha3] at this)
          with_reducible refine (CA.out).mono ?_
          rintro e wm ⟨rfl, b9⟩
          clear pO00 pO01 pP00 pP01
          have HQ := Lib.hid (HQ.out.trans (b9.mono HQ.out.size))
          have T0 := Lib.hid (RawAt.below T0.out b9 (RawAt.lt T0.out))
          have X0 := Lib.hid (RawAt.below X0.out b9 (RawAt.lt X0.out))
          have Z0 := Lib.hid (RawAt.below Z0.out b9 (RawAt.lt Z0.out))
          have U0 := Lib.hid (RawAt.below U0.out b9 (RawAt.lt U0.out))
          have HXU := Lib.hid (HXU.out.below b9)
          have HV := Lib.hid (HV.out.below b9)
          have HR9 := Lib.hid (HR9.out.below b9)
          have Q0 := Lib.hid (RawAt.below Q0.out b9 (RawAt.lt Q0.out))
          have O0 := Lib.hid (RawAt.below O0.out b9 (RawAt.lt O0.out))
          have P0 := Lib.hid (RawAt.below P0.out b9 (RawAt.lt P0.out))
          have HC8 := Lib.hid (HC8.out.below b9)
          have HRP := Lib.hid (HRP.out.below b9)
          have HRQ := Lib.hid (HRQ.out.below b9)
          clear b9
          clear CA
          have hfit := HFT.out
          exact absurd ⟨hrt, hfit.1, ⟨by omega, by omega, by rw [← HZU.out]; omega⟩, by omega, by rw [← HZU.out]; omega, ha0, ha1, ha2, ha3⟩ hU
      as_aux_lemma =>
        with_reducible refine (CU.out).mono ?_
        rintro e we ⟨(⟨hg, _⟩ | ⟨_, ad, hd, rfl, hCD⟩), b9⟩
        exact absurd hU hg
        clear pO00 pO01 pP00 pP01 pX04
        have HQ := Lib.hid (HQ.out.trans (b9.mono HQ.out.size))
        have T0 := Lib.hid (RawAt.below T0.out b9 (RawAt.lt T0.out))
        have X0 := Lib.hid (RawAt.below X0.out b9 (RawAt.lt X0.out))
        have Z0 := Lib.hid (RawAt.below Z0.out b9 (RawAt.lt Z0.out))
        have U0 := Lib.hid (RawAt.below U0.out b9 (RawAt.lt U0.out))
        have HXU := Lib.hid (HXU.out.below b9)
        have HV := Lib.hid (HV.out.below b9)
        have HR9 := Lib.hid (HR9.out.below b9)
        have Q0 := Lib.hid (RawAt.below Q0.out b9 (RawAt.lt Q0.out))
        have O0 := Lib.hid (RawAt.below O0.out b9 (RawAt.lt O0.out))
        have P0 := Lib.hid (RawAt.below P0.out b9 (RawAt.lt P0.out))
        have HC8 := Lib.hid (HC8.out.below b9)
        clear b9
        have HCD := Lib.hid hCD
        clear CU hCD
        have HUU := Lib.hid hU
        have hrt := hU.rt
        have HFT : Hid ((0 ≤ F1 ∧ F1 ≤ T1 ∧ T1 ≤ zI N l) ∧ F2 = F1 ∧ F2 ≤ T2 ∧ T2 ≤ zI N o2 ∧ (zI N l : Int) - T1 = zI N o2 - T2) := Lib.hid (by obtain ⟨_, us1, us2, ue1, ue2, _, _, _, _⟩ := hU; rw [← HZU.out] at us2 ue2; exact ⟨us1, by omega, by omega, by omega, by omega⟩)
        obtain ⟨ha0, ha1, ha2, ha3⟩ : acr (o.map (cpl (oI l))) F1 = false ∧ acr (o.map (cpl (oI l))) T1 = false ∧ acr (h2.map (cpl (oI o2))) F2 = false ∧ acr (h2.map (cpl (oI o2))) T2 = false := ⟨hU.a1, hU.a2, hU.a3, hU.a4⟩
        clear hU
        have pT00 : we.cell? ⟨w.heap.size, 0, none⟩ = some (.int .i64 N) := RawAt.cell T0.out 0
        have pX04 : we.cell? ⟨w.heap.size + 1, 4, none⟩ = some (.slice DB dk dc) := RawAt.cell X0.out 4
        go_wp2_with fail
        with_reducible refine (CRH.out true ⟨fun _ => hrt, fun _ => rfl⟩ _ HQ.out d3).mono ?_
        rintro e wf ⟨rfl, b9⟩
        clear pT00 pX04
        have HQ := Lib.hid (HQ.out.trans (b9.mono HQ.out.size))
        have T0 := Lib.hid (RawAt.below T0.out b9 (RawAt.lt T0.out))
        have X0 := Lib.hid (RawAt.below X0.out b9 (RawAt.lt X0.out))
        have Z0 := Lib.hid (RawAt.below Z0.out b9 (RawAt.lt Z0.out))
        have U0 := Lib.hid (RawAt.below U0.out b9 (RawAt.lt U0.out))
        have HXU := Lib.hid (HXU.out.below b9)
        have HV := Lib.hid (HV.out.below b9)
        have HR9 := Lib.hid (HR9.out.below b9)
        have Q0 := Lib.hid (RawAt.below Q0.out b9 (RawAt.lt Q0.out))
        have O0 := Lib.hid (RawAt.below O0.out b9 (RawAt.lt O0.out))
        have P0 := Lib.hid (RawAt.below P0.out b9 (RawAt.lt P0.out))
        have HC8 := Lib.hid (HC8.out.below b9)
        have HCD := Lib.hid (HCD.out.below b9)
        clear b9
        have CF := Lib.hid fun (W : World) => rFits14g_any (zI N l) (zI N o2) F1 T1 F2 T2 W (by omega) true ⟨fun _ => HFT.out, fun _ => rfl⟩
        go_upto_region 17 with fail
        have CS1 := Lib.hid fun (W : World) (hW : Below w.heap.size w W) => size16_any d (HX.out W hW)
        have CS2 := Lib.hid fun (W : World) (hW : Below wf.heap.size wf W) => size16_any dc (HXU.out.below hW)
        have hW : Below wf.heap.size wf wf.drew := (Below.refl _ _).drew
        have MK : Hid (∀ V : World, Below wf.heap.size wf V → (fun V => V.cell? ⟨w.heap.size, 0, none⟩ = some (.int .i64 N) ∧ V.cell? ⟨w.heap.size, 1, none⟩ = some (.slice A m c) ∧ V.cell? ⟨w.heap.size, 2, none⟩ = some (.slice B k d) ∧ V.cell? ⟨bu, 0, none⟩ = some (.int .i64 N) ∧ V.cell? ⟨bu, 1, none⟩ = some (.slice A3 m3 c3) ∧ V.cell? ⟨bu, 2, none⟩ = some (.slice DB dk dc) ∧ V.cell? ⟨bo, 0, none⟩ = some (.int .i64 F1) ∧ V.cell? ⟨bo, 1, none⟩ = some (.int .i64 T1) ∧ V.cell? ⟨bp, 0, none⟩ = some (.int .i64 F2) ∧ V.cell? ⟨bp, 1, none⟩ = some (.int .i64 T2)) V) := Lib.hid fun V hV => ⟨RawAt.cell (RawAt.below T0.out hV (RawAt.lt T0.out)) 0, RawAt.cell (RawAt.below T0.out hV (RawAt.lt T0.out)) 1, RawAt.cell (RawAt.below T0.out hV (RawAt.lt T0.out)) 2, RawAt.cell (RawAt.below U0.out hV (RawAt.lt U0.out)) 0, RawAt.cell (RawAt.below U0.out hV (RawAt.lt U0.out)) 1, RawAt.cell (RawAt.below U0.out hV (RawAt.lt U0.out)) 2, RawAt.cell (RawAt.below O0.out hV (RawAt.lt O0.out)) 0, RawAt.cell (RawAt.below O0.out hV (RawAt.lt O0.out)) 1, RawAt.cell (RawAt.below P0.out hV (RawAt.lt P0.out)) 0, RawAt.cell (RawAt.below P0.out hV (RawAt.lt P0.out)) 1⟩
        refine wp_region_noPanic ?_
        refine wp_region_held_drew (S := (fun V => V.cell? ⟨w.heap.size, 0, none⟩ = some (.int .i64 N) ∧ V.cell? ⟨w.heap.size, 1, none⟩ = some (.slice A m c) ∧ V.cell? ⟨w.heap.size, 2, none⟩ = some (.slice B k d) ∧ V.cell? ⟨bu, 0, none⟩ = some (.int .i64 N) ∧ V.cell? ⟨bu, 1, none⟩ = some (.slice A3 m3 c3) ∧ V.cell? ⟨bu, 2, none⟩ = some (.slice DB dk dc) ∧ V.cell? ⟨bo, 0, none⟩ = some (.int .i64 F1) ∧ V.cell? ⟨bo, 1, none⟩ = some (.int .i64 T1) ∧ V.cell? ⟨bp, 0, none⟩ = some (.int .i64 F2) ∧ V.cell? ⟨bp, 1, none⟩ = some (.int .i64 T2))) (by kernel_rfl) (MK.out _ hW) (fun hHeld => ?_)
        refine wpAnyH_take (i := 0) (v := ?_) rfl (by kernel_rfl) (by kernel_rfl) (by kernel_rfl) (fun _ _ _ h => h) (Or.inl ⟨by rfl, ?_⟩) hHeld ?_
        rotate_left
        · intro w hSw; (try dsimp only at hSw); go_simp; try with_reducible rfl
        go_simp
        refine wpAnyH_take (i := 2) (v := ?_) rfl (by kernel_rfl) (by kernel_rfl) (by kernel_rfl) (fun _ _ _ h => h) (Or.inl ⟨by rfl, ?_⟩) hHeld ?_
        rotate_left
        · intro w hSw; (try dsimp only at hSw); go_simp; try with_reducible rfl
        go_simp
        refine wpAnyH_take (i := 4) (v := ?_) rfl (by kernel_rfl) (by kernel_rfl) (by kernel_rfl) (fun _ _ _ h => h) (Or.inl ⟨by rfl, ?_⟩) hHeld ?_
        rotate_left
        · intro w hSw; (try dsimp only at hSw); go_simp; try with_reducible rfl
        go_simp
        refine wpAnyH_take (i := 5) (v := ?_) rfl (by kernel_rfl) (by kernel_rfl) (by kernel_rfl) (fun _ _ _ h => h) (Or.inl ⟨by rfl, ?_⟩) hHeld ?_
        rotate_left
        · intro w hSw; (try dsimp only at hSw); go_simp; try with_reducible rfl
        go_simp
        refine wpAnyH_take (i := 6) (v := ?_) rfl (by kernel_rfl) (by kernel_rfl) (by kernel_rfl) (fun _ _ _ h => h) (Or.inl ⟨by rfl, ?_⟩) hHeld ?_
        rotate_left
        · intro w hSw; (try dsimp only at hSw); go_simp; try with_reducible rfl
        go_simp
        refine wpAnyH_ready (rs := [1]) (by kernel_rfl) (by simp) ?_
        refine AllReadyH.cons rfl (fun K hK => ?_) ?_
        rotate_left
        · exact AllReadyH.nil
        go_simp
        go_wp2_with (first | (go_at_call 14; first | ((with_reducible refine (CS1.out _ (HQ.out.trans (hW.mono HQ.out.size))).mono ?_); rintro e w6 ⟨rfl, b9⟩; have hW := hW.trans (b9.mono hW.size)) | ((with_reducible refine (CS2.out _ hW).mono ?_); rintro e w6 ⟨rfl, b9⟩; have hW := hW.trans (b9.mono hW.size))) | (go_at_call 13; ((with_reducible refine (CF.out _).mono ?_); rintro e w6 ⟨rfl, b9⟩; have hW := hW.trans (b9.mono hW.size))))
        refine hK.out _ _ (by with_reducible exact MK.out _ hW) (fun hHeld => ?_)
        clear hK K
        go_simp
        refine wpAnyH_ready (rs := [3]) (by kernel_rfl) (by simp) ?_
        refine AllReadyH.cons rfl (fun K hK => ?_) ?_
        rotate_left
        · exact AllReadyH.nil
        go_simp
        go_wp2_with (first | (go_at_call 14; first | ((with_reducible refine (CS1.out _ (HQ.out.trans (hW.mono HQ.out.size))).mono ?_); rintro e w6 ⟨rfl, b9⟩; have hW := hW.trans (b9.mono hW.size)) | ((with_reducible refine (CS2.out _ hW).mono ?_); rintro e w6 ⟨rfl, b9⟩; have hW := hW.trans (b9.mono hW.size))) | (go_at_call 13; ((with_reducible refine (CF.out _).mono ?_); rintro e w6 ⟨rfl, b9⟩; have hW := hW.trans (b9.mono hW.size))))
        refine hK.out _ _ (by with_reducible exact MK.out _ hW) (fun hHeld => ?_)
        clear hK K
        go_simp
        refine wpAnyH_ready (rs := [7]) (by kernel_rfl) (by simp) ?_
        refine AllReadyH.cons rfl (fun K hK => ?_) ?_
        rotate_left
        · exact AllReadyH.nil
        go_simp
        go_wp2_with (first | (go_at_call 14; first | ((with_reducible refine (CS1.out _ (HQ.out.trans (hW.mono HQ.out.size))).mono ?_); rintro e w6 ⟨rfl, b9⟩; have hW := hW.trans (b9.mono hW.size)) | ((with_reducible refine (CS2.out _ hW).mono ?_); rintro e w6 ⟨rfl, b9⟩; have hW := hW.trans (b9.mono hW.size))) | (go_at_call 13; ((with_reducible refine (CF.out _).mono ?_); rintro e w6 ⟨rfl, b9⟩; have hW := hW.trans (b9.mono hW.size))))
        refine hK.out _ _ (by with_reducible exact MK.out _ hW) (fun hHeld => ?_)
        clear hK K
        go_simp
        refine wpAnyH_take (i := 8) (v := ?_) rfl (by kernel_rfl) (by kernel_rfl) (by kernel_rfl) (fun _ _ _ h => h) (Or.inl ⟨by rfl, ?_⟩) hHeld ?_
        rotate_left
        · intro w hSw; (try dsimp only at hSw); go_simp; try with_reducible rfl
        go_simp
        refine wpAnyH_done (by kernel_rfl) ?_ _
        refine NoPanic.normal ?_
        obtain ⟨wg, hwN⟩ : ∃ W, W = w6 := ⟨_, rfl⟩
        rw [← hwN] at hW ⊢
        clear hwN
        have b9 := hW
        clear MK CS1 CS2 CF hW
        have HQ := Lib.hid (HQ.out.trans (b9.mono HQ.out.size))
        have T0 := Lib.hid (RawAt.below T0.out b9 (RawAt.lt T0.out))
        have X0 := Lib.hid (RawAt.below X0.out b9 (RawAt.lt X0.out))
        have Z0 := Lib.hid (RawAt.below Z0.out b9 (RawAt.lt Z0.out))
        have U0 := Lib.hid (RawAt.below U0.out b9 (RawAt.lt U0.out))
        have HXU := Lib.hid (HXU.out.below b9)
        have HV := Lib.hid (HV.out.below b9)
        have HR9 := Lib.hid (HR9.out.below b9)
        have Q0 := Lib.hid (RawAt.below Q0.out b9 (RawAt.lt Q0.out))
        have O0 := Lib.hid (RawAt.below O0.out b9 (RawAt.lt O0.out))
        have P0 := Lib.hid (RawAt.below P0.out b9 (RawAt.lt P0.out))
        have HC8 := Lib.hid (HC8.out.below b9)
        have HCD := Lib.hid (HCD.out.below b9)
        clear b9
        have CP := Lib.hid (places16_any d (HX.out _ HQ.out) hr)
        have pT00 : wg.cell? ⟨w.heap.size, 0, none⟩ = some (.int .i64 N) := RawAt.cell T0.out 0
        have pT01 : wg.cell? ⟨w.heap.size, 1, none⟩ = some (.slice A m c) := RawAt.cell T0.out 1
        have pT02 : wg.cell? ⟨w.heap.size, 2, none⟩ = some (.slice B k d) := RawAt.cell T0.out 2
        go_wp2_with fail
        with_reducible refine (CP.out).mono ?_
        rintro e wh ⟨vP, rfl, hown, b9⟩
        clear pT00 pT01 pT02
        have HQ := Lib.hid (HQ.out.trans (b9.mono HQ.out.size))
        have T0 := Lib.hid (RawAt.below T0.out b9 (RawAt.lt T0.out))
        have X0 := Lib.hid (RawAt.below X0.out b9 (RawAt.lt X0.out))
        have Z0 := Lib.hid (RawAt.below Z0.out b9 (RawAt.lt Z0.out))
        have U0 := Lib.hid (RawAt.below U0.out b9 (RawAt.lt U0.out))
        have HXU := Lib.hid (HXU.out.below b9)
        have HV := Lib.hid (HV.out.below b9)
        have HR9 := Lib.hid (HR9.out.below b9)
        have Q0 := Lib.hid (RawAt.below Q0.out b9 (RawAt.lt Q0.out))
        have O0 := Lib.hid (RawAt.below O0.out b9 (RawAt.lt O0.out))
        have P0 := Lib.hid (RawAt.below P0.out b9 (RawAt.lt P0.out))
        have HC8 := Lib.hid (HC8.out.below b9)
        have HCD := Lib.hid (HCD.out.below b9)
        clear b9
        obtain ⟨AP, cP, rfl, hRP, hlP, _⟩ := rows_of_own wencS_len (by omega) hown
        have HRP := Lib.hid hRP
        clear hown hRP hlP CP
        have CP := Lib.hid (places16_any dc HXU.out hrt)
        have pU00 : wh.cell? ⟨bu, 0, none⟩ = some (.int .i64 N) := RawAt.cell U0.out 0
        have pU01 : wh.cell? ⟨bu, 1, none⟩ = some (.slice A3 m3 c3) := RawAt.cell U0.out 1
        have pU02 : wh.cell? ⟨bu, 2, none⟩ = some (.slice DB dk dc) := RawAt.cell U0.out 2
        go_wp2_with fail
        with_reducible refine (CP.out).mono ?_
        rintro e wi ⟨vP, rfl, hown, b9⟩
        clear pU00 pU01 pU02
        have HQ := Lib.hid (HQ.out.trans (b9.mono HQ.out.size))
        have T0 := Lib.hid (RawAt.below T0.out b9 (RawAt.lt T0.out))
        have X0 := Lib.hid (RawAt.below X0.out b9 (RawAt.lt X0.out))
        have Z0 := Lib.hid (RawAt.below Z0.out b9 (RawAt.lt Z0.out))
        have U0 := Lib.hid (RawAt.below U0.out b9 (RawAt.lt U0.out))
        have HXU := Lib.hid (HXU.out.below b9)
        have HV := Lib.hid (HV.out.below b9)
        have HR9 := Lib.hid (HR9.out.below b9)
        have Q0 := Lib.hid (RawAt.below Q0.out b9 (RawAt.lt Q0.out))
        have O0 := Lib.hid (RawAt.below O0.out b9 (RawAt.lt O0.out))
        have P0 := Lib.hid (RawAt.below P0.out b9 (RawAt.lt P0.out))
        have HC8 := Lib.hid (HC8.out.below b9)
        have HCD := Lib.hid (HCD.out.below b9)
        have HRP := Lib.hid (HRP.out.below b9)
        clear b9
        obtain ⟨AQ, cQ, rfl, hRP, hlP, _⟩ := rows_of_own wencS_len (by omega) hown
        have HRQ := Lib.hid hRP
        clear hown hRP hlP CP
        as_aux_lemma =>
          have pO00 : wi.cell? ⟨bo, 0, none⟩ = some (.int .i64 F1) := RawAt.cell O0.out 0
          have pO01 : wi.cell? ⟨bo, 1, none⟩ = some (.int .i64 T1) := RawAt.cell O0.out 1
          have pP00 : wi.cell? ⟨bp, 0, none⟩ = some (.int .i64 F2) := RawAt.cell P0.out 0
          have pP01 : wi.cell? ⟨bp, 1, none⟩ = some (.int .i64 T2) := RawAt.cell P0.out 1
          have CA : Hid (Calls Tryz.prog 16 #[.slice AP k cP, .int .i64 F1] wi fun e w' => e = .returned (.bool false) ∧ Below wi.heap.size wi w') := Lib.hid (by have := rAcross16 AP k cP (o.map (cpl (oI l))) F1 wi HRP.out HLL.out (by omega); rwa [ha0] at this)
          go_wp2_with fail
          with_reducible refine (CA.out).mono ?_
          rintro e wj ⟨rfl, b9⟩
          clear pO00 pO01 pP00 pP01
          have HQ := Lib.hid (HQ.out.trans (b9.mono HQ.out.size))
          have T0 := Lib.hid (RawAt.below T0.out b9 (RawAt.lt T0.out))
          have X0 := Lib.hid (RawAt.below X0.out b9 (RawAt.lt X0.out))
          have Z0 := Lib.hid (RawAt.below Z0.out b9 (RawAt.lt Z0.out))
          have U0 := Lib.hid (RawAt.below U0.out b9 (RawAt.lt U0.out))
          have HXU := Lib.hid (HXU.out.below b9)
          have HV := Lib.hid (HV.out.below b9)
          have HR9 := Lib.hid (HR9.out.below b9)
          have Q0 := Lib.hid (RawAt.below Q0.out b9 (RawAt.lt Q0.out))
          have O0 := Lib.hid (RawAt.below O0.out b9 (RawAt.lt O0.out))
          have P0 := Lib.hid (RawAt.below P0.out b9 (RawAt.lt P0.out))
          have HC8 := Lib.hid (HC8.out.below b9)
          have HCD := Lib.hid (HCD.out.below b9)
          have HRP := Lib.hid (HRP.out.below b9)
          have HRQ := Lib.hid (HRQ.out.below b9)
          clear b9
          clear CA
          have pO00 : wj.cell? ⟨bo, 0, none⟩ = some (.int .i64 F1) := RawAt.cell O0.out 0
          have pO01 : wj.cell? ⟨bo, 1, none⟩ = some (.int .i64 T1) := RawAt.cell O0.out 1
          have pP00 : wj.cell? ⟨bp, 0, none⟩ = some (.int .i64 F2) := RawAt.cell P0.out 0
          have pP01 : wj.cell? ⟨bp, 1, none⟩ = some (.int .i64 T2) := RawAt.cell P0.out 1
          have CA : Hid (Calls Tryz.prog 16 #[.slice AP k cP, .int .i64 T1] wj fun e w' => e = .returned (.bool false) ∧ Below wj.heap.size wj w') := Lib.hid (by have := rAcross16 AP k cP (o.map (cpl (oI l))) T1 wj HRP.out HLL.out (by omega); rwa [ha1] at this)
          go_wp2_with fail
          with_reducible refine (CA.out).mono ?_
          rintro e wk ⟨rfl, b9⟩
          clear pO00 pO01 pP00 pP01
          have HQ := Lib.hid (HQ.out.trans (b9.mono HQ.out.size))
          have T0 := Lib.hid (RawAt.below T0.out b9 (RawAt.lt T0.out))
          have X0 := Lib.hid (RawAt.below X0.out b9 (RawAt.lt X0.out))
          have Z0 := Lib.hid (RawAt.below Z0.out b9 (RawAt.lt Z0.out))
          have U0 := Lib.hid (RawAt.below U0.out b9 (RawAt.lt U0.out))
          have HXU := Lib.hid (HXU.out.below b9)
          have HV := Lib.hid (HV.out.below b9)
          have HR9 := Lib.hid (HR9.out.below b9)
          have Q0 := Lib.hid (RawAt.below Q0.out b9 (RawAt.lt Q0.out))
          have O0 := Lib.hid (RawAt.below O0.out b9 (RawAt.lt O0.out))
          have P0 := Lib.hid (RawAt.below P0.out b9 (RawAt.lt P0.out))
          have HC8 := Lib.hid (HC8.out.below b9)
          have HCD := Lib.hid (HCD.out.below b9)
          have HRP := Lib.hid (HRP.out.below b9)
          have HRQ := Lib.hid (HRQ.out.below b9)
          clear b9
          clear CA
          have pO00 : wk.cell? ⟨bo, 0, none⟩ = some (.int .i64 F1) := RawAt.cell O0.out 0
          have pO01 : wk.cell? ⟨bo, 1, none⟩ = some (.int .i64 T1) := RawAt.cell O0.out 1
          have pP00 : wk.cell? ⟨bp, 0, none⟩ = some (.int .i64 F2) := RawAt.cell P0.out 0
          have pP01 : wk.cell? ⟨bp, 1, none⟩ = some (.int .i64 T2) := RawAt.cell P0.out 1
          have CA : Hid (Calls Tryz.prog 16 #[.slice AQ dk cQ, .int .i64 F2] wk fun e w' => e = .returned (.bool false) ∧ Below wk.heap.size wk w') := Lib.hid (by have := rAcross16 AQ dk cQ (h2.map (cpl (oI o2))) F2 wk HRQ.out HLU.out (by omega); rwa [ha2] at this)
          go_wp2_with fail
          with_reducible refine (CA.out).mono ?_
          rintro e wl ⟨rfl, b9⟩
          clear pO00 pO01 pP00 pP01
          have HQ := Lib.hid (HQ.out.trans (b9.mono HQ.out.size))
          have T0 := Lib.hid (RawAt.below T0.out b9 (RawAt.lt T0.out))
          have X0 := Lib.hid (RawAt.below X0.out b9 (RawAt.lt X0.out))
          have Z0 := Lib.hid (RawAt.below Z0.out b9 (RawAt.lt Z0.out))
          have U0 := Lib.hid (RawAt.below U0.out b9 (RawAt.lt U0.out))
          have HXU := Lib.hid (HXU.out.below b9)
          have HV := Lib.hid (HV.out.below b9)
          have HR9 := Lib.hid (HR9.out.below b9)
          have Q0 := Lib.hid (RawAt.below Q0.out b9 (RawAt.lt Q0.out))
          have O0 := Lib.hid (RawAt.below O0.out b9 (RawAt.lt O0.out))
          have P0 := Lib.hid (RawAt.below P0.out b9 (RawAt.lt P0.out))
          have HC8 := Lib.hid (HC8.out.below b9)
          have HCD := Lib.hid (HCD.out.below b9)
          have HRP := Lib.hid (HRP.out.below b9)
          have HRQ := Lib.hid (HRQ.out.below b9)
          clear b9
          clear CA
          have pO00 : wl.cell? ⟨bo, 0, none⟩ = some (.int .i64 F1) := RawAt.cell O0.out 0
          have pO01 : wl.cell? ⟨bo, 1, none⟩ = some (.int .i64 T1) := RawAt.cell O0.out 1
          have pP00 : wl.cell? ⟨bp, 0, none⟩ = some (.int .i64 F2) := RawAt.cell P0.out 0
          have pP01 : wl.cell? ⟨bp, 1, none⟩ = some (.int .i64 T2) := RawAt.cell P0.out 1
          have CA : Hid (Calls Tryz.prog 16 #[.slice AQ dk cQ, .int .i64 T2] wl fun e w' => e = .returned (.bool false) ∧ Below wl.heap.size wl w') := Lib.hid (by have := rAcross16 AQ dk cQ (h2.map (cpl (oI o2))) T2 wl HRQ.out HLU.out (by omega); rwa [ha3] at this)
          go_wp2_with fail
          with_reducible refine (CA.out).mono ?_
          rintro e wm ⟨rfl, b9⟩
          clear pO00 pO01 pP00 pP01
          have HQ := Lib.hid (HQ.out.trans (b9.mono HQ.out.size))
          have T0 := Lib.hid (RawAt.below T0.out b9 (RawAt.lt T0.out))
          have X0 := Lib.hid (RawAt.below X0.out b9 (RawAt.lt X0.out))
          have Z0 := Lib.hid (RawAt.below Z0.out b9 (RawAt.lt Z0.out))
          have U0 := Lib.hid (RawAt.below U0.out b9 (RawAt.lt U0.out))
          have HXU := Lib.hid (HXU.out.below b9)
          have HV := Lib.hid (HV.out.below b9)
          have HR9 := Lib.hid (HR9.out.below b9)
          have Q0 := Lib.hid (RawAt.below Q0.out b9 (RawAt.lt Q0.out))
          have O0 := Lib.hid (RawAt.below O0.out b9 (RawAt.lt O0.out))
          have P0 := Lib.hid (RawAt.below P0.out b9 (RawAt.lt P0.out))
          have HC8 := Lib.hid (HC8.out.below b9)
          have HCD := Lib.hid (HCD.out.below b9)
          have HRP := Lib.hid (HRP.out.below b9)
          have HRQ := Lib.hid (HRQ.out.below b9)
          clear b9
          clear CA
          have CI := Lib.hid (is16_yes d (HX.out _ HQ.out) hr HC8.out)
          have pT00 : wm.cell? ⟨w.heap.size, 0, none⟩ = some (.int .i64 N) := RawAt.cell T0.out 0
          have pT01 : wm.cell? ⟨w.heap.size, 1, none⟩ = some (.slice A m c) := RawAt.cell T0.out 1
          have pT02 : wm.cell? ⟨w.heap.size, 2, none⟩ = some (.slice B k d) := RawAt.cell T0.out 2
          go_wp2_with fail
          with_reducible refine (CI.out).mono ?_
          rintro e wn ⟨rfl, b9⟩
          clear pT00 pT01 pT02
          have HQ := Lib.hid (HQ.out.trans (b9.mono HQ.out.size))
          have T0 := Lib.hid (RawAt.below T0.out b9 (RawAt.lt T0.out))
          have X0 := Lib.hid (RawAt.below X0.out b9 (RawAt.lt X0.out))
          have Z0 := Lib.hid (RawAt.below Z0.out b9 (RawAt.lt Z0.out))
          have U0 := Lib.hid (RawAt.below U0.out b9 (RawAt.lt U0.out))
          have HXU := Lib.hid (HXU.out.below b9)
          have HV := Lib.hid (HV.out.below b9)
          have HR9 := Lib.hid (HR9.out.below b9)
          have Q0 := Lib.hid (RawAt.below Q0.out b9 (RawAt.lt Q0.out))
          have O0 := Lib.hid (RawAt.below O0.out b9 (RawAt.lt O0.out))
          have P0 := Lib.hid (RawAt.below P0.out b9 (RawAt.lt P0.out))
          have HC8 := Lib.hid (HC8.out.below b9)
          have HCD := Lib.hid (HCD.out.below b9)
          have HRP := Lib.hid (HRP.out.below b9)
          have HRQ := Lib.hid (HRQ.out.below b9)
          clear b9
          clear CI
          as_aux_lemma =>
            obtain ⟨rb, hrb⟩ : ∃ r : Bool, (r = true ↔ sbes f tt (oI l) = sbes f tt o2) := by
              by_cases q : sbes f tt (oI l) = sbes f tt o2
              · exact ⟨true, fun _ => q, fun _ => rfl⟩
              · exact ⟨false, fun h => absurd h (by simp), fun h => absurd h q⟩
            have CB := Lib.hid (lBeside_any A9 m c9 (oI l) A3 m3 c3 o2 f tt wn HR9.out HXU.out.hA HOL.out HL3.out (by omega) (by omega) rb hrb)
            clear hrb
            have pQ01 : wn.cell? ⟨bq, 1, none⟩ = some (.slice A9 m c9) := RawAt.cell Q0.out 1
            have pZ01 : wn.cell? ⟨bz, 1, none⟩ = some (.slice A3 m3 c3) := RawAt.cell Z0.out 1
            have pX00 : wn.cell? ⟨w.heap.size + 1, 0, none⟩ = some (.int .i64 f) := RawAt.cell X0.out 0
            have pX01 : wn.cell? ⟨w.heap.size + 1, 1, none⟩ = some (.int .i64 tt) := RawAt.cell X0.out 1
            go_wp2_with fail
            with_reducible refine (CB.out).mono ?_
            rintro e wo ⟨rfl, b9⟩
            clear pQ01 pZ01 pX00 pX01
            have HQ := Lib.hid (HQ.out.trans (b9.mono HQ.out.size))
            have T0 := Lib.hid (RawAt.below T0.out b9 (RawAt.lt T0.out))
            have X0 := Lib.hid (RawAt.below X0.out b9 (RawAt.lt X0.out))
            have Z0 := Lib.hid (RawAt.below Z0.out b9 (RawAt.lt Z0.out))
            have U0 := Lib.hid (RawAt.below U0.out b9 (RawAt.lt U0.out))
            have HXU := Lib.hid (HXU.out.below b9)
            have HV := Lib.hid (HV.out.below b9)
            have HR9 := Lib.hid (HR9.out.below b9)
            have Q0 := Lib.hid (RawAt.below Q0.out b9 (RawAt.lt Q0.out))
            have O0 := Lib.hid (RawAt.below O0.out b9 (RawAt.lt O0.out))
            have P0 := Lib.hid (RawAt.below P0.out b9 (RawAt.lt P0.out))
            have HC8 := Lib.hid (HC8.out.below b9)
            have HCD := Lib.hid (HCD.out.below b9)
            have HRP := Lib.hid (HRP.out.below b9)
            have HRQ := Lib.hid (HRQ.out.below b9)
            clear b9
            clear CB
            cases rb
            · skip
              go_wp2_with fail
              with_reducible refine (C6.out _).mono ?_
              rintro e wz ⟨rfl, bz⟩
              have HZ9 := Lib.hid (HQ.out.trans (bz.mono HQ.out.size))
              clear bz
              go_wp2
              go_ret
              exact ⟨rfl, HZ9.out⟩
            have hcu := HXU.out.cr hrt
            have hft := HFT.out
            have CO := Lib.hid (lOutside_any AP k cP (o.map (cpl (oI l))) AQ dk cQ (h2.map (cpl (oI o2))) F1 T1 F2 T2 wo HRP.out HRQ.out HLL.out HLU.out (by omega) (by omega) (by omega) (by omega) (fun x hx => by have q1 := cr_ge _ _ _ hcu x hx; have q2 := cr_hi _ _ _ hcu x hx; omega))
            have pO00 : wo.cell? ⟨bo, 0, none⟩ = some (.int .i64 F1) := RawAt.cell O0.out 0
            have pO01 : wo.cell? ⟨bo, 1, none⟩ = some (.int .i64 T1) := RawAt.cell O0.out 1
            have pP00 : wo.cell? ⟨bp, 0, none⟩ = some (.int .i64 F2) := RawAt.cell P0.out 0
            have pP01 : wo.cell? ⟨bp, 1, none⟩ = some (.int .i64 T2) := RawAt.cell P0.out 1
            clear hft
            go_wp2_with fail
            by_cases hout : outX F1 T1 (o.map (cpl (oI l))) = outY F2 T2 (T2 - T1) (h2.map (cpl (oI o2)))
            rotate_left
            · skip
              rw [show decide (outX F1 T1 (o.map (cpl (oI l))) = outY F2 T2 (T2 - T1) (h2.map (cpl (oI o2)))) = false from decide_eq_false hout] at CO
              with_reducible refine (CO.out).mono ?_
              rintro e wp ⟨rfl, b9⟩
              clear pO00 pO01 pP00 pP01
              have HQ := Lib.hid (HQ.out.trans (b9.mono HQ.out.size))
              have T0 := Lib.hid (RawAt.below T0.out b9 (RawAt.lt T0.out))
              have X0 := Lib.hid (RawAt.below X0.out b9 (RawAt.lt X0.out))
              have Z0 := Lib.hid (RawAt.below Z0.out b9 (RawAt.lt Z0.out))
              have U0 := Lib.hid (RawAt.below U0.out b9 (RawAt.lt U0.out))
              have HXU := Lib.hid (HXU.out.below b9)
              have HV := Lib.hid (HV.out.below b9)
              have HR9 := Lib.hid (HR9.out.below b9)
              have Q0 := Lib.hid (RawAt.below Q0.out b9 (RawAt.lt Q0.out))
              have O0 := Lib.hid (RawAt.below O0.out b9 (RawAt.lt O0.out))
              have P0 := Lib.hid (RawAt.below P0.out b9 (RawAt.lt P0.out))
              have HC8 := Lib.hid (HC8.out.below b9)
              have HCD := Lib.hid (HCD.out.below b9)
              have HRP := Lib.hid (HRP.out.below b9)
              have HRQ := Lib.hid (HRQ.out.below b9)
              clear b9
              clear CO
              go_wp2_with fail
              with_reducible refine (C6.out _).mono ?_
              rintro e wz ⟨rfl, bz⟩
              have HZ9 := Lib.hid (HQ.out.trans (bz.mono HQ.out.size))
              clear bz
              go_wp2
              go_ret
              exact ⟨rfl, HZ9.out⟩
            rw [show decide (outX F1 T1 (o.map (cpl (oI l))) = outY F2 T2 (T2 - T1) (h2.map (cpl (oI o2)))) = true from decide_eq_true hout] at CO
            with_reducible refine (CO.out).mono ?_
            rintro e wp ⟨rfl, b9⟩
            clear pO00 pO01 pP00 pP01
            have HQ := Lib.hid (HQ.out.trans (b9.mono HQ.out.size))
            have T0 := Lib.hid (RawAt.below T0.out b9 (RawAt.lt T0.out))
            have X0 := Lib.hid (RawAt.below X0.out b9 (RawAt.lt X0.out))
            have Z0 := Lib.hid (RawAt.below Z0.out b9 (RawAt.lt Z0.out))
            have U0 := Lib.hid (RawAt.below U0.out b9 (RawAt.lt U0.out))
            have HXU := Lib.hid (HXU.out.below b9)
            have HV := Lib.hid (HV.out.below b9)
            have HR9 := Lib.hid (HR9.out.below b9)
            have Q0 := Lib.hid (RawAt.below Q0.out b9 (RawAt.lt Q0.out))
            have O0 := Lib.hid (RawAt.below O0.out b9 (RawAt.lt O0.out))
            have P0 := Lib.hid (RawAt.below P0.out b9 (RawAt.lt P0.out))
            have HC8 := Lib.hid (HC8.out.below b9)
            have HCD := Lib.hid (HCD.out.below b9)
            have HRP := Lib.hid (HRP.out.below b9)
            have HRQ := Lib.hid (HRQ.out.below b9)
            clear b9
            clear CO
            obtain ⟨_, us1, us2, ue1, ue2, _, _, _, _⟩ := HUU.out
            rw [← HZU.out] at us2 ue2
            have hui := upd_is HCR.out hcu us1 us2 ue1 ue2 ha0 ha1 ha2 ha3 hout
            clear us1 us2 ue1 ue2 hout
            have HCE := HCD.out
            rw [hui] at HCE
            have CI := Lib.hid (is16_yes dc HXU.out hrt HCE)
            have pU00 : wp.cell? ⟨bu, 0, none⟩ = some (.int .i64 N) := RawAt.cell U0.out 0
            have pU01 : wp.cell? ⟨bu, 1, none⟩ = some (.slice A3 m3 c3) := RawAt.cell U0.out 1
            have pU02 : wp.cell? ⟨bu, 2, none⟩ = some (.slice DB dk dc) := RawAt.cell U0.out 2
            go_wp2_with fail
            with_reducible refine (CI.out).mono ?_
            rintro e wq ⟨rfl, b9⟩
            clear pU00 pU01 pU02
            have HQ := Lib.hid (HQ.out.trans (b9.mono HQ.out.size))
            have T0 := Lib.hid (RawAt.below T0.out b9 (RawAt.lt T0.out))
            have X0 := Lib.hid (RawAt.below X0.out b9 (RawAt.lt X0.out))
            have Z0 := Lib.hid (RawAt.below Z0.out b9 (RawAt.lt Z0.out))
            have U0 := Lib.hid (RawAt.below U0.out b9 (RawAt.lt U0.out))
            have HXU := Lib.hid (HXU.out.below b9)
            have HV := Lib.hid (HV.out.below b9)
            have HR9 := Lib.hid (HR9.out.below b9)
            have Q0 := Lib.hid (RawAt.below Q0.out b9 (RawAt.lt Q0.out))
            have O0 := Lib.hid (RawAt.below O0.out b9 (RawAt.lt O0.out))
            have P0 := Lib.hid (RawAt.below P0.out b9 (RawAt.lt P0.out))
            have HC8 := Lib.hid (HC8.out.below b9)
            have HCD := Lib.hid (HCD.out.below b9)
            have HRP := Lib.hid (HRP.out.below b9)
            have HRQ := Lib.hid (HRQ.out.below b9)
            clear b9
            clear CI
            go_wp2_with fail
            with_reducible refine (C6.out _).mono ?_
            rintro e wz ⟨rfl, bz⟩
            have HZ9 := Lib.hid (HQ.out.trans (bz.mono HQ.out.size))
            clear bz
            go_wp2
            go_ret
            exact ⟨rfl, HZ9.out⟩
end Go.Proofs.YtjkmkobnfhepaaaGreat
