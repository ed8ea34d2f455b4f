/- Creases: the contract of Pieces. -/
import Derived.Test.YtjkmkobnfhepaaaGreatCrA
import Derived.Test.YtjkmkobnfhepaaaGreatWvI
import Derived.Test.YtjkmkobnfhepaaaGreatWvL
import Derived.Deep.DeepCutAuto
namespace Go.Proofs.YtjkmkobnfhepaaaGreat
open Go.RowKit
set_option linter.unusedVariables false
theorem cpc_info : (Tryz.prog.info? 96).map (fun i => (i.zero, i.size, i.bytes)) = some (some (.agg #[.int .i64 0, .int .i64 0]), 2, 16) := by kernel_rfl
theorem cpc_slt : SlT Tryz.prog 91 96 2 16 := slt_of Tryz.underlying91 cpc_info rfl (by kernel_rfl)
theorem cpcs_take (l : List I7) {j : Nat} (h : j < l.length) : cpcs (l.take (j + 1)) = cpcs (l.take j) ++ [(if l[j].tag = 1 then l[j].d0 else 0, l[j].d1)] := by
  unfold cpcs
  rw [List.take_succ_eq_append_getElem h, List.map_append]
  rfl
theorem raw_grown {t : TypeId} {W W' : World} {b base n size : Nat} {e : TypeId} {v : Value} {xs : List Value} {cs : Array Value} (hr : RawAt t W b cs) (h : W.ownsRow base e size v n xs) (hg : W.grownBy W' v.ownBlock) (hb : b < base) : RawAt t W' b cs := by
  refine (hg.block b hr.lt ?_).trans hr
  intro hk
  have := (h.lt b hk.symm).1
  omega
set_option maxHeartbeats 8000000 in
set_option maxRecDepth 100000 in
theorem crPcs {p : Option Addr} {l : List I7} {h : Nat} {w : World} (ht : CrAt w p l h) (hx : ∀ i ∈ l, i.id = 0 ∧ (i.tag = 0 ∨ i.tag = 1)) :
    Calls Tryz.prog 46 #[.pointer p] w fun e w' => ∃ v, e = .returned v ∧ w'.ownsRow w.heap.size 96 2 v l.length (kfl wencS (cpcs l)) ∧ Below w.heap.size w w' := by
  have x0 : Below w.heap.size w (w.alloc (.cells #[.int .i64 0, .int .i64 0] 96)) := (Below.refl _ _).alloc (Nat.le_refl _) _
  have R0 : RawAt 96 (w.alloc (.cells #[.int .i64 0, .int .i64 0] 96)) w.heap.size #[.int .i64 0, .int .i64 0] := heap_alloc_new w _
  obtain ⟨q, hq, hk⟩ := crkept ht
  have hll := hq.okl.2
  have HOK := Lib.hid hq.okl.1
  have ST := cpc_slt
  have CK := Lib.hid (hk _ x0)
  have CI := Lib.hid (titems_any q l h _ (hq.below x0))
  have HX := Lib.hid hx
  have HX0 := Lib.hid x0
  have HR0 := Lib.hid R0
  obtain ⟨M, hM⟩ : ∃ M, M = l.length := ⟨_, rfl⟩
  rw [← hM] at hll CI
  rw [← hM]
  have HM := Lib.hid hM
  clear hk hq ht hM hx x0 R0
  go_enter Tryz.func46, Tryz.ntmps46
  go_wp2_with fail
  refine CK.out.mono ?_
  rintro e w1 ⟨rfl, rfl⟩
  go_wp2_with fail
  refine CI.out.mono ?_
  rintro e W2 ⟨A, c, rfl, b2, hI, hC⟩
  have X2 := Lib.hid (HX0.out.trans (b2.mono HX0.out.size))
  have R2 := Lib.hid (RawAt.below HR0.out b2 (RawAt.lt HR0.out))
  have hbo : w.heap.size < W2.heap.size := RawAt.lt R2.out
  have HI := Lib.hid hI
  obtain ⟨bo, hbo0⟩ : ∃ bo, bo = w.heap.size := ⟨_, rfl⟩
  rw [← hbo0] at R2 hbo
  have HBO := Lib.hid hbo0
  clear b2 hI hC CK CI HX0 HR0 hbo0
  go_wp2_with fail
  rw [← HBO.out]
  go_loopg [3, 11] M (fun g v i wr => ∃ (j : Nat) (u : Value), u = v ∧ i = .int .i64 j ∧ j ≤ M ∧ M - j ≤ g ∧ Hid (Below bo w wr) ∧ Hid (RawAt 96 wr bo #[.int .i64 0, .int .i64 0]) ∧ Hid (∀ b, b < W2.heap.size → b ≠ bo → wr.heap[b]? = W2.heap[b]?) ∧ Hid (W2.heap.size ≤ wr.heap.size) ∧ Hid (wr.ownsRow W2.heap.size 96 2 u j (kfl wencS (cpcs (l.take j)))))
  case atStart => exact ⟨0, _, rfl, rfl, by omega, by omega, Lib.hid (by rw [HBO.out]; exact X2.out), R2, Lib.hid (fun _ _ _ => rfl), Lib.hid (Nat.le_refl _), Lib.hid (World.ownsRow_nil _ _ _ _)⟩
  case round =>
    obtain ⟨j, u, rfl, rfl, j1, j2, hb, hr, hi, hsz, hown⟩ := hrel
    obtain ⟨A3, c3, rfl⟩ := own_formI hown.out
    by_cases hlt : j < M
    · have hjl : j < l.length := by rw [← HM.out]; exact hlt
      obtain ⟨bA, off, rfl, hbA, d0, d1, d2, d3, d4, d5, d6⟩ := witsW HI.out hjl
      have hne : bA ≠ bo := fun e => by
        rw [e, RawAt.cell R2.out] at d6
        have : off + j * 7 + 6 = (off + j * 7 + 4) + 2 := by omega
        rw [this] at d6
        simp at d6
      have hkb : ∀ k, wr.cell? ⟨bA, k, none⟩ = W2.cell? ⟨bA, k, none⟩ := fun k => World.cell?_of_block (w := W2) (hi.out bA hbA hne)
      rw [← hkb] at d0 d1 d2 d3 d4 d5 d6
      clear hkb
      have HT := Lib.hid (cpcs_take l hjl)
      obtain ⟨hid0, htg⟩ := HX.out _ (List.getElem_mem hjl)
      have hok := HOK.out _ (List.getElem_mem hjl)
      have hnk : Okn l[j].d0 ∧ Okn l[j].d1 := ⟨hok.1.1, hok.1.2.1⟩
      clear hok
      generalize l[j] = it at *
      have i1 : (0 : Int) ≤ j := by omega
      have i2 : (j : Int) < M := by omega
      unfold Okn at hnk
      obtain ⟨tg, id, o0, o1, o2, omx, otx⟩ := it
      simp only at hnk d0 d1 d2 d3 d4 d5 d6 HT htg hid0
      subst hid0
      have w1' : IntKind.i64.wrap (0 + o1) = o1 := by rw [Int.zero_add]; exact IntWalk.i64_in _ (by omega)
      have w0' : IntKind.i64.wrap (0 + o0) = o0 := by rw [Int.zero_add]; exact IntWalk.i64_in _ (by omega)
      have w1'' : IntKind.i64.wrap o1 = o1 := IntWalk.i64_in _ (by omega)
      have w0'' : IntKind.i64.wrap o0 = o0 := IntWalk.i64_in _ (by omega)
      rcases htg with rfl | rfl
      · skip
        have x3 : Below wr.heap.size wr (wr.alloc (.cells #[.int .i64 0, .int .i64 0, .int .i64 o0, .int .i64 o1, .int .i64 o2, .int .i64 omx, .string otx] 120)) := (Below.refl _ _).alloc (Nat.le_refl _) _
        have R3 : RawAt 120 (wr.alloc (.cells #[.int .i64 0, .int .i64 0, .int .i64 o0, .int .i64 o1, .int .i64 o2, .int .i64 omx, .string otx] 120)) wr.heap.size #[.int .i64 0, .int .i64 0, .int .i64 o0, .int .i64 o1, .int .i64 o2, .int .i64 omx, .string otx] := heap_alloc_new wr _
        have r3 := RawAt.below hr.out x3 (RawAt.lt hr.out)
        have e1 : (wr.alloc (.cells #[.int .i64 0, .int .i64 0, .int .i64 o0, .int .i64 o1, .int .i64 o2, .int .i64 omx, .string otx] 120)).cell? ⟨bo, 1, none⟩ = some (.int .i64 0) := RawAt.cell r3 1
        have f1 := RawAt.free r3 1
        have hbn : wr.heap.size ≠ bo := by have := RawAt.lt hr.out; omega
        have R4 := RawAt.set_other R3 hbn 1 (.int .i64 o1)
        have r4 := RawAt.set_ r3 1 (.int .i64 o1)
        simp at r4
        have y0 := RawAt.cell R4 0
        have y1 := RawAt.cell R4 1
        simp at y0 y1
        have HB4 := Lib.hid ((hb.out.trans (x3.mono (by have := hb.out.size; have := RawAt.lt hr.out; omega))).setCell (p := ⟨bo, 1, none⟩) (Nat.le_refl _) (.int .i64 o1))
        have HK4 : Hid (∀ b, b < W2.heap.size → b ≠ bo → ((wr.alloc (.cells #[.int .i64 0, .int .i64 0, .int .i64 o0, .int .i64 o1, .int .i64 o2, .int .i64 omx, .string otx] 120)).setCell ⟨bo, 1, none⟩ (.int .i64 o1)).heap[b]? = W2.heap[b]?) := Lib.hid (fun b h1 h2 => (Below.heap_setCell _ ⟨bo, 1, none⟩ _ b h2).trans ((Below.heap_alloc wr _ b (by have := hsz.out; omega)).trans (hi.out b h1 h2)))
        have HO4 := Lib.hid (own_set (own_below hown.out x3) hbo 1 (.int .i64 o1))
        have HS4 : Hid (W2.heap.size ≤ ((wr.alloc (.cells #[.int .i64 0, .int .i64 0, .int .i64 o0, .int .i64 o1, .int .i64 o2, .int .i64 omx, .string otx] 120)).setCell ⟨bo, 1, none⟩ (.int .i64 o1)).heap.size) := Lib.hid (by have := hsz.out; simp; omega)
        have c0 := RawAt.cell r4 0
        have c1 := RawAt.cell r4 1
        simp at c0 c1
        have HRn := Lib.hid r4
        clear r3 R3 x3 R4 r4 hb hi hown hsz hr
        go_upto_region 10 with fail
        generalize hWn : ((wr.alloc (.cells #[.int .i64 0, .int .i64 0, .int .i64 o0, .int .i64 o1, .int .i64 o2, .int .i64 omx, .string otx] 120)).setCell ⟨bo, 1, none⟩ (.int .i64 o1)) = Wn at *
        clear hWn y0 y1 e1 f1
        have HBn := HB4
        have HKn := HK4
        have HOn := HO4
        have HSn := HS4
        have HBy : Hid (Below W2.heap.size Wn Wn) := Lib.hid (Below.refl _ _)
        have x9 : Below Wn.heap.size Wn (Wn.alloc (.cells #[.int .i64 0, .int .i64 o1] 96)) := (Below.refl _ _).alloc (Nat.le_refl _) _
        have S9 := Lib.hid (rows_of_block (enc := wencS) (k := 2) wencS_len (heap_alloc_new Wn _ : RawAt 96 (Wn.alloc (.cells #[.int .i64 0, .int .i64 o1] 96)) Wn.heap.size #[.int .i64 0, .int .i64 o1]) (l := [((0, o1) : Int × Int)]) rfl)
        have O9 := Lib.hid (own_below HOn.out x9)
        have B9 := Lib.hid (HBy.out.trans (x9.mono HSn.out))
        have lt9 := O9.out.lt
        clear x9
        go_wp2_with (at_builtin; refine wpList_appK (enc := wencS) ST wencS_len (by omega) rfl (.tmp 35) (.tmp 37) rfl (base := W2.heap.size) (v := .slice A3 j c3) rfl O9.out _ 1 1 [((0, o1) : Int × Int)] rfl S9.out ⟨Nat.le_refl _, fun h => by cases h⟩ rfl (kfl_one' wencS_one _) (by simp only [maxLen]; omega) (by omega) (Nat.le_trans HSn.out B9.out.size) ?_; intro v9 w9 hown9 hg9 hor9; have HB9 := Lib.hid (B9.out.grown hg9 (Nat.le_trans HSn.out B9.out.size) (fun j hj => by have := (lt9 j hj).1; omega)); have HO9 := Lib.hid hown9; have HR9 := Lib.hid (raw_grown (RawAt.below HRn.out ((Below.refl _ _).alloc (Nat.le_refl _) _) (RawAt.lt HRn.out)) O9.out hg9 hbo); have g0 := RawAt.cell HR9.out 0; have g1 := RawAt.cell HR9.out 1; simp at g0 g1; have h0 := RawAt.free HR9.out 0; have h1' := RawAt.free HR9.out 1; clear hown9 hg9 hor9 O9 B9 S9 lt9)
        have HBX := Lib.hid (HBn.out.trans (HB9.out.mono (Nat.le_of_lt hbo)))
        have HKX : Hid (∀ b, b < W2.heap.size → b ≠ bo → w9.heap[b]? = W2.heap[b]?) := Lib.hid (fun b h1 h2 => (HB9.out.block b h1).trans (HKn.out b h1 h2))
        have HSX : Hid (W2.heap.size ≤ w9.heap.size) := Lib.hid (Nat.le_trans HSn.out HB9.out.size)
        have HTT : Hid (kfl wencS (cpcs (l.take (j + 1))) = kfl wencS (cpcs (l.take j)) ++ kfl wencS [((0, o1) : Int × Int)]) := Lib.hid (by rw [HT.out, kfl_append]; rfl)
        have HOX : Hid (w9.ownsRow W2.heap.size 96 2 v9 (j + 1) (kfl wencS (cpcs (l.take (j + 1))))) := Lib.hid (by rw [HTT.out]; exact HO9.out)
        have HR10 := Lib.hid ((RawAt.set_ (RawAt.set_ HR9.out 0 (.int .i64 0)) 1 (.int .i64 0)).of_eq (cs' := #[.int .i64 0, .int .i64 0]) (by simp))
        have HB10 := Lib.hid ((HBX.out.setCell (p := ⟨bo, 0, none⟩) (Nat.le_refl _) (.int .i64 0)).setCell (p := ⟨bo, 1, none⟩) (Nat.le_refl _) (.int .i64 0))
        have HK10 : Hid (∀ b, b < W2.heap.size → b ≠ bo → ((w9.setCell ⟨bo, 0, none⟩ (.int .i64 0)).setCell ⟨bo, 1, none⟩ (.int .i64 0)).heap[b]? = W2.heap[b]?) := Lib.hid (fun b h1 h2 => (Below.heap_setCell _ ⟨bo, 1, none⟩ _ b h2).trans ((Below.heap_setCell _ ⟨bo, 0, none⟩ _ b h2).trans (HKX.out b h1 h2)))
        have HO10 := Lib.hid (own_set (own_set HOX.out hbo 0 (.int .i64 0)) hbo 1 (.int .i64 0))
        have HS10 : Hid (W2.heap.size ≤ ((w9.setCell ⟨bo, 0, none⟩ (.int .i64 0)).setCell ⟨bo, 1, none⟩ (.int .i64 0)).heap.size) := Lib.hid (by have := HSX.out; simp; omega)
        go_roundg (gk - 1)
        case measure => omega
        case rel => exact ⟨j + 1, _, rfl, by go_num, by omega, by omega, HB10, HR10, HK10, HS10, HO10⟩
      · skip
        have x3 : Below wr.heap.size wr (wr.alloc (.cells #[.int .i64 1, .int .i64 0, .int .i64 o0, .int .i64 o1, .int .i64 o2, .int .i64 omx, .string otx] 120)) := (Below.refl _ _).alloc (Nat.le_refl _) _
        have R3 : RawAt 120 (wr.alloc (.cells #[.int .i64 1, .int .i64 0, .int .i64 o0, .int .i64 o1, .int .i64 o2, .int .i64 omx, .string otx] 120)) wr.heap.size #[.int .i64 1, .int .i64 0, .int .i64 o0, .int .i64 o1, .int .i64 o2, .int .i64 omx, .string otx] := heap_alloc_new wr _
        have r3 := RawAt.below hr.out x3 (RawAt.lt hr.out)
        have e1 : (wr.alloc (.cells #[.int .i64 1, .int .i64 0, .int .i64 o0, .int .i64 o1, .int .i64 o2, .int .i64 omx, .string otx] 120)).cell? ⟨bo, 1, none⟩ = some (.int .i64 0) := RawAt.cell r3 1
        have f1 := RawAt.free r3 1
        have hbn : wr.heap.size ≠ bo := by have := RawAt.lt hr.out; omega
        have R4 := RawAt.set_other R3 hbn 1 (.int .i64 o1)
        have r4 := RawAt.set_ r3 1 (.int .i64 o1)
        simp at r4
        have y0 := RawAt.cell R4 0
        have y1 := RawAt.cell R4 1
        simp at y0 y1
        have HB4 := Lib.hid ((hb.out.trans (x3.mono (by have := hb.out.size; have := RawAt.lt hr.out; omega))).setCell (p := ⟨bo, 1, none⟩) (Nat.le_refl _) (.int .i64 o1))
        have HK4 : Hid (∀ b, b < W2.heap.size → b ≠ bo → ((wr.alloc (.cells #[.int .i64 1, .int .i64 0, .int .i64 o0, .int .i64 o1, .int .i64 o2, .int .i64 omx, .string otx] 120)).setCell ⟨bo, 1, none⟩ (.int .i64 o1)).heap[b]? = W2.heap[b]?) := Lib.hid (fun b h1 h2 => (Below.heap_setCell _ ⟨bo, 1, none⟩ _ b h2).trans ((Below.heap_alloc wr _ b (by have := hsz.out; omega)).trans (hi.out b h1 h2)))
        have HO4 := Lib.hid (own_set (own_below hown.out x3) hbo 1 (.int .i64 o1))
        have HS4 : Hid (W2.heap.size ≤ ((wr.alloc (.cells #[.int .i64 1, .int .i64 0, .int .i64 o0, .int .i64 o1, .int .i64 o2, .int .i64 omx, .string otx] 120)).setCell ⟨bo, 1, none⟩ (.int .i64 o1)).heap.size) := Lib.hid (by have := hsz.out; simp; omega)
        have z0 : ((wr.alloc (.cells #[.int .i64 1, .int .i64 0, .int .i64 o0, .int .i64 o1, .int .i64 o2, .int .i64 omx, .string otx] 120)).setCell ⟨bo, 1, none⟩ (.int .i64 o1)).cell? ⟨bo, 0, none⟩ = some (.int .i64 0) := RawAt.cell r4 0
        have f0 := RawAt.free r4 0
        have R5 := RawAt.set_other R4 hbn 0 (.int .i64 o0)
        have r5 := RawAt.set_ r4 0 (.int .i64 o0)
        simp at r5
        have y1' := RawAt.cell R5 1
        simp at y1'
        have HB5 := Lib.hid (HB4.out.setCell (p := ⟨bo, 0, none⟩) (Nat.le_refl _) (.int .i64 o0))
        have HK5 : Hid (∀ b, b < W2.heap.size → b ≠ bo → (((wr.alloc (.cells #[.int .i64 1, .int .i64 0, .int .i64 o0, .int .i64 o1, .int .i64 o2, .int .i64 omx, .string otx] 120)).setCell ⟨bo, 1, none⟩ (.int .i64 o1)).setCell ⟨bo, 0, none⟩ (.int .i64 o0)).heap[b]? = W2.heap[b]?) := Lib.hid (fun b h1 h2 => (Below.heap_setCell _ ⟨bo, 0, none⟩ _ b h2).trans (HK4.out b h1 h2))
        have HO5 := Lib.hid (own_set HO4.out hbo 0 (.int .i64 o0))
        have HS5 : Hid (W2.heap.size ≤ (((wr.alloc (.cells #[.int .i64 1, .int .i64 0, .int .i64 o0, .int .i64 o1, .int .i64 o2, .int .i64 omx, .string otx] 120)).setCell ⟨bo, 1, none⟩ (.int .i64 o1)).setCell ⟨bo, 0, none⟩ (.int .i64 o0)).heap.size) := Lib.hid (by have := HS4.out; simp at this ⊢; omega)
        have c0 := RawAt.cell r5 0
        have c1 := RawAt.cell r5 1
        simp at c0 c1
        have HRn := Lib.hid r5
        clear r3 R3 x3 R4 r4 R5 r5 HB4 HK4 HO4 HS4 hb hi hown hsz hr
        go_upto_region 10 with fail
        generalize hWn : ((wr.alloc (.cells #[.int .i64 1, .int .i64 0, .int .i64 o0, .int .i64 o1, .int .i64 o2, .int .i64 omx, .string otx] 120)).setCell ⟨bo, 1, none⟩ (.int .i64 o1)).setCell ⟨bo, 0, none⟩ (.int .i64 o0) = Wn at *
        clear hWn y0 y1 e1 f1 z0 f0 y1'
        have HBn := HB5
        have HKn := HK5
        have HOn := HO5
        have HSn := HS5
        have HBy : Hid (Below W2.heap.size Wn Wn) := Lib.hid (Below.refl _ _)
        have x9 : Below Wn.heap.size Wn (Wn.alloc (.cells #[.int .i64 o0, .int .i64 o1] 96)) := (Below.refl _ _).alloc (Nat.le_refl _) _
        have S9 := Lib.hid (rows_of_block (enc := wencS) (k := 2) wencS_len (heap_alloc_new Wn _ : RawAt 96 (Wn.alloc (.cells #[.int .i64 o0, .int .i64 o1] 96)) Wn.heap.size #[.int .i64 o0, .int .i64 o1]) (l := [((o0, o1) : Int × Int)]) rfl)
        have O9 := Lib.hid (own_below HOn.out x9)
        have B9 := Lib.hid (HBy.out.trans (x9.mono HSn.out))
        have lt9 := O9.out.lt
        clear x9
        go_wp2_with (at_builtin; refine wpList_appK (enc := wencS) ST wencS_len (by omega) rfl (.tmp 35) (.tmp 37) rfl (base := W2.heap.size) (v := .slice A3 j c3) rfl O9.out _ 1 1 [((o0, o1) : Int × Int)] rfl S9.out ⟨Nat.le_refl _, fun h => by cases h⟩ rfl (kfl_one' wencS_one _) (by simp only [maxLen]; omega) (by omega) (Nat.le_trans HSn.out B9.out.size) ?_; intro v9 w9 hown9 hg9 hor9; have HB9 := Lib.hid (B9.out.grown hg9 (Nat.le_trans HSn.out B9.out.size) (fun j hj => by have := (lt9 j hj).1; omega)); have HO9 := Lib.hid hown9; have HR9 := Lib.hid (raw_grown (RawAt.below HRn.out ((Below.refl _ _).alloc (Nat.le_refl _) _) (RawAt.lt HRn.out)) O9.out hg9 hbo); have g0 := RawAt.cell HR9.out 0; have g1 := RawAt.cell HR9.out 1; simp at g0 g1; have h0 := RawAt.free HR9.out 0; have h1' := RawAt.free HR9.out 1; clear hown9 hg9 hor9 O9 B9 S9 lt9)
        have HBX := Lib.hid (HBn.out.trans (HB9.out.mono (Nat.le_of_lt hbo)))
        have HKX : Hid (∀ b, b < W2.heap.size → b ≠ bo → w9.heap[b]? = W2.heap[b]?) := Lib.hid (fun b h1 h2 => (HB9.out.block b h1).trans (HKn.out b h1 h2))
        have HSX : Hid (W2.heap.size ≤ w9.heap.size) := Lib.hid (Nat.le_trans HSn.out HB9.out.size)
        have HTT : Hid (kfl wencS (cpcs (l.take (j + 1))) = kfl wencS (cpcs (l.take j)) ++ kfl wencS [((o0, o1) : Int × Int)]) := Lib.hid (by rw [HT.out, kfl_append]; rfl)
        have HOX : Hid (w9.ownsRow W2.heap.size 96 2 v9 (j + 1) (kfl wencS (cpcs (l.take (j + 1))))) := Lib.hid (by rw [HTT.out]; exact HO9.out)
        have HR10 := Lib.hid ((RawAt.set_ (RawAt.set_ HR9.out 0 (.int .i64 0)) 1 (.int .i64 0)).of_eq (cs' := #[.int .i64 0, .int .i64 0]) (by simp))
        have HB10 := Lib.hid ((HBX.out.setCell (p := ⟨bo, 0, none⟩) (Nat.le_refl _) (.int .i64 0)).setCell (p := ⟨bo, 1, none⟩) (Nat.le_refl _) (.int .i64 0))
        have HK10 : Hid (∀ b, b < W2.heap.size → b ≠ bo → ((w9.setCell ⟨bo, 0, none⟩ (.int .i64 0)).setCell ⟨bo, 1, none⟩ (.int .i64 0)).heap[b]? = W2.heap[b]?) := Lib.hid (fun b h1 h2 => (Below.heap_setCell _ ⟨bo, 1, none⟩ _ b h2).trans ((Below.heap_setCell _ ⟨bo, 0, none⟩ _ b h2).trans (HKX.out b h1 h2)))
        have HO10 := Lib.hid (own_set (own_set HOX.out hbo 0 (.int .i64 0)) hbo 1 (.int .i64 0))
        have HS10 : Hid (W2.heap.size ≤ ((w9.setCell ⟨bo, 0, none⟩ (.int .i64 0)).setCell ⟨bo, 1, none⟩ (.int .i64 0)).heap.size) := Lib.hid (by have := HSX.out; simp; omega)
        go_roundg (gk - 1)
        case measure => omega
        case rel => exact ⟨j + 1, _, rfl, by go_num, by omega, by omega, HB10, HR10, HK10, HS10, HO10⟩
    · obtain rfl : j = M := by omega
      have htk : l.take j = l := List.take_of_length_le (by rw [← HM.out]; exact Nat.le_refl _)
      have ho2 := hown.out
      rw [htk] at ho2
      have HOX := Lib.hid (own_base ho2 X2.out.size)
      have HBX : Hid (Below w.heap.size w wr) := Lib.hid (by have := hb.out; rw [HBO.out] at this; exact this)
      clear ho2 hb hown
      go_wp2
      go_ret
      exact ⟨_, rfl, HOX.out, HBX.out⟩
end Go.Proofs.YtjkmkobnfhepaaaGreat
