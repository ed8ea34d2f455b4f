/- Ropes: some of the text: the contract of Slice. -/
import Derived.Test.YtpnjokhhbjpciaaGreatDoorRopeAsk
import Derived.Test.YtpnjokhhbjpciaaGreatDoorRopeA
import Derived.Test.YtpnjokhhbjpciaaGreatDoorRopePure
import Derived.Test.YtpnjokhhbjpciaaGreatDoorBuilder
namespace Go.Proofs.YtpnjokhhbjpciaaGreatDoor
open Go.RowKit
theorem take_le_flatten (ps : List (List Int)) {j k : Nat} (h : j ≤ k) (d : Nat) : szl (ps.take j).flatten d ≤ szl (ps.take k).flatten d := by
  have e : ps.take k = ps.take j ++ (ps.take k).drop j := by
    conv => lhs; rw [← List.take_append_drop j (ps.take k)]
    rw [List.take_take, Nat.min_eq_left h]
  rw [e, List.flatten_append, szl_append]
  have := szl_nonneg ((ps.take k).drop j).flatten d
  omega
theorem find_start {ps : List (List Int)} (P : PsOk ps) {v : Int} {m : Nat} (hv : 0 ≤ v) (hf : FindIs (ps.map pit) 0 v 0 m) : szl (ps.take m).flatten 0 ≤ v := by
  rcases Nat.eq_zero_or_pos m with rfl | h0
  · rw [List.take_zero, List.flatten_nil, szl_nil]; exact hv
  · have := hf.no (m - 1) (by omega)
    rw [sdim_pit P (m - 1 + 1) (by omega), show m - 1 + 1 = m from by omega] at this
    have h1 : ¬ (v < szl (ps.take m).flatten 0) := fun h => this (.inl h)
    omega
theorem find_behind {ps : List (List Int)} (P : PsOk ps) {v : Int} {m k : Nat} (hf : FindIs (ps.map pit) 0 v 0 m) (hmk : m ≤ k) (hk : k < ps.length) : v ≤ szl (ps.take (k + 1)).flatten 0 := by
  have h1 := hf.yes (by rw [List.length_map]; omega)
  rw [sdim_pit P (m + 1) (by omega)] at h1
  have h2 := take_le_flatten ps (show m + 1 ≤ k + 1 by omega) 0
  rcases h1 with h | ⟨_, h⟩ <;> omega
theorem take_pth {ps : List (List Int)} {k : Nat} (hk : k < ps.length) : (ps.take (k + 1)).flatten = (ps.take k).flatten ++ pth ps k := by
  rw [pth_lt hk, List.take_succ_eq_append_getElem hk, List.flatten_append]; simp
theorem cut_piece {ps : List (List Int)} {k : Nat} (hk : k < ps.length) : ((encAll ps.flatten).drop (encAll (ps.take k).flatten).length).take (encAll (pth ps k)).length = encAll (pth ps k) := by
  rw [piece_split hk, encAll_append, encAll_append, List.drop_left, pth_lt hk, List.take_left]
theorem encAll_span (l : List Int) {x y : Nat} (h : x ≤ y) : ((encAll l).drop (encAll (l.take x)).length).take ((encAll (l.take y)).length - (encAll (l.take x)).length) = encAll ((l.take y).drop x) := by
  have e1 : l.take y = l.take x ++ (l.take y).drop x := by
    conv => lhs; rw [← List.take_append_drop x (l.take y)]
    rw [List.take_take, Nat.min_eq_left h]
  have e2 : l = l.take x ++ ((l.take y).drop x ++ l.drop y) := by
    rw [← List.append_assoc, ← e1, List.take_append_drop]
  have e3 : (encAll (l.take y)).length - (encAll (l.take x)).length = (encAll ((l.take y).drop x)).length := by
    rw [e1, encAll_append, List.length_append, Nat.add_sub_cancel_left, ← e1]
  rw [e3]
  generalize (l.take y).drop x = a at *
  generalize l.take x = b at *
  rw [e2, encAll_append, encAll_append, List.drop_left, List.take_left]
theorem extract_list (s : ByteArray) (lo hi : Nat) : (s.extract lo hi).data.toList = (s.data.toList.take hi).drop lo := by
  have h : (s.extract lo hi).data.toList = (s.data.toList.take (lo + (hi - lo))).drop lo := by simp [ByteArray.data_extract, List.take_drop]
  rw [h]
  rcases Nat.le_total lo hi with hle | hle
  · rw [show lo + (hi - lo) = hi from by omega]
  · rw [show lo + (hi - lo) = lo from by omega, List.drop_eq_nil_of_le (by rw [List.length_take]; omega), List.drop_eq_nil_of_le (by rw [List.length_take]; omega)]
section
variable {p : Option Addr} {ps : List (List Int)} {h : Nat} {w : World}
set_option maxHeartbeats 4000000 in
set_option maxRecDepth 100000 in
theorem rslice_any (hr : RP w p ps h) (x y : Nat) (hxy : x ≤ y) (hy : y ≤ ps.flatten.length) :
    Calls Tryz.prog 73 #[.pointer p, .int .i64 x, .int .i64 y] w fun e w' => e = .returned (.tuple #[.string (txt ((ps.flatten.take y).drop x)), .int .i64 0]) ∧ Below w.heap.size w w' := by
  have C1 := Lib.hid (rspans_any hr x y true ⟨fun _ => ⟨by omega, by omega, by omega⟩, fun _ => rfl⟩)
  have C2 : Hid (∀ (W : World), Below w.heap.size w W → Calls Tryz.prog 103 #[.pointer p, .int .i64 1, .int .i64 x] W fun e w' => e = .returned (.agg (hcs ps.flatten x)) ∧ Below W.heap.size W w') := fun W hW => (rahead_any (hr.below hW) 1 (by omega) x (by omega) (by show (x : Int) ≤ (ps.flatten.length : Int); omega)).mono fun _ _ ⟨j, hj, he, hb⟩ => by
    obtain rfl := hj.unique (AheadIs.runes (by omega))
    exact ⟨he, hb⟩
  have C3 : Hid (∀ (W : World), Below w.heap.size w W → Calls Tryz.prog 103 #[.pointer p, .int .i64 1, .int .i64 y] W fun e w' => e = .returned (.agg (hcs ps.flatten y)) ∧ Below W.heap.size W w') := fun W hW => (rahead_any (hr.below hW) 1 (by omega) y (by omega) (by show (y : Int) ≤ (ps.flatten.length : Int); omega)).mono fun _ _ ⟨j, hj, he, hb⟩ => by
    obtain rfl := hj.unique (AheadIs.runes (by omega))
    exact ⟨he, hb⟩
  obtain ⟨row, hT, _, hto⟩ := rto_fix hr
  have HT := Lib.hid hT
  have C4 := Lib.hid fun (W : World) (hW : Below w.heap.size w W) => hto W 0 (szl (ps.flatten.take x) 0) hW (by omega) (szl_nonneg _ _) (by have := szl_mono ps.flatten 0 (show x ≤ ps.flatten.length by omega); rwa [szl_all] at this)
  clear hto hT
  have hx0 := fun (a b c : Int) W => idx3_0 a b c W
  have HP := Lib.hid hr.1
  clear hr
  unfold hcs at C2 C3
  have hee := szl_mono ps.flatten 0 hxy
  have hea := szl_mono ps.flatten 0 hy
  rw [szl_all] at hea
  generalize hbg : szl (ps.flatten.take x) 0 = bg at *
  generalize hen : szl (ps.flatten.take y) 0 = en at *
  have HBG := Lib.hid hbg
  have HEN := Lib.hid hen
  clear hbg hen
  generalize szl (ps.flatten.take x) 1 = x1 at *
  generalize szl (ps.flatten.take x) 2 = x2 at *
  generalize szl (ps.flatten.take y) 1 = y1 at *
  generalize szl (ps.flatten.take y) 2 = y2 at *
  have hbg0 : 0 ≤ bg := by rw [← HBG.out]; exact szl_nonneg _ _
  have hall : szl ps.flatten 0 ≤ 80000 := by have := szl_le ps.flatten 0; have := HP.out.most; omega
  go_enter Tryz.func73, Tryz.ntmps73
  go_wp2_with fail
  refine C1.out.mono ?_
  rintro e w1 ⟨rfl, hb1⟩
  go_wp2_with fail
  refine (C2.out _ hb1).mono ?_
  rintro e w2 ⟨rfl, hb2⟩
  have a2 := hb1.trans (hb2.mono hb1.size)
  go_wp2_with fail
  refine (C3.out _ a2).mono ?_
  rintro e w3 ⟨rfl, hb3⟩
  have a3 := a2.trans (hb3.mono a2.size)
  go_wp2_with fail
  have x4 : Below w3.heap.size w3 (w3.alloc (.cells #[.pointer none, .slice none 0 0] 173)) := (Below.refl _ _).alloc (Nat.le_refl _) _
  have IB := Lib.fresh_isBuilder 173 5 w3
  have z4 : (w3.alloc (.cells #[.pointer none, .slice none 0 0] 173)).heap.size = w3.heap.size + 1 := by simp
  generalize (w3.alloc (.cells #[.pointer none, .slice none 0 0] 173)) = W4 at *
  have a4 := a3.trans (x4.mono a3.size)
  obtain ⟨bb, hbb⟩ : ∃ bb, bb = w3.heap.size := ⟨_, rfl⟩
  rw [← hbb] at IB z4
  have hbbw : w.heap.size ≤ bb := by rw [hbb]; exact a3.size
  have HBB := Lib.hid hbb
  clear hbb
  refine (C4.out _ a4).mono ?_
  rintro e w5 ⟨b, m, rfl, hf, hbs, hC, hb5⟩
  rw [← HBB.out]
  have HIB := Lib.hid (ib_below IB hb5)
  have a5 := a4.trans (hb5.mono a4.size)
  have HFI := Lib.hid hf
  have HRC := Lib.hid hC.raw
  have hmle := hC.le
  clear IB hf hC
  go_wp2_with fail
  have hne : bb ≠ b := by omega
  go_loopg [] (ps.length + 1) (fun g wr => ∃ k : Nat, m ≤ k ∧ k ≤ ps.length ∧ ps.length - k < g ∧ Below w.heap.size w wr ∧ Hid (RawAt 167 wr b (ccs row (sall ((ps.map pit).take k)))) ∧ Hid (Lib.IsBuilder 173 5 bb bb (Lib.byteCells (((encAll ps.flatten).drop bg.toNat).take (min en.toNat (encAll (ps.take k).flatten).length - bg.toNat))) wr))
  case atStart => exact ⟨m, Nat.le_refl _, by simpa using hmle, by omega, a5, HRC, by
    have h1 := find_start HP.out hbg0 HFI.out
    have h2 : (szl (ps.take m).flatten 0) = ((encAll (ps.take m).flatten).length : Int) := rfl
    rw [show min en.toNat (encAll (ps.take m).flatten).length - bg.toNat = 0 from by omega, List.take_zero]
    exact HIB⟩
  case round =>
    obtain ⟨k, k1, k2, k3, hb, hR, hI⟩ := hrel
    have hC : CAt TP wr b b row (ps.map pit) h k := CAt.of HT.out hb (by omega) hR.out (by simpa using k2) b (by omega)
    have CS := Lib.hid fun (W : World) (hW : Below wr.heap.size wr W) => cstart_any (hC.keep hW)
    have CI := Lib.hid (ritem_any hC)
    have hs := (sall_pit_take HP.out k).1
    have tf := fld_rd3
    generalize hS : sall ((ps.map pit).take k) = s at *
    have HS := Lib.hid hS
    clear hS
    unfold scs at CS
    go_wp2_with fail
    refine (CS.out _ (Below.refl _ _)).mono ?_
    rintro e w6 ⟨rfl, hb6⟩
    have hat : s.d0 = ((encAll (ps.take k).flatten).length : Int) := hs
    have HAT := Lib.hid hat
    clear hs hat
    by_cases hlt : s.d0 < en
    · have hk : k < ps.length := by
        rcases Nat.lt_or_ge k ps.length with h9 | h9
        · exact h9
        · exfalso
          have h8 := HAT.out
          rw [List.take_of_length_le h9] at h8
          have h7 : szl ps.flatten 0 = ((encAll ps.flatten).length : Int) := rfl
          omega
      have hbh := find_behind HP.out HFI.out k1 hk
      rw [take_pth hk, szl_append] at hbh
      have hcp := Lib.hid (cut_piece hk)
      have hnx := Lib.hid (show (encAll (ps.take (k + 1)).flatten).length = (encAll (ps.take k).flatten).length + (encAll (pth ps k)).length from by rw [take_pth hk, encAll_append, List.length_append])
      have hbh2 : bg ≤ ((encAll (ps.take k).flatten).length : Int) + ((encAll (pth ps k)).length : Int) := hbh
      clear hbh
      have hbnd : (encAll (ps.take k).flatten).length ≤ 80000 := by
        have h1 := take_le_flatten ps k2 0
        rw [List.take_of_length_le (Nat.le_refl _)] at h1
        have h2 : (szl (ps.take k).flatten 0) = ((encAll (ps.take k).flatten).length : Int) := rfl
        omega
      generalize hq : pth ps k = q at *
      have HQ := Lib.hid hq
      clear hq
      generalize hxq : pit q = xi at *
      have HXQ := Lib.hid hxq
      clear hxq
      unfold ics at CI
      have CI2 := Lib.hid fun (W : World) (hW : Below wr.heap.size wr W) => ritem_any (hC.keep hW)
      clear CI
      rw [HQ.out, HXQ.out] at CI2
      unfold ics at CI2
      go_wp2_with fail
      refine (CI2.out _ hb6).mono ?_
      rintro e w7 ⟨yes, rfl, hb7⟩
      have a7 : Below wr.heap.size wr w7 := hb6.trans (hb7.mono hb6.size)
      have x8 : Below w7.heap.size w7 (w7.alloc (.cells (ics xi) 162)) := (Below.refl _ _).alloc (Nat.le_refl _) _
      have RX : RawAt 162 (w7.alloc (.cells (ics xi) 162)) w7.heap.size (ics xi) := heap_alloc_new w7 _
      unfold ics at x8 RX
      obtain ⟨xb, hxb⟩ : ∃ xb, xb = w7.heap.size := ⟨_, rfl⟩
      rw [← hxb] at RX
      have HXB := Lib.hid hxb
      clear hxb
      go_wp2_with fail
      rw [← HXB.out]
      generalize (w7.alloc (.cells #[.int .i64 xi.tag, .int .i64 xi.id, .int .i64 xi.d0, .int .i64 xi.d1, .int .i64 xi.d2, .int .i64 xi.mx, .string xi.tx] 162)) = W8 at *
      have a8 := a7.trans (x8.mono a7.size)
      have HRX := Lib.hid RX
      clear RX
      refine (CS.out _ a8).mono ?_
      rintro e w9 ⟨rfl, hb9⟩
      have HRX9 := Lib.hid (RawAt.below HRX.out hb9 (RawAt.lt HRX.out))
      have tx9 : w9.cell? ⟨xb, 6, none⟩ = some (.string xi.tx) := RawAt.cell HRX9.out 6
      go_wp2_with fail
      have hn16 := HP.out.pth_cln k
      rw [HQ.out] at hn16
      have hsz : xi.tx = txt q := by rw [← HXQ.out]; rfl
      have hqn : xi.tx.size = (encAll q).length := by rw [hsz, txt_size]
      have hq64 := encAll_len q
      have hat2 := HAT.out
      have hatb := hbnd
      obtain ⟨s0, hs0⟩ : ∃ s0 : Nat, s0 = (encAll (ps.take k).flatten).length := ⟨_, rfl⟩
      have HS0 := Lib.hid hs0
      rw [← hs0] at hat2 hatb
      clear hs0
      have hbehind : bg ≤ (s0 : Int) + (xi.tx.size : Int) := by rw [hqn]; rw [← HS0.out] at hbh2; exact hbh2
      obtain ⟨lo, hlo⟩ : ∃ lo : Nat, (lo : Int) = max (bg - s.d0) 0 := ⟨(max (bg - s.d0) 0).toNat, by omega⟩
      obtain ⟨hi, hhi⟩ : ∃ hi : Nat, (hi : Int) = min (en - s.d0) (xi.tx.size : Int) := ⟨(min (en - s.d0) (xi.tx.size : Int)).toNat, by omega⟩
      have hw1 : wrap64 (bg - s.d0) = bg - s.d0 := IntWalk.wrap64_in _ ⟨by omega, by omega⟩
      have hw2 : wrap64 (en - s.d0) = en - s.d0 := IntWalk.wrap64_in _ ⟨by omega, by omega⟩
      have hsl : ∀ W, (Instr.slice 9 (.string xi.tx) (some (.int .i64 (max (wrap64 (bg - s.d0)) 0))) (some (.int .i64 (min (wrap64 (en - s.d0)) (xi.tx.size : Int)))) none).run Tryz.prog W = .ok (.string (xi.tx.extract lo hi)) W := fun W => by
        rw [hw1, hw2, ← hlo, ← hhi]
        rw [run_slice_string _ _ _ _ _ _ _ Tryz.underlying9 (by omega) (by omega) (by omega)]
        simp
      have HLO := Lib.hid hlo
      have HHI := Lib.hid hhi
      have HQN := Lib.hid hqn
      have HSZ := Lib.hid hsz
      have HB := Lib.hid (show bg ≤ (s0 : Int) + (xi.tx.size : Int) ∧ s.d0 = (s0 : Int) ∧ (s0 : Int) ≤ 80000 from ⟨hbehind, hat2, by omega⟩)
      clear hlo hhi hqn hsz hbehind hq64 hn16 hw1 hw2
      have HSL := Lib.hid hsl
      clear hsl
      go_wp2_with fail
      rw [HSL.out]
      simp only [Result.andThen]
      rw [Oper.upon_value]
      go_wp2_with fail
      have a9 : Below wr.heap.size wr w9 := a8.trans (hb9.mono a8.size)
      have HR9 := Lib.hid (RawAt.below hR.out a9 (RawAt.lt hR.out))
      have hIB9 := ib_below hI.out a9
      have hszb : bb ≤ w9.heap.size := by have := a9.size; have := RawAt.lt hR.out; have := hb5.size; omega
      refine (writeString_any bb bb _ (xi.tx.extract lo hi) w9 hIB9 (by
        rw [Lib.byteCells_length, List.length_take, List.length_drop]
        have h1 : (szl ps.flatten 0) = ((encAll ps.flatten).length : Int) := rfl
        have h2 : (xi.tx.extract lo hi).size ≤ xi.tx.size := by rw [ByteArray.size_extract]; omega
        have h3 := HQN.out
        have h4 := (HP.out.pth_cln k).2
        have h5 := encAll_len q
        rw [HQ.out] at h4
        omega) hszb).mono ?_
      rintro e w10 ⟨rfl, hIB10, hb10, ho10⟩
      have HIB10 := Lib.hid (show Lib.IsBuilder 173 5 bb bb _ w10 from .inr hIB10)
      have R10 := ho10 _ b _ (by decide) (by omega) HR9.out
      have HR10 := Lib.hid (show RawAt 167 w10 b _ from R10)
      have hb11 : Below w.heap.size w w10 := (hb.trans (a9.mono hb.size)).trans (hb10.mono hbbw)
      clear ho10 hIB9 hIB10 R10
      have hC10 : CAt TP w10 b b row (ps.map pit) h k := CAt.of HT.out hb11 (by omega) (by rw [HS.out]; exact HR10.out) (by simpa using k2) b (by omega)
      have CN := Lib.hid (cnext_yes treeQo hC10 (by rw [List.length_map]; exact hk))
      clear hC10
      go_wp2_with fail
      refine CN.out.mono ?_
      rintro e w11 ⟨rfl, hC11, hoff⟩
      have HR11 := Lib.hid hC11.raw
      have hb12 : Below w.heap.size w w11 := hb11.trans (hoff.below (by omega) (by omega) hb11.size)
      have HIB11 := Lib.hid (ib_keep HIB10.out (w' := w11) (fun t k' cs ht hc => hoff.rest k' (block_lt hc) (fun e => by
        subst e
        have h1 := HR10.out
        unfold RawAt at h1
        rw [h1] at hc
        injection hc with hc
        injection hc with _ hc2
        rcases ht with rfl | rfl <;> exact absurd hc2 (by decide)) (fun e => by
        subst e
        have h1 := HR10.out
        unfold RawAt at h1
        rw [h1] at hc
        injection hc with hc
        injection hc with _ hc2
        rcases ht with rfl | rfl <;> exact absurd hc2 (by decide))))
      clear hC11 hoff
      go_wp2
      go_roundg (gk - 1)
      case measure => omega
      case rel =>
        refine ⟨k + 1, by omega, hk, by omega, hb12, HR11, Lib.hid ?_⟩
        have h1 := HIB11.out
        rw [show Lib.strCells (xi.tx.extract lo hi) = Lib.byteCells ((encAll q).take hi |>.drop lo) from by
          rw [show Lib.strCells (xi.tx.extract lo hi) = Lib.byteCells (xi.tx.extract lo hi).data.toList from rfl, extract_list, HSZ.out]; simp [txt], ← Lib.byteCells_append] at h1
        have h2 := HB.out
        have h3 := HLO.out
        have h4 := HHI.out
        have h5 := HQN.out
        have h6 := HS0.out
        have h7 : (szl ps.flatten 0) = ((encAll ps.flatten).length : Int) := rfl
        have h8 := hcp.out
        have h9 := hnx.out
        have hsr := slice_round (encAll ps.flatten) (b := bg.toNat) (e := en.toNat) (s := s0) (n := (encAll q).length) (by omega) (by omega) (by omega) (by
          have := congrArg List.length h8
          rw [List.length_take, List.length_drop] at this
          omega)
        rw [h9, ← h6, ← hsr]
        rw [← h6] at h1 h8
        rw [h8, show min (en.toNat - s0) (encAll q).length = hi from by omega, show bg.toNat - s0 = lo from by omega]
        exact h1
    · have hge : ((encAll (ps.take k).flatten).length : Int) = s.d0 := HAT.out.symm
      have HGE := Lib.hid hge
      have hen : min en.toNat (encAll (ps.take k).flatten).length = en.toNat := by omega
      rw [hen] at hI
      have hIB6 := ib_below hI.out hb6
      have CW := Lib.hid (Tryz.Builder_String_any bb bb _ w6 hIB6 (by have := hb6.size; have := RawAt.lt hR.out; have := hb5.size; omega))
      clear hge hen hIB6
      go_wp2_with fail
      refine CW.out.mono ?_
      rintro e w7 ⟨rfl, hb7⟩
      have a7 : Below w.heap.size w w7 := (hb.trans (hb6.mono hb.size)).trans (hb7.mono hbbw)
      have HE := Lib.hid (show ((encAll ps.flatten).drop bg.toNat).take (en.toNat - bg.toNat) = encAll ((ps.flatten.take y).drop x) from by
        rw [← HBG.out, ← HEN.out]
        exact encAll_span ps.flatten hxy)
      rw [HE.out]
      go_wp2
      refine bodyPost_ret (v := .tuple #[.string (txt ((ps.flatten.take y).drop x)), .int .i64 0]) (by simp [results, Tryz.results73, go_sem, txt]) rfl ⟨rfl, a7⟩
end
end Go.Proofs.YtpnjokhhbjpciaaGreatDoor
