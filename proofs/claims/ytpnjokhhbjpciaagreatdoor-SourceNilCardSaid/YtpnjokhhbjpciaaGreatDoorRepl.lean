/- Ropes: some of the text replaced: the contract of Replace. -/
import Derived.Test.YtpnjokhhbjpciaaGreatDoorRSlice
import Derived.Test.YtpnjokhhbjpciaaGreatDoorRopeCuts
import Derived.Test.YtpnjokhhbjpciaaGreatDoorRPieces
import Derived.Test.YtpnjokhhbjpciaaGreatDoorTreeR
namespace Go.Proofs.YtpnjokhhbjpciaaGreatDoor
open Go.RowKit
section
variable {T : World → Option Addr → List I7 → Nat → Prop} {w : World} {b c : Nat} {a : Option Addr} {l : List I7} {h k : Nat}
theorem cend_u (K : TreeQo T) (C : CAt T w b c a l h k) : Calls Tryz.prog 69 #[.pointer (some ⟨b, 0, none⟩)] w fun e w' => e = .returned (.agg (scs (sall (l.take (k + 1))))) ∧ Below w.heap.size w w' := by
  by_cases hk : k < l.length
  · exact cend_yes K C hk
  · have := cend_no K C hk
    rwa [List.take_of_length_le (show l.length ≤ k from Nat.le_of_not_lt hk), ← List.take_of_length_le (show l.length ≤ k + 1 by omega)] at this
theorem cback_u (K : TreeQo T) (C : CAt T w b c a l h k) : Calls Tryz.prog 71 #[.pointer (some ⟨b, 0, none⟩)] w fun e w' => ∃ v : Bool, e = .returned (.bool v) ∧ CAt T w' b c a l h (k - 1) ∧ Off b b w w' := by
  cases k with
  | zero => exact (cback_no C).mono fun e w' ⟨he, hb⟩ => ⟨false, he, C.keep hb, Off.of hb⟩
  | succ k => exact (cback_yes K C).mono fun e w' ⟨he, hc, ho⟩ => ⟨true, he, hc, ho⟩
theorem cnext_u (K : TreeQo T) (C : CAt T w b c a l h k) : Calls Tryz.prog 72 #[.pointer (some ⟨b, 0, none⟩)] w fun e w' => ∃ v : Bool, e = .returned (.bool v) ∧ CAt T w' b c a l h (min (k + 1) l.length) ∧ Off b b w w' := by
  have hle := C.le
  by_cases hk : k < l.length
  · rw [Nat.min_eq_left (by omega)]
    exact (cnext_yes K C hk).mono fun e w' ⟨he, hc, ho⟩ => ⟨true, he, hc, ho⟩
  · rw [Nat.min_eq_right (by omega), show l.length = k from by omega]
    exact (cnext_no K C hk).mono fun e w' ⟨he, hb⟩ => ⟨false, he, C.keep hb, Off.of hb⟩
end
theorem find_one {ps : List (List Int)} (P : PsOk ps) {v m : Nat} (hv : v ≤ ps.flatten.length) (hf : FindIs (ps.map pit) 1 v 0 m) : (ps.take m).flatten.length ≤ v ∧ v ≤ (ps.take (m + 1)).flatten.length ∧ (0 < ps.length → m < ps.length) := by
  have sz : ∀ k, sdim ((ps.map pit).take k) 1 = ((ps.take k).flatten.length : Int) := fun k => sdim_pit P k (by omega)
  have hle := hf.le
  rw [List.length_map] at hle
  have h3 : 0 < ps.length → m < ps.length := fun h0 => by
    rcases Nat.lt_or_ge m ps.length with h | h
    · exact h
    · exfalso
      have := hf.no (ps.length - 1) (by omega)
      rw [sz, show ps.length - 1 + 1 = ps.length from by omega, List.take_of_length_le (Nat.le_refl _)] at this
      apply this
      by_cases e : (v : Int) < (ps.flatten.length : Int)
      · exact .inl e
      · exact .inr ⟨rfl, by omega⟩
  refine ⟨?_, ?_, h3⟩
  · rcases Nat.eq_zero_or_pos m with rfl | h0
    · simp
    · have := hf.no (m - 1) (by omega)
      rw [sz, show m - 1 + 1 = m from by omega] at this
      have h1 : ¬ ((v : Int) < ((ps.take m).flatten.length : Int)) := fun h => this (.inl h)
      omega
  · by_cases h0 : 0 < ps.length
    · have := hf.yes (by rw [List.length_map]; exact h3 h0)
      rw [sz] at this
      rcases this with h | ⟨_, h⟩ <;> omega
    · have e : ps = [] := List.eq_nil_of_length_eq_zero (by omega)
      subst e
      simpa using hv
theorem len_take_le (ps : List (List Int)) {j k : Nat} (h : j ≤ k) : (ps.take j).flatten.length ≤ (ps.take k).flatten.length := by
  have := take_le_flatten ps h 1
  have e : ∀ l : List Int, szl l 1 = (l.length : Int) := fun l => rfl
  rw [e, e] at this
  omega
theorem len_take_succ (ps : List (List Int)) {k : Nat} (h : k < ps.length) : (ps.take (k + 1)).flatten.length = (ps.take k).flatten.length + ps[k].length := by
  rw [take_pth h, List.length_append, pth_lt h]
/-- What is cut anew: from where, up to where. -/
structure ReplOk (ps : List (List Int)) (x y a e D : Nat) : Prop where
  la : a ≤ ps.length
  le_ : e ≤ ps.length
  f1 : (ps.take a).flatten.length ≤ x
  f2 : y ≤ (ps.take (e + 1)).flatten.length
  f3 : 8 ≤ x - (ps.take a).flatten.length + D + ((ps.take (e + 1)).flatten.length - y) ∨ (a = 0 ∧ min (e + 1) ps.length = ps.length)
  f4 : ps.length ≤ 1 → a = 0 ∧ min (e + 1) ps.length = ps.length
  f5 : a ≤ min (e + 1) ps.length
theorem repl_no {ps : List (List Int)} (P : PsOk ps) {x y m1 m2 D : Nat} (hxy : x ≤ y) (hy : y ≤ ps.flatten.length) (h1 : FindIs (ps.map pit) 1 x 0 m1) (h2 : FindIs (ps.map pit) 1 y 0 m2)
    (hn : 8 ≤ x - (ps.take m1).flatten.length + D + ((ps.take (m2 + 1)).flatten.length - y)) : ReplOk ps x y m1 m2 D := by
  obtain ⟨a1, a2, a3⟩ := find_one P (by omega) h1
  obtain ⟨b1, b2, b3⟩ := find_one P hy h2
  have l1 := h1.le
  have l2 := h2.le
  rw [List.length_map] at l1 l2
  refine ⟨l1, l2, a1, b2, .inl hn, fun h => by omega, ?_⟩
  rcases Nat.lt_or_ge m2 m1 with h | h
  · exfalso
    have h0 : 0 < ps.length := by omega
    have hb := b3 h0
    have := h1.no m2 h
    rw [sdim_pit P _ (by omega), show szl (ps.take (m2 + 1)).flatten 1 = ((ps.take (m2 + 1)).flatten.length : Int) from rfl] at this
    apply this
    by_cases e : (x : Int) < ((ps.take (m2 + 1)).flatten.length : Int)
    · exact .inl e
    · exact .inr ⟨rfl, by omega⟩
  · omega
theorem repl_yes {ps : List (List Int)} (P : PsOk ps) {x y m1 m2 D : Nat} (hxy : x ≤ y) (hy : y ≤ ps.flatten.length) (h1 : FindIs (ps.map pit) 1 x 0 m1) (h2 : FindIs (ps.map pit) 1 y 0 m2) : ReplOk ps x y (m1 - 1) (min (m2 + 1) ps.length) D := by
  obtain ⟨a1, a2, a3⟩ := find_one P (by omega) h1
  obtain ⟨b1, b2, b3⟩ := find_one P hy h2
  have l1 := h1.le
  have l2 := h2.le
  rw [List.length_map] at l1 l2
  have hm : m1 ≤ m2 + 1 := by
    rcases Nat.lt_or_ge m2 m1 with h | h
    · exfalso
      have h0 : 0 < ps.length := by omega
      have hb := b3 h0
      have := h1.no m2 h
      rw [sdim_pit P _ (by omega), show szl (ps.take (m2 + 1)).flatten 1 = ((ps.take (m2 + 1)).flatten.length : Int) from rfl] at this
      apply this
      by_cases e : (x : Int) < ((ps.take (m2 + 1)).flatten.length : Int)
      · exact .inl e
      · exact .inr ⟨rfl, by omega⟩
    · omega
  have hE := len_take_le ps (show m2 + 1 ≤ min (m2 + 1) ps.length + 1 by omega)
  refine ⟨by omega, by omega, Nat.le_trans (len_take_le ps (by omega)) a1, by omega, ?_, fun h => by omega, by omega⟩
  by_cases hw : m1 - 1 = 0 ∧ min (min (m2 + 1) ps.length + 1) ps.length = ps.length
  · exact .inr hw
  · left
    have hl2 : 2 ≤ ps.length := by omega
    by_cases hm1 : 1 ≤ m1
    · have hk : m1 - 1 < ps.length := by omega
      have e1 := len_take_succ ps hk
      have e2 := P.least hl2 _ (List.getElem_mem hk)
      rw [show m1 - 1 + 1 = m1 from by omega] at e1
      omega
    · have hk : m2 + 1 < ps.length := by omega
      have e1 := len_take_succ ps hk
      have e2 := P.least hl2 _ (List.getElem_mem hk)
      rw [Nat.min_eq_left (by omega)]
      omega
section
variable {p : Option Addr} {ps : List (List Int)} {h : Nat} {w : World}
set_option maxHeartbeats 4000000 in
set_option maxRecDepth 100000 in
theorem rrepl_any (hr : RP w p ps h) (x y : Nat) (hxy : x ≤ y) (hy : y ≤ ps.flatten.length) (s : ByteArray) (hsz : s.size ≤ 100000000) (hfit : ps.flatten.length - (y - x) + (dec s).length ≤ 20000) :
    Calls Tryz.prog 40 #[.pointer p, .int .i64 x, .int .i64 y, .string s] w fun e w' => ∃ (b : Nat) (ps' : List (List Int)) (h' : Nat), e = .returned (.tuple #[.pointer (some ⟨b, 0, none⟩), .int .i64 0]) ∧ RP w' (some ⟨b, 0, none⟩) ps' h' ∧ ps'.flatten = ps.flatten.take x ++ dec s ++ ps.flatten.drop y ∧ Below w.heap.size w w' := by
  have C1 := Lib.hid (rspans_any hr x y true ⟨fun _ => ⟨by omega, by omega, by omega⟩, fun _ => rfl⟩)
  have CC := Lib.hid fun W => count_any s W (by omega)
  have CR := Lib.hid fun (W : World) (hW : Below w.heap.size w W) => rrunes_any (hr.below hW)
  obtain ⟨row, hT, hpc, hto⟩ := rto_fix hr
  have CP := Lib.hid hpc
  have HT := Lib.hid hT
  have C4 := Lib.hid fun (W : World) (hW : Below w.heap.size w W) => hto W 1 x hW (by omega) (by omega) (by show (x : Int) ≤ (ps.flatten.length : Int); omega)
  have C5 := Lib.hid fun (W : World) (hW : Below w.heap.size w W) => hto W 1 y hW (by omega) (by omega) (by show (y : Int) ≤ (ps.flatten.length : Int); omega)
  have CS := Lib.hid fun (W : World) (hW : Below w.heap.size w W) (i j : Nat) (h1 : i ≤ j) (h2 : j ≤ ps.flatten.length) => rslice_any (hr.below hW) i j h1 h2
  have CD := Lib.hid fun (s : ByteArray) (W : World) (h : s.size ≤ 1000000000) => decode_any s W h
  have HP := Lib.hid hr.1
  clear hr hto hT hpc
  obtain ⟨D, hD⟩ : ∃ D, D = dec s := ⟨_, rfl⟩
  have HD := Lib.hid hD
  rw [← hD] at hfit CC ⊢
  clear hD
  have hLm := HP.out.most
  obtain ⟨L, hL⟩ : ∃ L, L = ps.flatten.length := ⟨_, rfl⟩
  have HL := Lib.hid hL
  rw [← hL] at CR hfit hLm hy CS
  clear hL
  go_enter Tryz.func40, Tryz.ntmps40
  go_wp2_with fail
  refine C1.out.mono ?_
  rintro e w1 ⟨rfl, hb1⟩
  have hDl : D.length ≤ 100000000 := by rw [HD.out]; have := dec_len s; omega
  go_wp2_with fail
  refine (CC.out _).mono ?_
  rintro e w2 ⟨rfl, hb2⟩
  have a2 := hb1.trans (hb2.mono hb1.size)
  have hw1 : IntKind.i64.wrap ((y : Int) - (x : Int)) = (y : Int) - (x : Int) := IntWalk.i64_in _ (by omega)
  have hw2 : IntKind.i64.wrap ((D.length : Int) - ((y : Int) - (x : Int))) = (D.length : Int) - ((y : Int) - (x : Int)) := IntWalk.i64_in _ (by omega)
  have hw3 : IntKind.i64.wrap ((L : Int) + ((D.length : Int) - ((y : Int) - (x : Int)))) = (L : Int) + ((D.length : Int) - ((y : Int) - (x : Int))) := IntWalk.i64_in _ (by omega)
  have hnf : ¬ ((20000 : Int) < (L : Int) + ((D.length : Int) - ((y : Int) - (x : Int)))) := by omega
  go_wp2_with fail
  refine (CR.out _ a2).mono ?_
  rintro e w3 ⟨rfl, hb3⟩
  have a3 := a2.trans (hb3.mono a2.size)
  go_wp2_with fail
  refine (C4.out _ a3).mono ?_
  rintro e w4 ⟨b1, m1, rfl, hf1, hbs1, hC1, hb4⟩
  have a4 := a3.trans (hb4.mono a3.size)
  have HF1 := Lib.hid hf1
  have HR1 := Lib.hid hC1.raw
  have hb1w : w.heap.size ≤ b1 := Nat.le_trans a3.size hbs1
  have hm1 := hC1.le
  have hlt1 : b1 < w4.heap.size := hC1.lt
  clear hf1 hC1 hbs1
  go_wp2_with fail
  refine (C5.out _ a4).mono ?_
  rintro e w5 ⟨b2, m2, rfl, hf2, hbs2, hC2, hb5⟩
  have a5 := a4.trans (hb5.mono a4.size)
  have HF2 := Lib.hid hf2
  have HR2 := Lib.hid hC2.raw
  have hb2w : w.heap.size ≤ b2 := Nat.le_trans a4.size hbs2
  have hm2 := hC2.le
  have hne12 : b1 ≠ b2 := by omega
  have HR15 := Lib.hid (RawAt.below HR1.out hb5 hlt1)
  clear hf2 hC2 hbs2 HR1
  rw [List.length_map] at hm1 hm2
  have CE := Lib.hid fun (W : World) (hW : Below w.heap.size w W) (k : Nat) (hk : k ≤ ps.length) (hraw : RawAt 167 W b2 (ccs row (sall ((ps.map pit).take k)))) => cend_u treeQo (CAt.of HT.out hW hb2w hraw (by rw [List.length_map]; exact hk) b2 hb2w)
  have CS1 := Lib.hid fun (W : World) (hW : Below w.heap.size w W) (k : Nat) (hk : k ≤ ps.length) (hraw : RawAt 167 W b1 (ccs row (sall ((ps.map pit).take k)))) => cstart_any (CAt.of HT.out hW hb1w hraw (by rw [List.length_map]; exact hk) b1 hb1w)
  have CB1 := Lib.hid fun (W : World) (hW : Below w.heap.size w W) (k : Nat) (hk : k ≤ ps.length) (hraw : RawAt 167 W b1 (ccs row (sall ((ps.map pit).take k)))) => cback_u treeQo (CAt.of HT.out hW hb1w hraw (by rw [List.length_map]; exact hk) b1 hb1w)
  have CN2 := Lib.hid fun (W : World) (hW : Below w.heap.size w W) (k : Nat) (hk : k ≤ ps.length) (hraw : RawAt 167 W b2 (ccs row (sall ((ps.map pit).take k)))) => cnext_u treeQo (CAt.of HT.out hW hb2w hraw (by rw [List.length_map]; exact hk) b2 hb2w)
  have tf := fld_rd3
  have hx1 := fun (a b c : Int) W => idx3_1 a b c W
  have SZ := Lib.hid fun (k : Nat) => (sall_pit_take HP.out k).2.1
  unfold scs at CE CS1
  go_wp2_with fail
  refine (CE.out _ a5 m2 hm2 HR2.out).mono ?_
  rintro e w6 ⟨rfl, hb6⟩
  have a6 := a5.trans (hb6.mono a5.size)
  have HR16 := Lib.hid (RawAt.below HR15.out hb6 (RawAt.lt HR15.out))
  have HR26 := Lib.hid (RawAt.below HR2.out hb6 (RawAt.lt HR2.out))
  go_wp2_with fail
  refine (CS1.out _ a6 m1 hm1 HR16.out).mono ?_
  rintro e w7 ⟨rfl, hb7⟩
  have a7 := a6.trans (hb7.mono a6.size)
  have HR17 := Lib.hid (RawAt.below HR16.out hb7 (RawAt.lt HR16.out))
  have HR27 := Lib.hid (RawAt.below HR26.out hb7 (RawAt.lt HR26.out))
  have hE2 := SZ.out (m2 + 1)
  have hS1 := SZ.out m1
  clear HR15 HR2 HR16 HR26
  generalize hse : sall ((ps.map pit).take (m2 + 1)) = se at *
  generalize hss : sall ((ps.map pit).take m1) = ss at *
  have HSE := Lib.hid hse
  have HSS := Lib.hid hss
  clear hse hss
  have HE2 := Lib.hid hE2
  have HS1 := Lib.hid hS1
  rw [show szl (ps.take (m2 + 1)).flatten 1 = ((ps.take (m2 + 1)).flatten.length : Int) from rfl] at hE2
  rw [show szl (ps.take m1).flatten 1 = ((ps.take m1).flatten.length : Int) from rfl] at hS1
  have tl : ∀ k, (ps.take k).flatten.length ≤ L := fun k => by
    rw [HL.out]
    conv => rhs; rw [← List.take_append_drop k ps, List.flatten_append, List.length_append]
    omega
  have hE2b := tl (m2 + 1)
  have hS1b := tl m1
  have HTL := Lib.hid tl
  clear tl
  obtain ⟨E, hEn⟩ : ∃ E : Nat, E = (ps.take (m2 + 1)).flatten.length := ⟨_, rfl⟩
  obtain ⟨S, hSn⟩ : ∃ S : Nat, S = (ps.take m1).flatten.length := ⟨_, rfl⟩
  have HEn := Lib.hid hEn
  have HSn := Lib.hid hSn
  rw [← hEn] at hE2 hE2b
  rw [← hSn] at hS1 hS1b
  clear hEn hSn
  obtain ⟨g1, g2, _⟩ := find_one HP.out (v := x) (m := m1) (by rw [← HL.out]; omega) HF1.out
  obtain ⟨g3, g4, _⟩ := find_one HP.out (v := y) (m := m2) (by rw [← HL.out]; omega) HF2.out
  rw [← HSn.out] at g1
  rw [← HEn.out] at g4
  clear g2 g3
  have hw4 : IntKind.i64.wrap (se.d1 - ss.d1) = se.d1 - ss.d1 := IntWalk.i64_in _ (by omega)
  have hw5 : IntKind.i64.wrap (se.d1 - ss.d1 + ((D.length : Int) - ((y : Int) - (x : Int)))) = se.d1 - ss.d1 + ((D.length : Int) - ((y : Int) - (x : Int))) := IntWalk.i64_in _ (by omega)
  have hw4' : wrap64 (se.d1 - ss.d1) = se.d1 - ss.d1 := IntWalk.wrap64_in _ ⟨by omega, by omega⟩
  have hw5' : wrap64 (se.d1 - ss.d1 + ((D.length : Int) - ((y : Int) - (x : Int)))) = se.d1 - ss.d1 + ((D.length : Int) - ((y : Int) - (x : Int))) := IntWalk.wrap64_in _ ⟨by omega, by omega⟩
  have fin : ∀ k, (sall ((ps.map pit).take k)).n = ((min k ps.length : Nat) : Int) := fun k => by
    rw [(sall_ok _ _ rfl (HP.out.okl.take_ k)).1, List.length_take, List.length_map]
  have FIN := Lib.hid fin
  clear fin
  by_cases hc : se.d1 - ss.d1 + ((D.length : Int) - ((y : Int) - (x : Int))) < 8
  · have HRO := Lib.hid (repl_yes HP.out hxy (by rw [← HL.out]; exact hy) HF1.out HF2.out (D := D.length))
    go_wp2_with fail
    refine (CB1.out _ a7 m1 hm1 (by rw [HSS.out]; exact HR17.out)).mono ?_
    rintro e w8 ⟨v8, rfl, hC8, ho8⟩
    have a8 := a7.trans (ho8.below hb1w hb1w a7.size)
    have HA8 := Lib.hid hC8.raw
    have HR28 := Lib.hid (ho8.raw HR27.out (by omega) (by omega))
    clear hC8
    go_wp2_with fail
    refine (CN2.out _ a8 m2 hm2 HR28.out).mono ?_
    rintro e w9 ⟨v9, rfl, hC9, ho9⟩
    have hW := a8.trans (ho9.below hb2w hb2w a8.size)
    have HB := Lib.hid hC9.raw
    have HA := Lib.hid (ho9.raw HA8.out (by omega) (by omega))
    rw [List.length_map] at HB
    clear hC9 ho9 ho8 HA8 HR28 a8
    generalize m1 - 1 = a at *
    generalize min (m2 + 1) ps.length = e at *
    clear hc hw4 hw5 hw4' hw5' g1 g4 hE2 hS1 hE2b hS1b HEn HSn HSE HSS HE2 HS1 HR17 HR27 HF1 HF2 hm1 hm2 a7 a6 hb6 hb7 a5 hb5 a4 hb4 hlt1
    generalize w9 = W at *
    go_wp2_with fail
    obtain ⟨ra, re, rf1, rf2, rf3, rf4, rf5⟩ := HRO.out
    refine (CS1.out _ hW a ra HA.out).mono ?_
    rintro e0 w10 ⟨rfl, hb10⟩
    have a10 := hW.trans (hb10.mono hW.size)
    have HA10 := Lib.hid (RawAt.below HA.out hb10 (RawAt.lt HA.out))
    have HB10 := Lib.hid (RawAt.below HB.out hb10 (RawAt.lt HB.out))
    have hd1 := SZ.out a
    have hn1 := FIN.out a
    rw [show szl (ps.take a).flatten 1 = ((ps.take a).flatten.length : Int) from rfl] at hd1
    rw [Nat.min_eq_left ra] at hn1
    have hX0b := HTL.out a
    obtain ⟨X0, hX0⟩ : ∃ X0, X0 = (ps.take a).flatten.length := ⟨_, rfl⟩
    rw [← hX0] at hd1 hX0b rf1 rf3
    have HX0 := Lib.hid hX0
    clear hX0
    generalize hsa : sall ((ps.map pit).take a) = sa at *
    have HSA := Lib.hid hsa
    clear hsa
    have CSL1 := Lib.hid (CS.out w10 a10 X0 x rf1 (by omega))
    clear hb10 HA HB
    have tf0 := fld_n6
    go_wp2_with fail
    refine CSL1.out.mono ?_
    rintro e0 w11 ⟨rfl, hb11⟩
    have a11 := a10.trans (hb11.mono a10.size)
    have HA11 := Lib.hid (RawAt.below HA10.out hb11 (RawAt.lt HA10.out))
    have HB11 := Lib.hid (RawAt.below HB10.out hb11 (RawAt.lt HB10.out))
    have ht1 : (txt ((ps.flatten.take x).drop X0)).size ≤ 1000000000 := by rw [txt_size]; have := encAll_len ((ps.flatten.take x).drop X0); rw [List.length_drop, List.length_take] at this; omega
    have hdc1 := dec_txt ((HP.out.cln.take_ x).drop_ X0)
    obtain ⟨FR, hFR⟩ : ∃ FR, FR = (ps.flatten.take x).drop X0 := ⟨_, rfl⟩
    rw [← hFR] at ht1 hdc1
    have HFR := Lib.hid hFR
    rw [← hFR]
    clear hFR HA10 HB10 hb11 CSL1
    go_wp2_with fail
    refine (CE.out _ a11 e re HB11.out).mono ?_
    rintro e0 w12 ⟨rfl, hb12⟩
    have a12 := a11.trans (hb12.mono a11.size)
    have HA12 := Lib.hid (RawAt.below HA11.out hb12 (RawAt.lt HA11.out))
    have HB12 := Lib.hid (RawAt.below HB11.out hb12 (RawAt.lt HB11.out))
    have hd2 := SZ.out (e + 1)
    have hn2 := FIN.out (e + 1)
    obtain ⟨e1, he1⟩ : ∃ e1, e1 = min (e + 1) ps.length := ⟨_, rfl⟩
    rw [← he1] at hn2 rf3 rf4 rf5
    have HE1 := Lib.hid he1
    clear he1
    rw [show szl (ps.take (e + 1)).flatten 1 = ((ps.take (e + 1)).flatten.length : Int) from rfl] at hd2
    have hY0b := HTL.out (e + 1)
    obtain ⟨Y0, hY0⟩ : ∃ Y0, Y0 = (ps.take (e + 1)).flatten.length := ⟨_, rfl⟩
    rw [← hY0] at hd2 hY0b rf2 rf3
    have HY0 := Lib.hid hY0
    clear hY0
    generalize hsb : sall ((ps.map pit).take (e + 1)) = sb at *
    have HSB := Lib.hid hsb
    clear hsb
    have CSL2 := Lib.hid (CS.out w12 a12 y Y0 rf2 hY0b)
    clear hb12 HA11 HB11
    go_wp2_with fail
    refine CSL2.out.mono ?_
    rintro e0 w13 ⟨rfl, hb13⟩
    have a13 := a12.trans (hb13.mono a12.size)
    have HA13 := Lib.hid (RawAt.below HA12.out hb13 (RawAt.lt HA12.out))
    have HB13 := Lib.hid (RawAt.below HB12.out hb13 (RawAt.lt HB12.out))
    have ht2 : (txt ((ps.flatten.take Y0).drop y)).size ≤ 1000000000 := by rw [txt_size]; have := encAll_len ((ps.flatten.take Y0).drop y); rw [List.length_drop, List.length_take] at this; omega
    have hdc2 := dec_txt ((HP.out.cln.take_ Y0).drop_ y)
    obtain ⟨BK, hBK⟩ : ∃ BK, BK = (ps.flatten.take Y0).drop y := ⟨_, rfl⟩
    rw [← hBK] at ht2 hdc2
    have HBK := Lib.hid hBK
    rw [← hBK]
    clear hBK HA12 HB12 hb13 CSL2
    have CD1 := Lib.hid fun (W : World) => (by have := CD.out (txt FR) W ht1; rwa [hdc1] at this : Calls Tryz.prog 75 #[.string (txt FR)] W fun e w' => ∃ A c, e = .returned (.slice A FR.length c) ∧ Below W.heap.size W w' ∧ IntsAt .i32 w' A FR ∧ Caps A FR.length c)
    have CD2 := Lib.hid fun (W : World) => (by have := CD.out s W (by omega); rwa [← HD.out] at this : Calls Tryz.prog 75 #[.string s] W fun e w' => ∃ A c, e = .returned (.slice A D.length c) ∧ Below W.heap.size W w' ∧ IntsAt .i32 w' A D ∧ Caps A D.length c)
    have CD3 := Lib.hid fun (W : World) => (by have := CD.out (txt BK) W ht2; rwa [hdc2] at this : Calls Tryz.prog 75 #[.string (txt BK)] W fun e w' => ∃ A c, e = .returned (.slice A BK.length c) ∧ Below W.heap.size W w' ∧ IntsAt .i32 w' A BK ∧ Caps A BK.length c)
    clear ht1 hdc1 ht2 hdc2
    have hFRl : FR.length = x - X0 := by rw [HFR.out, List.length_drop, List.length_take]; have := HL.out; omega
    have hBKl : BK.length = Y0 - y := by rw [HBK.out, List.length_drop, List.length_take]; have := HL.out; omega
    have HFRl := Lib.hid hFRl
    have HBKl := Lib.hid hBKl
    have hsum : FR.length ≤ 20000 ∧ BK.length ≤ 20000 ∧ D.length ≤ 20000 := ⟨by omega, by omega, by omega⟩
    obtain ⟨hs1, hs2, hs3⟩ := hsum
    clear hFRl hBKl
    go_wp2_with fail
    refine (CD1.out _).mono ?_
    rintro e0 w14 ⟨A1, c1, rfl, hb14, hI14, hC14⟩
    have a14 := a13.trans (hb14.mono a13.size)
    have HI14 := Lib.hid hI14
    have HC14 := Lib.hid hC14
    clear hI14 hC14
    go_wp2_with fail
    refine (CD2.out _).mono ?_
    rintro e0 w15 ⟨A2, c2, rfl, hb15, hI15, hC15⟩
    have a15 := a14.trans (hb15.mono a14.size)
    have HI15 := Lib.hid hI15
    have HC15 := Lib.hid hC15
    clear hI15 hC15
    go_wp2_with fail
    refine (CD3.out _).mono ?_
    rintro e0 w16 ⟨A3, c3, rfl, hb16, hI16, hC16⟩
    have a16 := a15.trans (hb16.mono a15.size)
    have HI16 := Lib.hid hI16
    have HC16 := Lib.hid hC16
    clear hI16 hC16
    have x17 : Below w16.heap.size w16 (w16.alloc (.cells #[.slice A1 FR.length c1, .slice A2 D.length c2, .slice A3 BK.length c3] 30)) := (Below.refl _ _).alloc (Nat.le_refl _) _
    have HV := Lib.hid (VsAt.of_cells (w := w16.alloc (.cells #[.slice A1 FR.length c1, .slice A2 D.length c2, .slice A3 BK.length c3] 30)) (b := w16.heap.size) (off := 0) (l := [.slice A1 FR.length c1, .slice A2 D.length c2, .slice A3 BK.length c3]) (by simp) (fun j u hu => by
      rw [cell_of_row _ _ _ _ _ _ (heap_alloc_new w16 _), Nat.zero_add, ← Array.getElem?_toList]; exact hu))
    have CCt := Lib.hid (concatR_any _ A1 A2 A3 FR.length c1 D.length c2 BK.length c3 FR D BK _ HV.out (((HI14.out.below hb15).below hb16).below x17) rfl HC14.out ((HI15.out.below hb16).below x17) rfl HC15.out (HI16.out.below x17) rfl HC16.out (by omega) (by omega) (by omega))
    clear HV
    go_wp2_with fail
    refine CCt.out.mono ?_
    rintro e0 w18 ⟨A4, c4, rfl, hb18, hI18, hC18⟩
    have hb17 := x17.trans (hb18.mono x17.size)
    have a18 := a16.trans (hb17.mono a16.size)
    have b18 := ((hb14.trans (hb15.mono hb14.size)).trans (hb16.mono (hb14.trans (hb15.mono hb14.size)).size)).trans (hb17.mono ((hb14.trans (hb15.mono hb14.size)).trans (hb16.mono (hb14.trans (hb15.mono hb14.size)).size)).size)
    have HA18 := Lib.hid (RawAt.below HA13.out b18 (RawAt.lt HA13.out))
    have HB18 := Lib.hid (RawAt.below HB13.out b18 (RawAt.lt HB13.out))
    have HI18 := Lib.hid hI18
    have HC18 := Lib.hid hC18
    clear hI18 hC18 b18 hb17 hb18 x17 hb14 hb15 hb16 CCt CD1 CD2 CD3 HA13 HB13
    have CPc := Lib.hid (CP.out w18 a18)
    go_wp2_with fail
    refine CPc.out.mono ?_
    rintro e0 w19 ⟨rfl, hw19⟩
    have hw19 := hw19.symm
    subst hw19
    have CS1b := Lib.hid (CS1.out w18 a18 a ra (by rw [HSA.out]; exact HA18.out))
    rw [HSA.out] at CS1b
    go_wp2_with fail
    refine CS1b.out.mono ?_
    rintro e0 w20 ⟨rfl, hb20⟩
    have a20 := a18.trans (hb20.mono a18.size)
    have HB20 := Lib.hid (RawAt.below HB18.out hb20 (RawAt.lt HB18.out))
    have CEb := Lib.hid (CE.out w20 a20 e re HB20.out)
    rw [HSB.out] at CEb
    go_wp2_with fail
    refine CEb.out.mono ?_
    rintro e0 w21 ⟨rfl, hb21⟩
    have a21 := a20.trans (hb21.mono a20.size)
    have b21 := hb20.trans (hb21.mono hb20.size)
    have hcln : Cln (FR ++ D ++ BK) := by
      rw [HFR.out, HBK.out, HD.out]
      exact (((HP.out.cln.take_ x).drop_ X0).append_ (cln_dec s)).append_ ((HP.out.cln.take_ Y0).drop_ y)
    have CKT := Lib.hid (rcut_any A4 (FR.length + D.length + BK.length) c4 (FR ++ D ++ BK) w21 (HI18.out.below b21) (by simp; omega) HC18.out (by omega) hcln)
    go_wp2_with fail
    refine CKT.out.mono ?_
    rintro e0 w22 ⟨A5, c5, rfl, hb22, hI22, hC22⟩
    have a22 := a21.trans (hb22.mono a21.size)
    have hte : ps.take (e + 1) = ps.take e1 := by
      rw [HE1.out]
      rcases Nat.le_total (e + 1) ps.length with hq | hq
      · rw [Nat.min_eq_left hq]
      · rw [Nat.min_eq_right hq, List.take_of_length_le hq, List.take_of_length_le (Nat.le_refl _)]
    have hx0 := HX0.out
    have hy0 := HY0.out
    rw [hte] at hy0
    have hfr := HFR.out
    have hbk := HBK.out
    rw [hx0] at hfr rf1
    rw [hy0] at hbk rf2
    have hpf := put_flatten ps D (a := a) (b := e1) (x := x) (y := y) rf1 rf2
    rw [← hfr, ← hbk] at hpf
    have hfl1 := HFRl.out
    have hbl1 := HBKl.out
    have hpl : (ps.take a ++ cuts (FR ++ D ++ BK) ++ ps.drop e1).flatten.length ≤ 20000 := by
      rw [hpf]
      simp only [List.length_append, List.length_take, List.length_drop]
      have := HL.out
      omega
    have hPO := PsOk.put HP.out (a := a) (b := e1) (l := FR ++ D ++ BK) hcln (by
      simp only [List.length_append]
      rcases rf3 with h9 | h9
      · left; omega
      · exact .inr h9) rf4 hpl
    have hokl : Okl ((cuts (FR ++ D ++ BK)).map pit) := fun i hi => hPO.okl i (by
      obtain ⟨q, hq, rfl⟩ := List.mem_map.1 hi
      exact List.mem_map.2 ⟨q, List.mem_append.2 (.inl (List.mem_append.2 (.inr hq))), rfl⟩)
    have hcn : cutN (FR ++ D ++ BK) ≤ 10000 := by unfold cutN; simp only [List.length_append]; omega
    have hle1 : e1 ≤ ps.length := by rw [HE1.out]; omega
    have hpl2 := HP.out.len
    have CT := Lib.hid (trepl_any row (ps.map pit) ((cuts (FR ++ D ++ BK)).map pit) h a e1 A5 (cutN (FR ++ D ++ BK)) c5 w22 (HT.out.below a22) rf5 (by rw [List.length_map]; exact hle1) hI22 (by rw [List.length_map, cuts_length]) hC22 (by rw [List.length_map]; omega) hokl)
    rw [show (ps.map pit).take a ++ (cuts (FR ++ D ++ BK)).map pit ++ (ps.map pit).drop e1 = (ps.take a ++ cuts (FR ++ D ++ BK) ++ ps.drop e1).map pit from by simp] at CT
    have HPF := Lib.hid hpf
    have HPO := Lib.hid hPO
    clear hpf hPO hokl hcn hle1 hpl2 hpl hfr hbk hx0 hy0 hte rf1 rf2 rf3 rf4 rf5 hI22 hC22 hfl1 hbl1
    generalize hps' : ps.take a ++ cuts (FR ++ D ++ BK) ++ ps.drop e1 = ps' at *
    generalize cutN (FR ++ D ++ BK) = N at *
    clear hps'
    go_wp2_with fail
    refine CT.out.mono ?_
    rintro e0 w23 ⟨ra', h', rfl, hT23, hb23⟩
    have a23 := a22.trans (hb23.mono a22.size)
    have x24 : Below w23.heap.size w23 (w23.alloc (.cells #[.pointer (some ra')] 141)) := (Below.refl _ _).alloc (Nat.le_refl _) _
    have R24 : RawAt 141 (w23.alloc (.cells #[.pointer (some ra')] 141)) w23.heap.size #[.pointer (some ra')] := heap_alloc_new w23 _
    have hRP : RP (w23.alloc (.cells #[.pointer (some ra')] 141)) (some ⟨w23.heap.size, 0, none⟩) ps' h' := ⟨HPO.out, .inr ⟨_, _, rfl, R24, hT23.below x24⟩⟩
    have HRP := Lib.hid hRP
    have a24 := a23.trans (x24.mono a23.size)
    clear hRP R24 x24 hT23
    go_wp2
    refine bodyPost_ret (v := .tuple #[.pointer (some ⟨w23.heap.size, 0, none⟩), .int .i64 0]) (by simp [results, Tryz.results40, go_sem]) rfl ⟨w23.heap.size, ps', h', rfl, HRP.out, HPF.out, a24⟩
  · have HRO := Lib.hid (repl_no HP.out hxy (by rw [← HL.out]; exact hy) HF1.out HF2.out (D := D.length) (by rw [← HEn.out, ← HSn.out]; omega))
    have hW := a7
    have HA := HR17
    have HB := HR27
    rw [← HSS.out] at HA
    go_wp2_with fail
    generalize m1 = a at *
    generalize m2 = e at *
    clear hc hw4 hw5 hw4' hw5' g1 g4 hE2 hS1 hE2b hS1b HEn HSn HSE HSS HE2 HS1 HR17 HR27 HF1 HF2 hm1 hm2 a7 a6 hb6 hb7 a5 hb5 a4 hb4 hlt1
    generalize w7 = W at *
    obtain ⟨ra, re, rf1, rf2, rf3, rf4, rf5⟩ := HRO.out
    refine (CS1.out _ hW a ra HA.out).mono ?_
    rintro e0 w10 ⟨rfl, hb10⟩
    have a10 := hW.trans (hb10.mono hW.size)
    have HA10 := Lib.hid (RawAt.below HA.out hb10 (RawAt.lt HA.out))
    have HB10 := Lib.hid (RawAt.below HB.out hb10 (RawAt.lt HB.out))
    have hd1 := SZ.out a
    have hn1 := FIN.out a
    rw [show szl (ps.take a).flatten 1 = ((ps.take a).flatten.length : Int) from rfl] at hd1
    rw [Nat.min_eq_left ra] at hn1
    have hX0b := HTL.out a
    obtain ⟨X0, hX0⟩ : ∃ X0, X0 = (ps.take a).flatten.length := ⟨_, rfl⟩
    rw [← hX0] at hd1 hX0b rf1 rf3
    have HX0 := Lib.hid hX0
    clear hX0
    generalize hsa : sall ((ps.map pit).take a) = sa at *
    have HSA := Lib.hid hsa
    clear hsa
    have CSL1 := Lib.hid (CS.out w10 a10 X0 x rf1 (by omega))
    clear hb10 HA HB
    have tf0 := fld_n6
    go_wp2_with fail
    refine CSL1.out.mono ?_
    rintro e0 w11 ⟨rfl, hb11⟩
    have a11 := a10.trans (hb11.mono a10.size)
    have HA11 := Lib.hid (RawAt.below HA10.out hb11 (RawAt.lt HA10.out))
    have HB11 := Lib.hid (RawAt.below HB10.out hb11 (RawAt.lt HB10.out))
    have ht1 : (txt ((ps.flatten.take x).drop X0)).size ≤ 1000000000 := by rw [txt_size]; have := encAll_len ((ps.flatten.take x).drop X0); rw [List.length_drop, List.length_take] at this; omega
    have hdc1 := dec_txt ((HP.out.cln.take_ x).drop_ X0)
    obtain ⟨FR, hFR⟩ : ∃ FR, FR = (ps.flatten.take x).drop X0 := ⟨_, rfl⟩
    rw [← hFR] at ht1 hdc1
    have HFR := Lib.hid hFR
    rw [← hFR]
    clear hFR HA10 HB10 hb11 CSL1
    go_wp2_with fail
    refine (CE.out _ a11 e re HB11.out).mono ?_
    rintro e0 w12 ⟨rfl, hb12⟩
    have a12 := a11.trans (hb12.mono a11.size)
    have HA12 := Lib.hid (RawAt.below HA11.out hb12 (RawAt.lt HA11.out))
    have HB12 := Lib.hid (RawAt.below HB11.out hb12 (RawAt.lt HB11.out))
    have hd2 := SZ.out (e + 1)
    have hn2 := FIN.out (e + 1)
    obtain ⟨e1, he1⟩ : ∃ e1, e1 = min (e + 1) ps.length := ⟨_, rfl⟩
    rw [← he1] at hn2 rf3 rf4 rf5
    have HE1 := Lib.hid he1
    clear he1
    rw [show szl (ps.take (e + 1)).flatten 1 = ((ps.take (e + 1)).flatten.length : Int) from rfl] at hd2
    have hY0b := HTL.out (e + 1)
    obtain ⟨Y0, hY0⟩ : ∃ Y0, Y0 = (ps.take (e + 1)).flatten.length := ⟨_, rfl⟩
    rw [← hY0] at hd2 hY0b rf2 rf3
    have HY0 := Lib.hid hY0
    clear hY0
    generalize hsb : sall ((ps.map pit).take (e + 1)) = sb at *
    have HSB := Lib.hid hsb
    clear hsb
    have CSL2 := Lib.hid (CS.out w12 a12 y Y0 rf2 hY0b)
    clear hb12 HA11 HB11
    go_wp2_with fail
    refine CSL2.out.mono ?_
    rintro e0 w13 ⟨rfl, hb13⟩
    have a13 := a12.trans (hb13.mono a12.size)
    have HA13 := Lib.hid (RawAt.below HA12.out hb13 (RawAt.lt HA12.out))
    have HB13 := Lib.hid (RawAt.below HB12.out hb13 (RawAt.lt HB12.out))
    have ht2 : (txt ((ps.flatten.take Y0).drop y)).size ≤ 1000000000 := by rw [txt_size]; have := encAll_len ((ps.flatten.take Y0).drop y); rw [List.length_drop, List.length_take] at this; omega
    have hdc2 := dec_txt ((HP.out.cln.take_ Y0).drop_ y)
    obtain ⟨BK, hBK⟩ : ∃ BK, BK = (ps.flatten.take Y0).drop y := ⟨_, rfl⟩
    rw [← hBK] at ht2 hdc2
    have HBK := Lib.hid hBK
    rw [← hBK]
    clear hBK HA12 HB12 hb13 CSL2
    have CD1 := Lib.hid fun (W : World) => (by have := CD.out (txt FR) W ht1; rwa [hdc1] at this : Calls Tryz.prog 75 #[.string (txt FR)] W fun e w' => ∃ A c, e = .returned (.slice A FR.length c) ∧ Below W.heap.size W w' ∧ IntsAt .i32 w' A FR ∧ Caps A FR.length c)
    have CD2 := Lib.hid fun (W : World) => (by have := CD.out s W (by omega); rwa [← HD.out] at this : Calls Tryz.prog 75 #[.string s] W fun e w' => ∃ A c, e = .returned (.slice A D.length c) ∧ Below W.heap.size W w' ∧ IntsAt .i32 w' A D ∧ Caps A D.length c)
    have CD3 := Lib.hid fun (W : World) => (by have := CD.out (txt BK) W ht2; rwa [hdc2] at this : Calls Tryz.prog 75 #[.string (txt BK)] W fun e w' => ∃ A c, e = .returned (.slice A BK.length c) ∧ Below W.heap.size W w' ∧ IntsAt .i32 w' A BK ∧ Caps A BK.length c)
    clear ht1 hdc1 ht2 hdc2
    have hFRl : FR.length = x - X0 := by rw [HFR.out, List.length_drop, List.length_take]; have := HL.out; omega
    have hBKl : BK.length = Y0 - y := by rw [HBK.out, List.length_drop, List.length_take]; have := HL.out; omega
    have HFRl := Lib.hid hFRl
    have HBKl := Lib.hid hBKl
    have hsum : FR.length ≤ 20000 ∧ BK.length ≤ 20000 ∧ D.length ≤ 20000 := ⟨by omega, by omega, by omega⟩
    obtain ⟨hs1, hs2, hs3⟩ := hsum
    clear hFRl hBKl
    go_wp2_with fail
    refine (CD1.out _).mono ?_
    rintro e0 w14 ⟨A1, c1, rfl, hb14, hI14, hC14⟩
    have a14 := a13.trans (hb14.mono a13.size)
    have HI14 := Lib.hid hI14
    have HC14 := Lib.hid hC14
    clear hI14 hC14
    go_wp2_with fail
    refine (CD2.out _).mono ?_
    rintro e0 w15 ⟨A2, c2, rfl, hb15, hI15, hC15⟩
    have a15 := a14.trans (hb15.mono a14.size)
    have HI15 := Lib.hid hI15
    have HC15 := Lib.hid hC15
    clear hI15 hC15
    go_wp2_with fail
    refine (CD3.out _).mono ?_
    rintro e0 w16 ⟨A3, c3, rfl, hb16, hI16, hC16⟩
    have a16 := a15.trans (hb16.mono a15.size)
    have HI16 := Lib.hid hI16
    have HC16 := Lib.hid hC16
    clear hI16 hC16
    have x17 : Below w16.heap.size w16 (w16.alloc (.cells #[.slice A1 FR.length c1, .slice A2 D.length c2, .slice A3 BK.length c3] 30)) := (Below.refl _ _).alloc (Nat.le_refl _) _
    have HV := Lib.hid (VsAt.of_cells (w := w16.alloc (.cells #[.slice A1 FR.length c1, .slice A2 D.length c2, .slice A3 BK.length c3] 30)) (b := w16.heap.size) (off := 0) (l := [.slice A1 FR.length c1, .slice A2 D.length c2, .slice A3 BK.length c3]) (by simp) (fun j u hu => by
      rw [cell_of_row _ _ _ _ _ _ (heap_alloc_new w16 _), Nat.zero_add, ← Array.getElem?_toList]; exact hu))
    have CCt := Lib.hid (concatR_any _ A1 A2 A3 FR.length c1 D.length c2 BK.length c3 FR D BK _ HV.out (((HI14.out.below hb15).below hb16).below x17) rfl HC14.out ((HI15.out.below hb16).below x17) rfl HC15.out (HI16.out.below x17) rfl HC16.out (by omega) (by omega) (by omega))
    clear HV
    go_wp2_with fail
    refine CCt.out.mono ?_
    rintro e0 w18 ⟨A4, c4, rfl, hb18, hI18, hC18⟩
    have hb17 := x17.trans (hb18.mono x17.size)
    have a18 := a16.trans (hb17.mono a16.size)
    have b18 := ((hb14.trans (hb15.mono hb14.size)).trans (hb16.mono (hb14.trans (hb15.mono hb14.size)).size)).trans (hb17.mono ((hb14.trans (hb15.mono hb14.size)).trans (hb16.mono (hb14.trans (hb15.mono hb14.size)).size)).size)
    have HA18 := Lib.hid (RawAt.below HA13.out b18 (RawAt.lt HA13.out))
    have HB18 := Lib.hid (RawAt.below HB13.out b18 (RawAt.lt HB13.out))
    have HI18 := Lib.hid hI18
    have HC18 := Lib.hid hC18
    clear hI18 hC18 b18 hb17 hb18 x17 hb14 hb15 hb16 CCt CD1 CD2 CD3 HA13 HB13
    have CPc := Lib.hid (CP.out w18 a18)
    go_wp2_with fail
    refine CPc.out.mono ?_
    rintro e0 w19 ⟨rfl, hw19⟩
    have hw19 := hw19.symm
    subst hw19
    have CS1b := Lib.hid (CS1.out w18 a18 a ra (by rw [HSA.out]; exact HA18.out))
    rw [HSA.out] at CS1b
    go_wp2_with fail
    refine CS1b.out.mono ?_
    rintro e0 w20 ⟨rfl, hb20⟩
    have a20 := a18.trans (hb20.mono a18.size)
    have HB20 := Lib.hid (RawAt.below HB18.out hb20 (RawAt.lt HB18.out))
    have CEb := Lib.hid (CE.out w20 a20 e re HB20.out)
    rw [HSB.out] at CEb
    go_wp2_with fail
    refine CEb.out.mono ?_
    rintro e0 w21 ⟨rfl, hb21⟩
    have a21 := a20.trans (hb21.mono a20.size)
    have b21 := hb20.trans (hb21.mono hb20.size)
    have hcln : Cln (FR ++ D ++ BK) := by
      rw [HFR.out, HBK.out, HD.out]
      exact (((HP.out.cln.take_ x).drop_ X0).append_ (cln_dec s)).append_ ((HP.out.cln.take_ Y0).drop_ y)
    have CKT := Lib.hid (rcut_any A4 (FR.length + D.length + BK.length) c4 (FR ++ D ++ BK) w21 (HI18.out.below b21) (by simp; omega) HC18.out (by omega) hcln)
    go_wp2_with fail
    refine CKT.out.mono ?_
    rintro e0 w22 ⟨A5, c5, rfl, hb22, hI22, hC22⟩
    have a22 := a21.trans (hb22.mono a21.size)
    have hte : ps.take (e + 1) = ps.take e1 := by
      rw [HE1.out]
      rcases Nat.le_total (e + 1) ps.length with hq | hq
      · rw [Nat.min_eq_left hq]
      · rw [Nat.min_eq_right hq, List.take_of_length_le hq, List.take_of_length_le (Nat.le_refl _)]
    have hx0 := HX0.out
    have hy0 := HY0.out
    rw [hte] at hy0
    have hfr := HFR.out
    have hbk := HBK.out
    rw [hx0] at hfr rf1
    rw [hy0] at hbk rf2
    have hpf := put_flatten ps D (a := a) (b := e1) (x := x) (y := y) rf1 rf2
    rw [← hfr, ← hbk] at hpf
    have hfl1 := HFRl.out
    have hbl1 := HBKl.out
    have hpl : (ps.take a ++ cuts (FR ++ D ++ BK) ++ ps.drop e1).flatten.length ≤ 20000 := by
      rw [hpf]
      simp only [List.length_append, List.length_take, List.length_drop]
      have := HL.out
      omega
    have hPO := PsOk.put HP.out (a := a) (b := e1) (l := FR ++ D ++ BK) hcln (by
      simp only [List.length_append]
      rcases rf3 with h9 | h9
      · left; omega
      · exact .inr h9) rf4 hpl
    have hokl : Okl ((cuts (FR ++ D ++ BK)).map pit) := fun i hi => hPO.okl i (by
      obtain ⟨q, hq, rfl⟩ := List.mem_map.1 hi
      exact List.mem_map.2 ⟨q, List.mem_append.2 (.inl (List.mem_append.2 (.inr hq))), rfl⟩)
    have hcn : cutN (FR ++ D ++ BK) ≤ 10000 := by unfold cutN; simp only [List.length_append]; omega
    have hle1 : e1 ≤ ps.length := by rw [HE1.out]; omega
    have hpl2 := HP.out.len
    have CT := Lib.hid (trepl_any row (ps.map pit) ((cuts (FR ++ D ++ BK)).map pit) h a e1 A5 (cutN (FR ++ D ++ BK)) c5 w22 (HT.out.below a22) rf5 (by rw [List.length_map]; exact hle1) hI22 (by rw [List.length_map, cuts_length]) hC22 (by rw [List.length_map]; omega) hokl)
    rw [show (ps.map pit).take a ++ (cuts (FR ++ D ++ BK)).map pit ++ (ps.map pit).drop e1 = (ps.take a ++ cuts (FR ++ D ++ BK) ++ ps.drop e1).map pit from by simp] at CT
    have HPF := Lib.hid hpf
    have HPO := Lib.hid hPO
    clear hpf hPO hokl hcn hle1 hpl2 hpl hfr hbk hx0 hy0 hte rf1 rf2 rf3 rf4 rf5 hI22 hC22 hfl1 hbl1
    generalize hps' : ps.take a ++ cuts (FR ++ D ++ BK) ++ ps.drop e1 = ps' at *
    generalize cutN (FR ++ D ++ BK) = N at *
    clear hps'
    go_wp2_with fail
    refine CT.out.mono ?_
    rintro e0 w23 ⟨ra', h', rfl, hT23, hb23⟩
    have a23 := a22.trans (hb23.mono a22.size)
    have x24 : Below w23.heap.size w23 (w23.alloc (.cells #[.pointer (some ra')] 141)) := (Below.refl _ _).alloc (Nat.le_refl _) _
    have R24 : RawAt 141 (w23.alloc (.cells #[.pointer (some ra')] 141)) w23.heap.size #[.pointer (some ra')] := heap_alloc_new w23 _
    have hRP : RP (w23.alloc (.cells #[.pointer (some ra')] 141)) (some ⟨w23.heap.size, 0, none⟩) ps' h' := ⟨HPO.out, .inr ⟨_, _, rfl, R24, hT23.below x24⟩⟩
    have HRP := Lib.hid hRP
    have a24 := a23.trans (x24.mono a23.size)
    clear hRP R24 x24 hT23
    go_wp2
    refine bodyPost_ret (v := .tuple #[.pointer (some ⟨w23.heap.size, 0, none⟩), .int .i64 0]) (by simp [results, Tryz.results40, go_sem]) rfl ⟨w23.heap.size, ps', h', rfl, HRP.out, HPF.out, a24⟩
end
end Go.Proofs.YtpnjokhhbjpciaaGreatDoor
