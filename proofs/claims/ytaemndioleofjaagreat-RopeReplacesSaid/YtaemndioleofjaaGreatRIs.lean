/- Methods of trees: Height. A rope's height. Is a rope that of some runes? The contract of the law's 'is', where it is so; the law RopeNew. The document's text with others in the place of some: the contracts of bodkinref07.Inside, Put, Replace. The law RopeReplaces. -/
import Derived.Test.YtaemndioleofjaaGreatTreeT
import Derived.Test.YtaemndioleofjaaGreatRopeA
import Derived.Test.YtaemndioleofjaaGreatRWide
import Derived.Test.YtaemndioleofjaaGreatRef7
import Derived.Test.YtaemndioleofjaaGreatRDec
import Derived.Test.YtaemndioleofjaaGreatRefEnc
import Derived.Test.YtaemndioleofjaaGreatRefHigh
namespace Go.Proofs.YtaemndioleofjaaGreat
open Go.RowKit
set_option maxHeartbeats 4000000 in
set_option maxRecDepth 100000 in
theorem theight_any (p : Option Addr) (l : List I7) (h : Nat) (w : World) (ht : TP w p l h) :
    Calls Tryz.prog 60 #[.pointer p] w fun e w' => e = .returned (.int .i64 h) ∧ Below w.heap.size w w' := by
  have C1 := Lib.hid (root_any p l h w ht)
  go_enter Tryz.func60, Tryz.ntmps60
  go_wp2_with fail
  refine C1.out.mono ?_
  rintro e w1 ⟨v, rfl, hT, rfl⟩
  have C2 : Hid (Calls Tryz.prog 85 #[v] w1 fun e w' => e = .returned (.int .i64 h) ∧ w' = w1) := by
    rcases hT with ⟨rfl, rfl, rfl⟩ | ⟨c, hk, _⟩
    · exact heightOf_nil w1
    · exact heightOf_any h w1 ⟨v, l, c⟩ hk
  go_wp2_with fail
  refine C2.out.mono ?_
  rintro e w2 ⟨rfl, rfl⟩
  go_wp2
  go_ret
  exact ⟨rfl, Below.refl _ _⟩
section
variable {p : Option Addr} {ps : List (List Int)} {h : Nat} {w : World}
theorem rheight_any (hr : RP w p ps h) : Calls Tryz.prog 34 #[.pointer p] w fun e w' => e = .returned (.int .i64 h) ∧ Below w.heap.size w w' := by
  obtain ⟨row, hT, hp⟩ := pieces_fix hr
  have C1 := Lib.hid (hp w (Below.refl _ _))
  have C2 := Lib.hid (theight_any row (ps.map pit) h w hT)
  clear hr hT hp
  go_enter Tryz.func34, Tryz.ntmps34
  go_wp2_with fail
  refine C1.out.mono ?_
  rintro e w1 ⟨rfl, rfl⟩
  go_wp2_with fail
  refine C2.out.mono ?_
  rintro e w2 ⟨rfl, hb2⟩
  go_wp2_with fail
  go_ret
  exact ⟨rfl, hb2⟩
end
theorem p4_fourR : ∀ n : Nat, ((p4 n : Nat) : Int) = four n
  | 0 => rfl
  | n + 1 => by rw [four_succ, ← p4_fourR n]; show ((4 * p4 n : Nat) : Int) = _; omega
theorem TP.facts {w : World} {p : Option Addr} {l : List I7} {h : Nat} (ht : TP w p l h) : (h = 0 ↔ l.length = 0) ∧ (2 ≤ h → four (h - 2) ≤ (l.length : Int) + 1) ∧ h ≤ 30000 := by
  rcases ht with ⟨_, rfl, rfl⟩ | ⟨b, v, h1, h2, h3, h4, h5⟩
  · exact ⟨⟨fun _ => rfl, fun _ => rfl⟩, fun h => absurd h (by omega), by omega⟩
  · rcases h3 with ⟨rfl, rfl, rfl⟩ | ⟨c, hk, hc⟩
    · exact ⟨⟨fun _ => rfl, fun _ => rfl⟩, fun h => absurd h (by omega), by omega⟩
    · obtain ⟨x, hx⟩ := hk.pos
      have g1 : c * p4 (h - 1) ≤ l.length := hk.size
      have g2 : 1 ≤ c ∧ c ≤ 8 := hk.cnt
      have g3 := lt_p4 (h - 1)
      have g4 := Nat.mul_le_mul_right (p4 (h - 1)) g2.1
      refine ⟨⟨fun e => by omega, fun e => by omega⟩, fun h2' => ?_, by omega⟩
      have g5 := Nat.mul_le_mul_right (p4 (h - 1)) (hc h2')
      have g6 := p4_fourR (h - 1)
      have g7 := four_le (show h - 2 ≤ h - 1 by omega)
      omega
theorem RP.facts {w : World} {p : Option Addr} {ps : List (List Int)} {h : Nat} (hr : RP w p ps h) : (h = 0 ↔ ps.length = 0) ∧ (2 ≤ h → four (h - 2) ≤ (ps.length : Int) + 1) ∧ h ≤ 30000 := by
  obtain ⟨hP, ⟨_, rfl, rfl⟩ | ⟨b, row, _, _, h3⟩⟩ := hr
  · exact ⟨⟨fun _ => rfl, fun _ => rfl⟩, fun h => absurd h (by omega), by omega⟩
  · have := h3.facts
    rwa [List.length_map] at this
theorem txt_add (a b : List Int) : txt a ++ txt b = txt (a ++ b) := by
  unfold txt
  rw [encAll_append]
  exact bytes_add _ _
theorem PsOk.eights {ps : List (List Int)} (P : PsOk ps) {j : Nat} (hj : j < ps.length) : 1 ≤ (pth ps j).length ∧ (pth ps j).length ≤ 16 ∧ (8 ≤ ps.flatten.length → 8 ≤ (pth ps j).length) := by
  rw [pth_lt hj]
  have hm := List.getElem_mem hj
  refine ⟨(P.one _ hm).1, (P.one _ hm).2, fun h8 => ?_⟩
  by_cases h2 : 2 ≤ ps.length
  · exact P.least h2 _ hm
  · obtain rfl : j = 0 := by omega
    match ps, hj with
    | [q], _ => simpa using h8
    | _ :: _ :: _, _ => simp at h2
set_option maxHeartbeats 4000000 in
set_option maxRecDepth 100000 in
theorem is_any (b : Nat) (ps : List (List Int)) (h : Nat) (A : Option Addr) (n c : Nat) (l : List Int) (w : World) (hr : RP w (some ⟨b, 0, none⟩) ps h) (hA : IntsAt .i32 w A l) (hl : l.length = n) (hc : Caps A n c) (he : ps.flatten = l) :
    Calls Tryz.prog 10 #[.pointer (some ⟨b, 0, none⟩), .slice A n c] w fun e w' => e = .returned (.bool true) ∧ Below w.heap.size w w' := by
  have hmost := hr.1.most
  rw [he, hl] at hmost
  obtain ⟨x1, x2, x3⟩ := hr.facts
  have hpl := hr.1.len
  have CE := Lib.hid fun (W : World) (hW : Below w.heap.size w W) => rencode_any A n c l W (hA.below hW) hl (by omega)
  have CA := Lib.hid fun (W : World) (hW : Below w.heap.size w W) => (f7ahead A n c l W (hA.below hW) hl hc (by omega) n).mono fun e w' ⟨a, d, hi, h1, h2⟩ => (by
    obtain ⟨rfl, rfl⟩ := hi.unique (show SizeIs l 2 n (szl l 2) 0 from .inr ⟨by omega, by omega, by rw [Int.toNat_natCast, ← hl, szl_all], rfl⟩)
    exact ⟨h1, h2⟩ : e = Ending.returned (.tuple #[.int .i64 (szl l 2), .int .i64 0]) ∧ w' = W)
  have CT := Lib.hid fun (W : World) (hW : Below w.heap.size w W) => (by have := rtext_any (hr.below hW); rwa [he] at this : Calls Tryz.prog 27 #[.pointer (some ⟨b, 0, none⟩)] W fun e w' => e = .returned (.string (txt l)) ∧ Below W.heap.size W w')
  have CY := Lib.hid fun (W : World) (hW : Below w.heap.size w W) => (by have := rbytes_any (hr.below hW); rwa [he, show szl l 0 = ((txt l).size : Int) from by rw [txt_size]; rfl] at this : Calls Tryz.prog 29 #[.pointer (some ⟨b, 0, none⟩)] W fun e w' => e = .returned (.int .i64 ((txt l).size : Int)) ∧ Below W.heap.size W w')
  have CU := Lib.hid fun (W : World) (hW : Below w.heap.size w W) => (by have := rrunes_any (hr.below hW); rwa [he, hl] at this : Calls Tryz.prog 28 #[.pointer (some ⟨b, 0, none⟩)] W fun e w' => e = .returned (.int .i64 (n : Int)) ∧ Below W.heap.size W w')
  have CK := Lib.hid fun (W : World) (hW : Below w.heap.size w W) => (by have := rbreaks_any (hr.below hW); rwa [he] at this : Calls Tryz.prog 31 #[.pointer (some ⟨b, 0, none⟩)] W fun e w' => e = .returned (.int .i64 (szl l 2)) ∧ Below W.heap.size W w')
  have CP := Lib.hid fun (W : World) (hW : Below w.heap.size w W) => rpieces_any (hr.below hW)
  have CH := Lib.hid fun (W : World) (hW : Below w.heap.size w W) => rheight_any (hr.below hW)
  have CHi := Lib.hid fun (W : World) => high_yes h ps.length (by omega) x1 x2 (by omega) W
  have HP := Lib.hid hr.1
  have HE := Lib.hid he
  have HL := Lib.hid hl
  clear hr hA hl hc he x1 x2 x3
  rw [show (⟨(encAll l).toArray⟩ : ByteArray) = txt l from rfl] at CE
  obtain ⟨tl, htl⟩ : ∃ tl, tl = txt l := ⟨_, rfl⟩
  have HTL := Lib.hid htl
  rw [← htl] at CE CT CY
  clear htl
  generalize szl l 2 = z at *
  go_enter Tryz.func10, Tryz.ntmps10
  go_wp2_with fail
  refine (CE.out _ (Below.refl _ _)).mono ?_
  rintro e w1 ⟨rfl, hb1⟩
  go_wp2_with fail
  refine (CA.out _ hb1).mono ?_
  rintro e w2 ⟨rfl, hw2⟩
  have hw2 := hw2.symm
  subst hw2
  go_wp2_with fail
  refine (CT.out _ hb1).mono ?_
  rintro e w3 ⟨rfl, hb3⟩
  have a3 := hb1.trans (hb3.mono hb1.size)
  go_wp2_with fail
  refine (CY.out _ a3).mono ?_
  rintro e w4 ⟨rfl, hb4⟩
  have a4 := a3.trans (hb4.mono a3.size)
  go_wp2_with fail
  refine (CU.out _ a4).mono ?_
  rintro e w5 ⟨rfl, hb5⟩
  have a5 := a4.trans (hb5.mono a4.size)
  go_wp2_with fail
  refine (CK.out _ a5).mono ?_
  rintro e w6 ⟨rfl, hb6⟩
  have a6 := a5.trans (hb6.mono a5.size)
  go_wp2_with fail
  refine (CP.out _ a6).mono ?_
  rintro e w7 ⟨B, d, rfl, hb7, hV, hCB⟩
  have a7 := a6.trans (hb7.mono a6.size)
  have HV := Lib.hid hV
  clear hV hCB
  obtain ⟨N, hN⟩ : ∃ N, N = ps.length := ⟨_, rfl⟩
  have HN := Lib.hid hN
  rw [← hN] at hpl CHi ⊢
  clear hN
  go_wp2_with fail
  go_loopg [9, 54] N (fun g x i wr => ∃ j : Nat, i = .int .i64 j ∧ j ≤ N ∧ N - j ≤ g ∧ Below w7.heap.size w7 wr ∧ Hid (x = .string (txt (ps.take j).flatten)))
  case atStart => exact ⟨0, rfl, by omega, by omega, Below.refl _ _, Lib.hid rfl⟩
  case round =>
    obtain ⟨j, rfl, h1, h2, hb, hx⟩ := hrel
    have hx := hx.out
    subst hx
    have ab := a7.trans (hb.mono a7.size)
    by_cases hlt : j < N
    · have hj : j < ps.length := by rw [← HN.out]; exact hlt
      obtain ⟨bA, off, rfl, hbA, hcell⟩ := (HV.out.below hb) (by rw [svs_length]; omega)
      have q := hcell j (by rw [svs_length]; exact hj)
      rw [svs_at hj, ← pth_lt hj] at q
      clear hcell
      obtain ⟨e1, e2, e3⟩ := HP.out.eights hj
      rw [HE.out, HL.out] at e3
      have hcl := (HP.out.pth_cln j).1
      have CD := Lib.hid fun (W : World) => (by
        have := rdecode_any (txt (pth ps j)) W (by rw [txt_size]; have := encAll_len (pth ps j); omega)
        rwa [dec_txt hcl] at this : Calls Tryz.prog 11 #[.string (txt (pth ps j))] W fun e w' => ∃ A c, e = .returned (.slice A (pth ps j).length c) ∧ Below W.heap.size W w' ∧ IntsAt .i32 w' A (pth ps j) ∧ Caps A (pth ps j).length c)
      have HT := Lib.hid (show txt (ps.take j).flatten ++ txt (pth ps j) = txt (ps.take (j + 1)).flatten from by rw [txt_add, take_pth hj])
      have hta : (txt (ps.take j).flatten).size ≤ 80000 := by
        rw [txt_size]
        have g1 := encAll_len (ps.take j).flatten
        have g2 := len_take_le ps (show j ≤ ps.length by omega)
        rw [List.take_of_length_le (Nat.le_refl _)] at g2
        have g3 := HP.out.most
        omega
      have htb : (txt (pth ps j)).size ≤ 80000 := by
        rw [txt_size]
        have g1 := encAll_len (pth ps j)
        omega
      generalize txt (ps.take j).flatten = ta at *
      generalize txt (pth ps j) = tb at *
      generalize (pth ps j).length = k at *
      have d1 : ¬ (k < 1) := by omega
      have d2 : ¬ (16 < k) := by omega
      have i1 : (0 : Int) ≤ j := by omega
      have i2 : (j : Int) < N := by omega
      clear hcl
      by_cases hk8 : k < 8
      · have d3 : ¬ (8 ≤ n) := fun h => by have := e3 h; omega
        clear e3
        go_wp2_with fail
        refine (CD.out _).mono ?_
        rintro e w8 ⟨A8, c8, rfl, hb8, _, _⟩
        go_wp2
        go_roundg (gk - 1)
        case measure => omega
        case rel => exact ⟨j + 1, by go_num, by omega, by omega, hb.trans (hb8.mono hb.size), Lib.hid (by rw [HT.out])⟩
      · clear e3
        go_wp2_with fail
        refine (CD.out _).mono ?_
        rintro e w8 ⟨A8, c8, rfl, hb8, _, _⟩
        go_wp2
        go_roundg (gk - 1)
        case measure => omega
        case rel => exact ⟨j + 1, by go_num, by omega, by omega, hb.trans (hb8.mono hb.size), Lib.hid (by rw [HT.out])⟩
    · have hj : j = N := by omega
      have hta : txt (ps.take j).flatten = tl := by rw [hj, HN.out, List.take_of_length_le (Nat.le_refl _), HE.out, HTL.out]
      rw [hta]
      clear hta
      go_wp2_with fail
      refine (CH.out _ ab).mono ?_
      rintro e w8 ⟨rfl, hb8⟩
      have a8 := ab.trans (hb8.mono ab.size)
      go_wp2_with fail
      refine (CHi.out _).mono ?_
      rintro e w9 ⟨rfl, hw9⟩
      have hw9 := hw9.symm
      subst hw9
      go_wp2_with fail
      go_ret
      exact ⟨rfl, a8⟩
set_option maxHeartbeats 4000000 in
set_option maxRecDepth 100000 in
theorem ropeNew_walk (s : ByteArray) (w : World) (_hs : s.size ≤ maxLen) : Calls Tryz.prog 3 #[.string s] w fun e w' => e = .returned (.bool true) ∧ Below w.heap.size w w' := by
  have CW := Lib.hid fun W => wide_any W
  by_cases hl : 2000 < s.size
  · go_enter Tryz.func3, Tryz.ntmps3
    go_wp2_with fail
    refine (CW.out _).mono ?_
    rintro e w1 ⟨rfl, hb1⟩
    go_wp2_with fail
    go_ret
    exact ⟨rfl, hb1⟩
  have hsl : s.size ≤ 2000 := by omega
  have hdl := dec_len s
  have CN := Lib.hid (rnew_any s w (by omega) (by omega))
  have CD := Lib.hid fun W => rdecode_any s W (by omega)
  clear hl
  go_enter Tryz.func3, Tryz.ntmps3
  go_wp2_with fail
  refine CN.out.mono ?_
  rintro e w1 ⟨b, ps, h, rfl, hR, hf, hb1⟩
  have HR := Lib.hid hR
  have HFl := Lib.hid hf
  clear hR hf
  go_wp2_with fail
  refine (CD.out _).mono ?_
  rintro e w2 ⟨A, c, rfl, hb2, hI, hC⟩
  have CI := Lib.hid (is_any b ps h A (dec s).length c (dec s) w2 (HR.out.below hb2) hI rfl hC HFl.out)
  clear hI hC
  have a2 := hb1.trans (hb2.mono hb1.size)
  go_wp2_with fail
  refine CI.out.mono ?_
  rintro e w3 ⟨rfl, hb3⟩
  have a3 := a2.trans (hb3.mono a2.size)
  go_wp2_with fail
  refine (CW.out _).mono ?_
  rintro e w4 ⟨rfl, hb4⟩
  go_wp2_with fail
  go_ret
  exact ⟨rfl, a3.trans (hb4.mono a3.size)⟩
theorem IntsAt.take7 {kd : IntKind} {w : World} {A : Option Addr} {l : List Int} (h : IntsAt kd w A l) (k : Nat) : IntsAt kd w A (l.take k) := by
  intro hp
  have hl : (l.take k).length ≤ l.length := by rw [List.length_take]; omega
  obtain ⟨b, off, rfl, hb, hc⟩ := h (by omega)
  refine ⟨b, off, rfl, hb, fun j hj => ?_⟩
  have hj' : j < min k l.length := by simpa [List.length_take] using hj
  rw [hc j (by omega)]
  have e : nth (l.take k) j = nth l j := by
    unfold nth
    simp only [List.getD, List.getElem?_take]
    rw [if_pos (by omega)]
  rw [e]
theorem Caps.cut7 {A : Option Addr} {n c : Nat} (h : Caps A n c) (y : Nat) (hy : y ≤ n) : Caps (cutA A c y) (n - y) (c - y) := by
  obtain ⟨h1, h2⟩ := h
  refine ⟨by omega, fun e => ?_⟩
  unfold cutA at e
  by_cases hc : c = y
  · omega
  · rw [if_neg hc] at e
    cases A with
    | none => have := h2 rfl; omega
    | some a => simp at e
set_option maxHeartbeats 2000000 in
theorem inside_any (n x y : Int) (w : World) (sb : Bool) (hsb : sb = true ↔ 0 ≤ x ∧ x ≤ y ∧ y ≤ n) : Calls Tryz.prog 49 #[.int .i64 n, .int .i64 x, .int .i64 y] w fun e w' => e = .returned (.bool sb) ∧ w' = w := by
  have HF := Lib.hid hsb; clear hsb
  by_cases g1 : 0 ≤ x
  · by_cases g2 : x ≤ y
    · by_cases g3 : y ≤ n
      · have HX := Lib.hid (ab_yes HF.out ⟨g1, g2, g3⟩)
        go_enter Tryz.func49, Tryz.ntmps49
        go_wp2
        go_ret
        exact ⟨ret_bool (by first | exact HX.out | simpa using HX.out), rfl⟩
      · have HX := Lib.hid (ab_no HF.out (fun h => g3 h.2.2))
        go_enter Tryz.func49, Tryz.ntmps49
        go_wp2
        go_ret
        exact ⟨ret_bool (by first | exact HX.out | exact (decide_eq_false (by omega)).trans HX.out), rfl⟩
    · have HX := Lib.hid (ab_no HF.out (fun h => g2 h.2.1))
      go_enter Tryz.func49, Tryz.ntmps49
      go_wp2
      go_ret
      exact ⟨ret_bool (by first | exact HX.out | exact (decide_eq_false (by omega)).trans HX.out), rfl⟩
  · have HX := Lib.hid (ab_no HF.out (fun h => g1 h.1))
    go_enter Tryz.func49, Tryz.ntmps49
    go_wp2
    go_ret
    exact ⟨ret_bool (by first | exact HX.out | exact (decide_eq_false (by omega)).trans HX.out), rfl⟩
set_option maxHeartbeats 4000000 in
set_option maxRecDepth 100000 in
theorem put_any (A B : Option Addr) (n c m d : Nat) (l q : List Int) (x y : Nat) (w : World) (hA : IntsAt .i32 w A l) (hl : l.length = n) (hc : Caps A n c) (hB : IntsAt .i32 w B q) (hq : q.length = m) (hd : Caps B m d) (hn : n ≤ 1000000) (hm : m ≤ 1000000) (hxy : x ≤ y) (hy : y ≤ n) :
    Calls Tryz.prog 50 #[.slice A n c, .agg #[.int .i64 x, .int .i64 y], .slice B m d] w fun e w' => ∃ A' c', e = .returned (.slice A' (x + m + (n - y)) c') ∧ IntsAt .i32 w' A' (l.take x ++ q ++ l.drop y) ∧ Caps A' (x + m + (n - y)) c' ∧ Below w.heap.size w w' := by
  obtain ⟨i0, hi0, _, _, _⟩ := info_parts i32_info
  have hcm := hc.1
  have hs1 := fun W => cut_hd (P := Tryz.prog) Tryz.underlying28 hi0 A n c x (by omega) W
  have hs2 := fun W => cut_rest (P := Tryz.prog) Tryz.underlying28 hi0 (by kernel_rfl) A n c y hy W
  have HA := Lib.hid hA
  have HB := Lib.hid hB
  have HC1 := Lib.hid (show Caps A x c from ⟨by omega, hc.2⟩)
  have HC2 := Lib.hid (hc.cut7 y hy)
  have HD := Lib.hid hd
  have HT := Lib.hid fun (W : World) (hW : Below w.heap.size w W) => (by
    have := (hA.below hW).cut hl (by omega) y (n - y) (by omega)
    rwa [List.take_of_length_le (by rw [List.length_drop]; omega)] at this : IntsAt .i32 W (cutA A c y) (l.drop y))
  have HLx := Lib.hid (show (l.take x).length = x from by rw [List.length_take]; omega)
  have HLy := Lib.hid (show (l.drop y).length = n - y from by rw [List.length_drop]; omega)
  have HQ := Lib.hid hq
  clear hA hB hc hd hl hq
  have x1 : Below (w.heap.size + 1) (w.alloc (.cells #[.int .i64 (x : Int), .int .i64 (y : Int)] 37)) (w.alloc (.cells #[.int .i64 (x : Int), .int .i64 (y : Int)] 37)) := ⟨rfl, rfl, rfl, Nat.le_refl _, fun _ _ => rfl⟩
  have b0 : Below w.heap.size w (w.alloc (.cells #[.int .i64 (x : Int), .int .i64 (y : Int)] 37)) := (Below.refl _ _).alloc (Nat.le_refl _) _
  have R0 : RawAt 37 (w.alloc (.cells #[.int .i64 (x : Int), .int .i64 (y : Int)] 37)) w.heap.size #[.int .i64 (x : Int), .int .i64 (y : Int)] := heap_alloc_new w _
  have z1 : (w.alloc (.cells #[.int .i64 (x : Int), .int .i64 (y : Int)] 37)).heap.size = w.heap.size + 1 := by simp
  go_enter Tryz.func50, Tryz.ntmps50
  have e0 := RawAt.cell R0 0
  simp at e0
  have HR0 := Lib.hid R0
  clear R0
  go_wp2_with (first
    | (at_builtin; refine wpList_append_ints rfl (.tmp 8) (.tmp 12) rfl (w.heap.size + 1) _ 0 [] rfl (World.ownsRow_nil _ _ _ _) A x c (l.take x) rfl ((HA.out.take7 x).below b0) HC1.out HLx.out (by omega) (by rw [z1]; exact Nat.le_refl _) ?_; intro v4 w4 hown4 hg4; have c4 := x1.grown hg4 (by rw [z1]; exact Nat.le_refl _) (fun k hk => by cases hk); have b4 := b0.trans (c4.mono (Nat.le_succ _)); have s4 := c4.size; have HR4 := Lib.hid (RawAt.below HR0.out c4 (Nat.lt_succ_self _)); have e1 := (RawAt.cell HR4.out 1).trans (show _ = some (Value.int .i64 (y : Int)) from rfl); rw [Nat.zero_add, List.nil_append] at hown4)
    | (at_builtin; refine wpList_append_ints rfl (.tmp 14) (.tmp 15) rfl (w.heap.size + 1) _ x ((l.take x).map (.int .i32)) rfl hown4 B m d q rfl (HB.out.below b4) HD.out HQ.out (by omega) (by omega) ?_; intro v5 w5 hown5 hg5; have c5 := c4.grown hg5 (by omega) (fun k hk => (hown4.lt k hk).1); have b5 := b0.trans (c5.mono (Nat.le_succ _)); have s5 := c5.size; have HR5 := Lib.hid (RawAt.below HR0.out c5 (Nat.lt_succ_self _)); have e2 := (RawAt.cell HR5.out 1).trans (show _ = some (Value.int .i64 (y : Int)) from rfl); rw [← List.map_append] at hown5)
    | (at_builtin; refine wpList_append_ints rfl (.tmp 17) (.tmp 21) rfl (w.heap.size + 1) _ (x + m) ((l.take x ++ q).map (.int .i32)) rfl hown5 (cutA A c y) (n - y) (c - y) (l.drop y) rfl (HT.out _ b5) HC2.out HLy.out (by omega) (by omega) ?_; intro v6 w6 hown6 hg6; have c6 := c5.grown hg6 (by omega) (fun k hk => (hown5.lt k hk).1); have b6 := b0.trans (c6.mono (Nat.le_succ _)); rw [← List.map_append] at hown6))
  obtain ⟨A7, c7, e7, hI7, hl7, hC7⟩ := IntsAt.of_own hown6
  have HI7 := Lib.hid hI7
  have HC7 := Lib.hid hC7
  subst e7
  clear hown4 hown5 hown6 hg4 hg5 hg6 hI7 hC7 hl7
  go_ret
  exact ⟨A7, c7, rfl, HI7.out, HC7.out, b6⟩
/-- What is told of a replacing. -/
def ReplIs (l : List Int) (x y : Int) (D l' : List Int) (e : Int) : Prop := (¬ (0 ≤ x ∧ x ≤ y ∧ y ≤ l.length) ∧ e = 1) ∨ (0 ≤ x ∧ x ≤ y ∧ y ≤ l.length ∧ 20000 < (l.length : Int) - (y - x) + D.length ∧ e = 5) ∨ (0 ≤ x ∧ x ≤ y ∧ y ≤ l.length ∧ (l.length : Int) - (y - x) + D.length ≤ 20000 ∧ l' = l.take x.toNat ++ D ++ l.drop y.toNat ∧ e = 0)
set_option maxHeartbeats 4000000 in
set_option maxRecDepth 100000 in
theorem f7repl (A : Option Addr) (n c : Nat) (l : List Int) (x y : Int) (s : ByteArray) (w : World) (hA : IntsAt .i32 w A l) (hl : l.length = n) (hc : Caps A n c) (hn : n ≤ 20000) (hs : s.size ≤ 300) :
    Calls Tryz.prog 13 #[.slice A n c, .agg #[.int .i64 x, .int .i64 y], .string s] w fun e w' => ∃ A' c' l' d, ReplIs l x y (dec s) l' d ∧ e = .returned (.tuple #[.slice A' (if d = 0 then l'.length else 0) c', .int .i64 d]) ∧ (d = 0 → IntsAt .i32 w' A' l' ∧ Caps A' l'.length c') ∧ Below w.heap.size w w' := by
  have hdl := dec_len s
  have x1 : Below w.heap.size w (w.alloc (.cells #[.int .i64 x, .int .i64 y] 37)) := (Below.refl _ _).alloc (Nat.le_refl _) _
  have R0 : RawAt 37 (w.alloc (.cells #[.int .i64 x, .int .i64 y] 37)) w.heap.size #[.int .i64 x, .int .i64 y] := heap_alloc_new w _
  have HR0 := Lib.hid R0
  have e0 := (RawAt.cell R0 0).trans (show _ = some (Value.int .i64 x) from rfl)
  have e1 := (RawAt.cell R0 1).trans (show _ = some (Value.int .i64 y) from rfl)
  clear R0
  by_cases hin : 0 ≤ x ∧ x ≤ y ∧ y ≤ n
  · have CI := Lib.hid fun (W : World) => inside_any n x y W true ⟨fun _ => hin, fun _ => rfl⟩
    have CD := Lib.hid fun (W : World) => rdecode_any s W (by omega)
    obtain ⟨g1, g2, g3⟩ := hin
    obtain ⟨a, rfl⟩ : ∃ a : Nat, x = a := ⟨x.toNat, by omega⟩
    obtain ⟨b, rfl⟩ : ∃ b : Nat, y = b := ⟨y.toNat, by omega⟩
    have hab : a ≤ b := by omega
    have hbn : b ≤ n := by omega
    obtain ⟨D, hD⟩ : ∃ D, D = dec s := ⟨_, rfl⟩
    rw [← hD] at CD hdl ⊢
    clear hD
    have CPt := Lib.hid fun (W : World) (hW : Below w.heap.size w W) (B : Option Addr) (d : Nat) (hB : IntsAt .i32 W B D) (hd : Caps B D.length d) => put_any A B n c D.length d l D a b W (hA.below hW) hl hc hB rfl hd (by omega) (by omega) hab hbn
    have HL := Lib.hid hl
    clear hA hc hl g1 g2 g3
    have hw1 : IntKind.i64.wrap ((b : Int) - (a : Int)) = (b : Int) - (a : Int) := IntWalk.i64_in _ (by omega)
    have hw2 : IntKind.i64.wrap ((n : Int) - ((b : Int) - (a : Int))) = (n : Int) - ((b : Int) - (a : Int)) := IntWalk.i64_in _ (by omega)
    have hw3 : IntKind.i64.wrap ((n : Int) - ((b : Int) - (a : Int)) + (D.length : Int)) = (n : Int) - ((b : Int) - (a : Int)) + (D.length : Int) := IntWalk.i64_in _ (by omega)
    by_cases hf : 20000 < (n : Int) - ((b : Int) - (a : Int)) + (D.length : Int)
    · have H := Lib.hid (show ReplIs l a b D [] 5 from .inr (.inl ⟨by omega, by omega, by rw [HL.out]; omega, by rw [HL.out]; exact hf, rfl⟩))
      go_enter Tryz.func13, Tryz.ntmps13
      go_wp2_with fail
      refine (CI.out _).mono ?_
      rintro e w2 ⟨rfl, rfl⟩
      go_wp2_with fail
      refine (CD.out _).mono ?_
      rintro e w3 ⟨B, d, rfl, hb3, hI3, hC3⟩
      have a3 := x1.trans (hb3.mono x1.size)
      have HR3 := RawAt.below HR0.out hb3 (RawAt.lt HR0.out)
      have q0 := (RawAt.cell HR3 0).trans (show _ = some (Value.int .i64 (a : Int)) from rfl)
      have q1 := (RawAt.cell HR3 1).trans (show _ = some (Value.int .i64 (b : Int)) from rfl)
      clear hI3 hC3 HR3 e0 e1
      go_wp2
      refine bodyPost_ret (v := .tuple #[.slice none 0 0, .int .i64 5]) (by simp [results, Tryz.results13, go_sem]) rfl ⟨none, 0, [], 5, H.out, rfl, (fun h => absurd h (by decide)), a3⟩
    · have H := Lib.hid (show ReplIs l a b D (l.take a ++ D ++ l.drop b) 0 from .inr (.inr ⟨by omega, by omega, by rw [HL.out]; omega, by rw [HL.out]; omega, by rw [Int.toNat_natCast, Int.toNat_natCast], rfl⟩))
      have HLN := Lib.hid (show (l.take a ++ D ++ l.drop b).length = a + D.length + (n - b) from by simp only [List.length_append, List.length_take, List.length_drop]; have := HL.out; omega)
      go_enter Tryz.func13, Tryz.ntmps13
      go_wp2_with fail
      refine (CI.out _).mono ?_
      rintro e w2 ⟨rfl, rfl⟩
      go_wp2_with fail
      refine (CD.out _).mono ?_
      rintro e w3 ⟨B, d, rfl, hb3, hI3, hC3⟩
      have a3 := x1.trans (hb3.mono x1.size)
      have HR3 := RawAt.below HR0.out hb3 (RawAt.lt HR0.out)
      have q0 := (RawAt.cell HR3 0).trans (show _ = some (Value.int .i64 (a : Int)) from rfl)
      have q1 := (RawAt.cell HR3 1).trans (show _ = some (Value.int .i64 (b : Int)) from rfl)
      have CP2 := Lib.hid (CPt.out _ a3 B d hI3 hC3)
      clear hI3 hC3 HR3 e0 e1
      go_wp2_with fail
      refine CP2.out.mono ?_
      rintro e w4 ⟨A4, c4, rfl, hI4, hC4, hb4⟩
      have HI4 := Lib.hid hI4
      have HC4 := Lib.hid hC4
      clear hI4 hC4
      have a4 := a3.trans (hb4.mono a3.size)
      go_wp2
      refine bodyPost_ret (v := .tuple #[.slice A4 (a + D.length + (n - b)) c4, .int .i64 0]) (by simp [results, Tryz.results13, go_sem]) rfl ⟨A4, c4, _, 0, H.out, by rw [if_pos rfl, HLN.out], fun _ => ⟨HI4.out, by rw [HLN.out]; exact HC4.out⟩, a4⟩
  · have CI := Lib.hid fun (W : World) => inside_any n x y W false ⟨fun e => absurd e (by simp), fun e => absurd e hin⟩
    have H := Lib.hid (show ReplIs l x y (dec s) [] 1 from .inl ⟨by rw [hl]; exact hin, rfl⟩)
    clear hA hc hl hin
    go_enter Tryz.func13, Tryz.ntmps13
    go_wp2_with fail
    refine (CI.out _).mono ?_
    rintro e w2 ⟨rfl, rfl⟩
    go_wp2
    refine bodyPost_ret (v := .tuple #[.slice none 0 0, .int .i64 1]) (by simp [results, Tryz.results13, go_sem]) rfl ⟨none, 0, [], 1, H.out, rfl, (fun h => absurd h (by decide)), x1⟩
/-- A step: from where, to where, what. -/
structure RS where
  x : Int
  y : Int
  s : ByteArray
instance : Inhabited RS := ⟨⟨0, 0, ⟨#[]⟩⟩⟩
def rscs (r : RS) : Array Value := #[.int .i64 r.x, .int .i64 r.y, .string r.s]
def rsth (l : List RS) (k : Nat) : RS := l.getD k ⟨0, 0, ⟨#[]⟩⟩
/-- Steps that lie in memory. -/
def RSAt (w : World) (A : Option Addr) (l : List RS) : Prop :=
  0 < l.length → ∃ b off, A = some ⟨b, off, none⟩ ∧ b < w.heap.size ∧ ∀ k, k < l.length →
    w.cell? ⟨b, off + k * 3, none⟩ = some (.int .i64 (rsth l k).x) ∧ w.cell? ⟨b, off + k * 3 + 1, none⟩ = some (.int .i64 (rsth l k).y) ∧ w.cell? ⟨b, off + k * 3 + 2, none⟩ = some (.string (rsth l k).s)
theorem RSAt.below {w w' : World} {A : Option Addr} {l : List RS} (h : RSAt w A l) (hb : Below w.heap.size w w') : RSAt w' A l := by
  intro hl
  obtain ⟨b, off, rfl, h1, h2⟩ := h hl
  refine ⟨b, off, rfl, Nat.lt_of_lt_of_le h1 hb.size, fun k hk => ?_⟩
  obtain ⟨a0, a1, a2⟩ := h2 k hk
  have H := (old_cells hb).1
  exact ⟨(H _ _ h1).trans a0, (H _ _ h1).trans a1, (H _ _ h1).trans a2⟩
set_option maxHeartbeats 8000000 in
set_option maxRecDepth 100000 in
theorem ropeReplaces_walk (s : ByteArray) (A : Option Addr) (n c : Nat) (l : List RS) (w : World) (_hs : s.size ≤ maxLen) (hI : RSAt w A l) (hl : l.length = n) (_hn : n ≤ maxLen) (_hc : Caps A n c) :
    Calls Tryz.prog 4 #[.string s, .slice A n c] w fun e w' => e = .returned (.bool true) ∧ Below w.heap.size w w' := by
  have CW := Lib.hid fun W => wide_any W
  have HI := Lib.hid hI
  have HL := Lib.hid hl
  clear hI hl _hc
  by_cases hg : 1000 < s.size
  · go_enter Tryz.func4, Tryz.ntmps4
    go_wp2_with fail
    refine (CW.out _).mono ?_
    rintro e w1 ⟨rfl, hb1⟩
    go_wp2_with fail
    go_ret
    exact ⟨rfl, hb1⟩
  by_cases hg2 : 30 < n
  · go_enter Tryz.func4, Tryz.ntmps4
    go_wp2_with fail
    refine (CW.out _).mono ?_
    rintro e w1 ⟨rfl, hb1⟩
    go_wp2_with fail
    go_ret
    exact ⟨rfl, hb1⟩
  have hsl : s.size ≤ 1000 := by omega
  have hnl : n ≤ 30 := by omega
  have dz1 : decide (1000 < s.size) = false := decide_eq_false (by omega)
  have dz2 : decide (30 < n) = false := decide_eq_false (by omega)
  have hdl := dec_len s
  have CN := Lib.hid (rnew_any s w (by omega) (by omega))
  have CD := Lib.hid fun W => rdecode_any s W (by omega)
  clear hg hg2
  go_enter Tryz.func4, Tryz.ntmps4
  go_wp2_with fail
  refine CN.out.mono ?_
  rintro e w1 ⟨b0, ps0, h0, rfl, hR0, hf0, hb1⟩
  have HR0 := Lib.hid hR0
  have HF0 := Lib.hid hf0
  clear hR0 hf0
  go_wp2_with fail
  refine (CD.out _).mono ?_
  rintro e w2 ⟨A0, c0, rfl, hb2, hI0, hC0⟩
  have a2 := hb1.trans (hb2.mono hb1.size)
  have HI0 := Lib.hid hI0
  have HC0 := Lib.hid hC0
  clear hI0 hC0
  go_wp2_with fail
  go_loopg [5, 7, 38] n (fun g rv nv i wr => ∃ (j b m : Nat) (ps : List (List Int)) (h : Nat) (B : Option Addr) (d : Nat) (now : List Int), i = .int .i64 j ∧ j ≤ n ∧ n - j ≤ g ∧ Below w.heap.size w wr ∧ rv = .pointer (some ⟨b, 0, none⟩) ∧ nv = .slice B m d ∧ Hid (now.length = m) ∧ m ≤ 20000 ∧ Hid (RP wr (some ⟨b, 0, none⟩) ps h) ∧ Hid (ps.flatten = now) ∧ Hid (IntsAt .i32 wr B now) ∧ Hid (Caps B m d))
  case atStart => exact ⟨0, b0, (dec s).length, ps0, h0, A0, c0, dec s, rfl, by omega, by omega, a2, rfl, rfl, Lib.hid rfl, by omega, Lib.hid (HR0.out.below hb2), HF0, HI0, HC0⟩
  case round =>
    obtain ⟨j, b, m, ps, h, B, d, now, rfl, h1, h2, hb, rfl, rfl, hml, hm2, hR, hF, hN, hC⟩ := hrel
    by_cases hlt : j < n
    · obtain ⟨bA, off, rfl, hbA, hcell⟩ := (HI.out.below hb) (by rw [HL.out]; omega)
      obtain ⟨d0, d1, d2⟩ := hcell j (by rw [HL.out]; exact hlt)
      clear hcell
      generalize rsth l j = st at *
      have i1 : (0 : Int) ≤ j := by omega
      have i2 : (j : Int) < n := by omega
      have x3 : Below wr.heap.size wr (wr.alloc (.cells (rscs st) 33)) := (Below.refl _ _).alloc (Nat.le_refl _) _
      have R3 : RawAt 33 (wr.alloc (.cells (rscs st) 33)) wr.heap.size (rscs st) := heap_alloc_new wr _
      have HR3 := Lib.hid R3
      have a3 := hb.trans (x3.mono hb.size)
      unfold rscs at x3 R3 HR3 a3
      obtain ⟨sb, hsb⟩ : ∃ sb, sb = wr.heap.size := ⟨_, rfl⟩
      rw [← hsb] at HR3
      have HSB := Lib.hid hsb
      clear hsb R3
      by_cases hbig : 300 < st.s.size
      · go_wp2_with fail
        refine (CW.out _).mono ?_
        rintro e w4 ⟨rfl, hb4⟩
        go_wp2_with fail
        go_ret
        exact ⟨rfl, a3.trans (hb4.mono a3.size)⟩
      have hss : st.s.size ≤ 300 := by omega
      have HSS := Lib.hid hss
      go_wp2_with fail
      generalize hW3 : wr.alloc (.cells #[.int .i64 st.x, .int .i64 st.y, .string st.s] 33) = W3 at *
      have HW3 := Lib.hid hW3
      clear hW3
      have HRP := Lib.hid (hR.out.below x3)
      have HN3 := Lib.hid (hN.out.below x3)
      have hml2 := hml.out
      have hfl := hF.out
      have CF0 := Lib.hid fun (W : World) (hW : Below W3.heap.size W3 W) => f7repl B m d now st.x st.y st.s W (HN3.out.below hW) hml2 hC.out hm2 hss
      by_cases hok : (0 ≤ st.x ∧ st.x ≤ st.y ∧ st.y ≤ (m : Int)) ∧ (m : Int) - (st.y - st.x) + (dec st.s).length ≤ 20000
      · obtain ⟨⟨g1, g2, g3⟩, g4⟩ := hok
        obtain ⟨xa, hxa⟩ : ∃ a : Nat, st.x = a := ⟨st.x.toNat, by omega⟩
        obtain ⟨ya, hya⟩ : ∃ a : Nat, st.y = a := ⟨st.y.toNat, by omega⟩
        have CR := Lib.hid (by
          have := rrepl_any HRP.out xa ya (by omega) (by rw [hfl, hml2]; omega) st.s (by omega) (by rw [hfl, hml2]; omega)
          rwa [← hxa, ← hya, hfl] at this : Calls Tryz.prog 12 #[.pointer (some ⟨b, 0, none⟩), .int .i64 st.x, .int .i64 st.y, .string st.s] W3 fun e w' => ∃ (b' : Nat) (ps' : List (List Int)) (h' : Nat), e = .returned (.tuple #[.pointer (some ⟨b', 0, none⟩), .int .i64 0]) ∧ RP w' (some ⟨b', 0, none⟩) ps' h' ∧ ps'.flatten = now.take xa ++ dec st.s ++ now.drop ya ∧ Below W3.heap.size W3 w')
        have CF := Lib.hid fun (W : World) (hW : Below W3.heap.size W3 W) => (CF0.out W hW).mono fun e w' ⟨A', c', l', d', hi, he, hx, hb⟩ => (by
          rcases hi with ⟨q1, _⟩ | ⟨_, _, _, q1, _⟩ | ⟨_, _, _, _, q2, rfl⟩
          · exact absurd ⟨g1, g2, by rw [hml2]; exact g3⟩ q1
          · rw [hml2] at q1; omega
          · rw [if_pos rfl] at he
            obtain ⟨q3, q4⟩ := hx rfl
            rw [hxa, hya, Int.toNat_natCast, Int.toNat_natCast] at q2
            subst q2
            exact ⟨A', c', he, q3, q4, hb⟩ : ∃ A' c', e = Ending.returned (.tuple #[.slice A' (now.take xa ++ dec st.s ++ now.drop ya).length c', .int .i64 0]) ∧ IntsAt .i32 w' A' (now.take xa ++ dec st.s ++ now.drop ya) ∧ Caps A' (now.take xa ++ dec st.s ++ now.drop ya).length c' ∧ Below W.heap.size W w')
        have hnl2 : (now.take xa ++ dec st.s ++ now.drop ya).length ≤ 20000 := by
          simp only [List.length_append, List.length_take, List.length_drop]
          omega
        generalize now.take xa ++ dec st.s ++ now.drop ya = nxt at *
        clear CF0 g1 g2 g3 g4 hxa hya
        obtain ⟨M, hM⟩ : ∃ M, M = nxt.length := ⟨_, rfl⟩
        have HM := Lib.hid hM
        rw [← hM] at CF hnl2
        clear hM hml2 hfl
        refine CR.out.mono ?_
        rintro e w4 ⟨b4, ps4, h4, rfl, hR4, hf4, hb4⟩
        have HR4 := Lib.hid hR4
        have HF4 := Lib.hid hf4
        clear hR4 hf4
        have HS4 := Lib.hid (RawAt.below HR3.out hb4 (RawAt.lt HR3.out))
        have t0 := (RawAt.cell HS4.out 0).trans (show _ = some (Value.int .i64 st.x) from rfl)
        have t1 := (RawAt.cell HS4.out 1).trans (show _ = some (Value.int .i64 st.y) from rfl)
        have t2 := (RawAt.cell HS4.out 2).trans (show _ = some (Value.string st.s) from rfl)
        rw [HSB.out] at t0 t1 t2
        go_wp2_with fail
        refine (CF.out _ hb4).mono ?_
        rintro e w5 ⟨A5, c5, rfl, hI5, hC5, hb5⟩
        have q5 := hb4.trans (hb5.mono hb4.size)
        have HI5 := Lib.hid hI5
        have HC5 := Lib.hid hC5
        clear hI5 hC5
        have CI1 := Lib.hid (is_any b ps h B m d now w5 (HRP.out.below q5) (HN3.out.below q5) hml.out hC.out hF.out)
        go_wp2_with fail
        refine CI1.out.mono ?_
        rintro e w6 ⟨rfl, hb6⟩
        have q6 := q5.trans (hb6.mono q5.size)
        have CI2 := Lib.hid (is_any b4 ps4 h4 A5 M c5 nxt w6 ((HR4.out.below hb5).below hb6) (HI5.out.below hb6) HM.out.symm HC5.out HF4.out)
        go_wp2_with fail
        refine CI2.out.mono ?_
        rintro e w7 ⟨rfl, hb7⟩
        have q7 := q6.trans (hb7.mono q6.size)
        go_wp2
        go_roundg (gk - 1)
        case measure => omega
        case rel => exact ⟨j + 1, b4, M, ps4, h4, A5, c5, nxt, by go_num, by omega, by omega, a3.trans (q7.mono a3.size), rfl, rfl, Lib.hid HM.out.symm, hnl2, Lib.hid (((HR4.out.below hb5).below hb6).below hb7), HF4, Lib.hid ((HI5.out.below hb6).below hb7), HC5⟩
      · obtain ⟨kc, hkc, CR, CF⟩ : ∃ kc : Int, (kc = 1 ∨ kc = 5) ∧ Hid (Calls Tryz.prog 12 #[.pointer (some ⟨b, 0, none⟩), .int .i64 st.x, .int .i64 st.y, .string st.s] W3 fun e w' => e = .returned (.tuple #[.pointer none, .int .i64 kc]) ∧ Below W3.heap.size W3 w') ∧ Hid (∀ W, Below W3.heap.size W3 W → Calls Tryz.prog 13 #[.slice B m d, .agg #[.int .i64 st.x, .int .i64 st.y], .string st.s] W fun e w' => ∃ A' c', e = .returned (.tuple #[.slice A' 0 c', .int .i64 kc]) ∧ Below W.heap.size W w') := by
          by_cases hin : 0 ≤ st.x ∧ st.x ≤ st.y ∧ st.y ≤ (m : Int)
          · have hfull : 20000 < (m : Int) - (st.y - st.x) + (dec st.s).length := by
              have := fun h => hok ⟨hin, h⟩
              omega
            obtain ⟨g1, g2, g3⟩ := hin
            obtain ⟨xa, hxa⟩ : ∃ a : Nat, st.x = a := ⟨st.x.toNat, by omega⟩
            obtain ⟨ya, hya⟩ : ∃ a : Nat, st.y = a := ⟨st.y.toNat, by omega⟩
            refine ⟨5, .inr rfl, Lib.hid (by
              have := rrepl_full HRP.out xa ya (by omega) (by rw [hfl, hml2]; omega) st.s (by omega) (by rw [hfl, hml2]; omega)
              rwa [← hxa, ← hya] at this), Lib.hid fun W hW => (CF0.out W hW).mono fun e w' ⟨A', c', l', d', hi, he, hx, hb⟩ => ?_⟩
            rcases hi with ⟨q1, _⟩ | ⟨_, _, _, q1, rfl⟩ | ⟨_, _, _, q1, _, _⟩
            · exact absurd ⟨g1, g2, by rw [hml2]; exact g3⟩ q1
            · exact ⟨A', c', he, hb⟩
            · rw [hml2] at q1; omega
          · refine ⟨1, .inl rfl, Lib.hid (rrepl_arg HRP.out st.x st.y (by rw [hfl, hml2]; exact hin) st.s), Lib.hid fun W hW => (CF0.out W hW).mono fun e w' ⟨A', c', l', d', hi, he, hx, hb⟩ => ?_⟩
            rcases hi with ⟨_, rfl⟩ | ⟨q1, q2, q3, _, _⟩ | ⟨q1, q2, q3, _, _, _⟩
            · exact ⟨A', c', he, hb⟩
            · exact absurd ⟨q1, q2, by rw [hml2] at q3; exact q3⟩ hin
            · exact absurd ⟨q1, q2, by rw [hml2] at q3; exact q3⟩ hin
        clear CF0 hok hml2 hfl
        rcases hkc with rfl | rfl
        all_goals
          refine CR.out.mono ?_
          rintro e w4 ⟨rfl, hb4⟩
          have HS4 := Lib.hid (RawAt.below HR3.out hb4 (RawAt.lt HR3.out))
          have t0 := (RawAt.cell HS4.out 0).trans (show _ = some (Value.int .i64 st.x) from rfl)
          have t1 := (RawAt.cell HS4.out 1).trans (show _ = some (Value.int .i64 st.y) from rfl)
          have t2 := (RawAt.cell HS4.out 2).trans (show _ = some (Value.string st.s) from rfl)
          rw [HSB.out] at t0 t1 t2
          go_wp2_with fail
          refine (CF.out _ hb4).mono ?_
          rintro e w5 ⟨A5, c5, rfl, hb5⟩
          have q5 := hb4.trans (hb5.mono hb4.size)
          have CI1 := Lib.hid (is_any b ps h B m d now w5 (HRP.out.below q5) (HN3.out.below q5) hml.out hC.out hF.out)
          go_wp2_with fail
          refine CI1.out.mono ?_
          rintro e w6 ⟨rfl, hb6⟩
          have q6 := q5.trans (hb6.mono q5.size)
          go_wp2
          go_roundg (gk - 1)
          case measure => omega
          case rel => exact ⟨j + 1, b, m, ps, h, B, d, now, by go_num, by omega, by omega, a3.trans (q6.mono a3.size), rfl, rfl, hml, hm2, Lib.hid (HRP.out.below q6), hF, Lib.hid (HN3.out.below q6), hC⟩
    · go_wp2_with fail
      refine (CW.out _).mono ?_
      rintro e w4 ⟨rfl, hb4⟩
      go_wp2_with fail
      go_ret
      exact ⟨rfl, hb.trans (hb4.mono hb.size)⟩
end Go.Proofs.YtaemndioleofjaaGreat
