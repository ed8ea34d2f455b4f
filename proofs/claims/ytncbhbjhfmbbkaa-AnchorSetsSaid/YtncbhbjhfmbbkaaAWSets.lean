/- The walk of the law on sets of anchors. -/
import Derived.Test.YtncbhbjhfmbbkaaAnG
import Derived.Test.YtncbhbjhfmbbkaaAnI
import Derived.Test.YtncbhbjhfmbbkaaAnJ
import Derived.Deep.CutBlock
namespace Go.Proofs.Ytncbhbjhfmbbkaa
open Go.RowKit Go.Sort
set_option linter.unusedVariables false
theorem awrong_zero' {n : Int} {l : List An} (h : awrong n l = 0) : 0 ≤ n ∧ n ≤ 1099511627776 ∧ l.length ≤ 200 ∧ Apart l ∧ ∀ a ∈ l, aOk n a := by
  unfold awrong at h
  split at h
  · cases h
  · rename_i h1
    split at h
    · cases h
    · obtain ⟨g1, g2⟩ := aw_apart h List.Pairwise.nil
      exact ⟨by omega, by omega, by omega, by simpa using g1, g2⟩
/-- The last one of a number, if there is one. -/
def FoundIs (z : Int) (o : List An) (fa : An) (ib : Bool) : Prop := (ib = true → fa ∈ o ∧ fa.id = z) ∧ (ib = false → fa = ⟨0, 0, 0⟩ ∧ ∀ b ∈ o, b.id ≠ z)
theorem found_nil (z : Int) : FoundIs z [] ⟨0, 0, 0⟩ false := ⟨fun h => (by cases h), fun _ => ⟨rfl, fun b h => (by simp at h)⟩⟩
theorem found_yes {z : Int} {o : List An} {b : An} (h : b.id = z) : FoundIs z (o ++ [b]) b true := ⟨fun _ => ⟨by simp, h⟩, fun h => (by cases h)⟩
theorem found_no {z : Int} {o : List An} {b fa : An} {ib : Bool} (hf : FoundIs z o fa ib) (h : b.id ≠ z) : FoundIs z (o ++ [b]) fa ib :=
  ⟨fun hi => ⟨List.mem_append_left _ (hf.1 hi).1, (hf.1 hi).2⟩, fun hi => ⟨(hf.2 hi).1, fun c hc => by
    rcases List.mem_append.1 hc with hc | hc
    · exact (hf.2 hi).2 c hc
    · obtain rfl := List.mem_singleton.1 hc
      exact h⟩⟩
theorem get_found {w : World} {sb : Nat} {n z : Int} {o : List An} {fa : An} {ib : Bool} (h : ASet w sb n o) (hf : FoundIs z o fa ib) (hwf : (Lit.int .i64 z).wf = true) (fe : Int) (hfe : fe = if ib = true then 0 else 6) :
    Calls Try.prog 21 #[.pointer (some ⟨sb, 0, none⟩), .int .i64 z] w fun e w' => e = .returned (.tuple #[.agg #[.int .i64 fa.id, .int .i64 fa.pl, .int .i64 fa.bi], .int .i64 fe]) ∧ Below w.heap.size w w' := by
  cases ib with
  | true =>
    obtain ⟨h1, h2⟩ := hf.1 rfl
    rw [hfe]
    exact aGet_yes h z hwf h1 h2
  | false =>
    obtain ⟨h1, h2⟩ := hf.2 rfl
    rw [hfe, h1]
    exact aGet_no h z hwf h2
set_option maxHeartbeats 32000000 in
set_option maxRecDepth 100000 in
theorem anchorSets_walk (a : Int) (A : Option Addr) (m c : Nat) (l : List An) (st : An) (w : World) (_wf : (Lit.int .i64 a).wf = true) (hI : RowsAt encA 3 w A l) (hl : l.length = m) (_hn : m ≤ maxLen) (hc : Caps A m c) (hO : ∀ x ∈ l, (Lit.int .i64 x.id).wf = true) (hS : (Lit.int .i64 st.bi).wf = true) :
    Calls Try.prog 3 #[.int .i64 a, .slice A m c, .agg #[.int .i64 st.id, .int .i64 st.pl, .int .i64 st.bi]] w fun e w' => e = .returned (.bool true) ∧ Below w.heap.size w w' := by
  have CB := Lib.hid fun W => aBoth_any W
  obtain ⟨X, Y, Z⟩ := st
  simp only at hS ⊢
  have x0 : Below w.heap.size w (w.alloc (.cells #[.int .i64 X, .int .i64 Y, .int .i64 Z] 24)) := (Below.refl _ _).alloc (Nat.le_refl _) _
  have R0 : RawAt 24 (w.alloc (.cells #[.int .i64 X, .int .i64 Y, .int .i64 Z] 24)) w.heap.size #[.int .i64 X, .int .i64 Y, .int .i64 Z] := heap_alloc_new w _
  have HI := Lib.hid (hI.below x0)
  have HL := Lib.hid hl
  have HC := Lib.hid hc
  have HO := Lib.hid hO
  have HX0 := Lib.hid x0
  have HR0 := Lib.hid R0
  have HS := Lib.hid hS
  clear hI hl hc hO _wf _hn x0 R0 hS
  by_cases g1 : 400 < m
  · have k1 : decide (400 < m) = true := decide_eq_true g1
    have k2 : decide ((400 : Int) < (m : Int)) = true := decide_eq_true (by omega)
    go_enter Try.func3, Try.ntmps3
    go_wp2_with fail
    with_reducible refine (CB.out _).mono ?_
    rintro e w1 ⟨rfl, h2⟩
    have q := Lib.hid (HX0.out.trans (h2.mono HX0.out.size))
    go_wp2
    go_ret
    exact ⟨rfl, q.out⟩
  · have k1 : decide (400 < m) = false := decide_eq_false g1
    have k2 : decide ((400 : Int) < (m : Int)) = false := decide_eq_false (by omega)
    obtain ⟨r, hr⟩ : ∃ r, awrong a l = r := ⟨_, rfl⟩
    generalize hW0 : w.alloc (.cells #[.int .i64 X, .int .i64 Y, .int .i64 Z] 24) = W0 at HI HX0 HR0
    have CN := Lib.hid (aNew_any a A m c l W0 HI.out HC.out HL.out HO.out r hr)
    have CRF := Lib.hid fun (W : World) (hW : Below W0.heap.size W0 W) => arefs_any A m c l W (HI.out.below hW) HL.out (by omega)
    have CWR := Lib.hid fun (A' : Option Addr) (c' : Nat) (W : World) (h1 : RowsAt encA 3 W A' l) (h2 : Caps A' m c') => rWrong_any a A' m c' l W h1 h2 HL.out r hr
    have HW0 := Lib.hid hW0
    clear hW0
    by_cases hr0 : r = 0
    · subst hr0
      obtain ⟨z0, z40, _, hap, hok⟩ := awrong_zero' hr
      have HOP := Lib.hid (ord_perm alt alt_swo l)
      have hol : (ord alt l).length = m := by rw [HOP.out.length_eq, HL.out]
      have HOL := Lib.hid hol
      have CRO := Lib.hid fun (A' : Option Addr) (c' : Nat) (W : World) (h1 : RowsAt encA 3 W A' l) => rOrdered_any A' m c' l W h1 HL.out (by omega)
      clear hr hap hok hol
      go_enter Try.func3, Try.ntmps3
      go_wp2_with fail
      (try rw [HW0.out])
      with_reducible refine (CN.out).mono ?_
      rintro e1 w1 ⟨p1, rfl, _, hp1, b1⟩
      obtain ⟨s1, rfl, h1⟩ := hp1 trivial
      have H1 := Lib.hid h1
      have B1 := Lib.hid b1
      clear hp1 CN h1 b1
      go_wp2_with fail
      with_reducible refine (CRF.out _ B1.out).mono ?_
      rintro e3 w3 ⟨v3, rfl, o3, b3⟩
      obtain ⟨A3, c3, rfl, hR3, _, hC3⟩ := rows_of_own encA_len (by omega) o3
      have CW3 := Lib.hid (CWR.out A3 c3 w3 hR3 hC3)
      have B3 := Lib.hid (B1.out.trans (b3.mono B1.out.size))
      have H3 := Lib.hid (H1.out.below b3)
      clear o3 hR3 hC3 b3 H1 B1 CWR
      go_wp2_with fail
      with_reducible refine (CW3.out).mono ?_
      rintro e4 w4 ⟨rfl, b4⟩
      have B4 := Lib.hid (B3.out.trans (b4.mono B3.out.size))
      have H4 := Lib.hid (H3.out.below b4)
      clear b4 H3 B3 CW3
      go_wp2_with fail
      with_reducible refine (CRF.out _ B4.out).mono ?_
      rintro e5 w5 ⟨v5, rfl, o5, b5⟩
      obtain ⟨A5, c5, rfl, hR5, _, hC5⟩ := rows_of_own encA_len (by omega) o5
      have CO5 := Lib.hid (CRO.out A5 c5 w5 hR5)
      have B5 := Lib.hid (B4.out.trans (b5.mono B4.out.size))
      have H5 := Lib.hid (H4.out.below b5)
      clear o5 hR5 hC5 b5 H4 B4 CRO CRF
      go_wp2_with fail
      with_reducible refine (CO5.out).mono ?_
      rintro e9 w9 ⟨v9, rfl, o9, b9⟩
      have B9 := Lib.hid (B5.out.trans (b9.mono B5.out.size))
      have H9 := Lib.hid (H5.out.below b9)
      rw [← HOL.out] at o9
      obtain ⟨A9, c9, rfl, hR9, _, _⟩ := rows_of_own encA_len (by omega) o9
      rw [HOL.out]
      have HR9 := Lib.hid hR9
      have HB9 := Lib.hid (HR0.out.below B9.out HR0.out.lt)
      clear o9 hR9 b9 CO5 H5 B5
      obtain ⟨O, hO⟩ : ∃ O, O = ord alt l := ⟨_, rfl⟩
      rw [← hO] at H9 HR9 HOL
      clear hO
      have ST := ran_slt
      have x10 : Below w9.heap.size w9 (w9.alloc (.cells #[.int .i64 0, .int .i64 0, .int .i64 0] 35)) := (Below.refl _ _).alloc (Nat.le_refl _) _
      have R10 : RawAt 35 (w9.alloc (.cells #[.int .i64 0, .int .i64 0, .int .i64 0] 35)) w9.heap.size #[.int .i64 0, .int .i64 0, .int .i64 0] := heap_alloc_new w9 _
      have HX10 := Lib.hid x10
      have HR10 := Lib.hid R10
      have hsz : w.heap.size < w9.heap.size := HB9.out.lt
      have hsz0 := B9.out.size
      clear x10 R10
      go_wp2_with fail
      go_loopg [11, 13, 51] m (fun g v ic i wr => ∃ (k : Nat) (fa : An) (ib : Bool), i = .int .i64 k ∧ ic = .bool ib ∧ k ≤ m ∧ m - k ≤ g ∧ Hid (FoundIs Z (O.take k) fa ib) ∧ Hid (Below w9.heap.size w9 wr) ∧ Hid (RawAt 35 wr w9.heap.size #[.int .i64 fa.id, .int .i64 fa.pl, .int .i64 fa.bi]) ∧ Hid (wr.ownsRow (w9.heap.size + 1) 35 3 v (awithin X Y (O.take k)).length (kfl encA (awithin X Y (O.take k)))))
      case atStart => exact ⟨0, ⟨0, 0, 0⟩, false, rfl, rfl, by omega, by omega, Lib.hid (found_nil Z), HX10, HR10, Lib.hid (World.ownsRow_nil _ _ _ _)⟩
      case round =>
        obtain ⟨k, fa, ib, rfl, rfl, h1, h2, hf, hb, hr, hown⟩ := hrel
        clear HX10 HR10
        by_cases hlt : k < m
        · have hkl : k < O.length := by rw [HOL.out]; exact hlt
          obtain ⟨bA, off, rfl, hbA, hce⟩ := (HR9.out.below hb.out).at1 hkl
          have f0 := hce 0 (by omega)
          have f1 := hce 1 (by omega)
          have f2 := hce 2 (by omega)
          rw [Nat.add_zero] at f0
          have htk : O.take (k + 1) = O.take k ++ [O[k]] := by rw [List.take_succ_eq_append_getElem hkl]
          have hws := awithin_snoc X Y (O.take k) O[k]
          rw [← htk] at hws
          have HTK := Lib.hid htk
          have HWS := Lib.hid hws
          have hwl := awithin_len X Y (O.take k)
          rw [List.length_take] at hwl
          clear htk hws hce
          generalize O[k] = b at *
          simp [encA] at f0 f1 f2
          have i1 : (0 : Int) ≤ k := by omega
          have i2 : (k : Int) < m := by omega
          have x3 : Below wr.heap.size wr (wr.alloc (.cells #[.int .i64 b.id, .int .i64 b.pl, .int .i64 b.bi] 35)) := (Below.refl _ _).alloc (Nat.le_refl _) _
          have R3 : RawAt 35 (wr.alloc (.cells #[.int .i64 b.id, .int .i64 b.pl, .int .i64 b.bi] 35)) wr.heap.size #[.int .i64 b.id, .int .i64 b.pl, .int .i64 b.bi] := heap_alloc_new wr _
          have RF3 := RawAt.below hr.out x3 hr.out.lt
          have RW3 := RawAt.below (RawAt.below HB9.out hb.out HB9.out.lt) x3 (RawAt.below HB9.out hb.out HB9.out.lt).lt
          have e0 := RawAt.cell R3 0
          have e1 := RawAt.cell R3 1
          have e2 := RawAt.cell R3 2
          have d0 := RawAt.cell RW3 0
          have d1 := RawAt.cell RW3 1
          have d2 := RawAt.cell RW3 2
          simp at e0 e1 e2 d0 d1 d2
          have HR3 := Lib.hid R3
          have HRF3 := Lib.hid RF3
          have HRW3 := Lib.hid RW3
          have HB3 := Lib.hid (hb.out.trans (x3.mono hb.out.size))
          have HO3 := Lib.hid (own_below hown.out x3)
          obtain ⟨A3, c3, rfl⟩ := own_form hown.out
          have hlt4 := hown.out.lt
          have hz3 : (wr.alloc (.cells #[.int .i64 b.id, .int .i64 b.pl, .int .i64 b.bi] 35)).heap.size = wr.heap.size + 1 := by simp
          generalize hW3 : wr.alloc (.cells #[.int .i64 b.id, .int .i64 b.pl, .int .i64 b.bi] 35) = W3 at HR3 HRF3 HRW3 HB3 HO3 hz3
          have x4 : Below W3.heap.size W3 (W3.alloc (.cells #[.int .i64 b.id, .int .i64 b.pl, .int .i64 b.bi] 35)) := (Below.refl _ _).alloc (Nat.le_refl _) _
          have R4 : RawAt 35 (W3.alloc (.cells #[.int .i64 b.id, .int .i64 b.pl, .int .i64 b.bi] 35)) W3.heap.size #[.int .i64 b.id, .int .i64 b.pl, .int .i64 b.bi] := heap_alloc_new W3 _
          have HO4 := Lib.hid (own_below HO3.out x4)
          have HS4 : Hid (RowsAt encA 3 (W3.alloc (.cells #[.int .i64 b.id, .int .i64 b.pl, .int .i64 b.bi] 35)) (some ⟨wr.heap.size + 1, 0, none⟩) [b]) := Lib.hid (by rw [← hz3]; exact rows_of_block (enc := encA) (k := 3) encA_len R4 (l := [b]) rfl)
          have HB4 := Lib.hid (HB3.out.trans (x4.mono HB3.out.size))
          have HRF4 := Lib.hid (RawAt.below HRF3.out x4 HRF3.out.lt)
          have HRW4 := Lib.hid (RawAt.below HRW3.out x4 HRW3.out.lt)
          have HR4 := Lib.hid (RawAt.below HR3.out x4 HR3.out.lt)
          have HW3 := Lib.hid hW3
          clear R3 RF3 RW3 x3 hown hb hr x4 R4 hW3 hz3
          by_cases g1 : X ≤ b.pl
          · have k1 : decide (X ≤ b.pl) = true := decide_eq_true g1
            by_cases g2 : b.pl ≤ Y
            · have k2 : decide (b.pl ≤ Y) = true := decide_eq_true g2
              have HN := HWS.out
              rw [if_pos ⟨g1, g2⟩] at HN
              have HN := Lib.hid HN
              clear g1 g2 HWS
              rw [← HW3.out] at HO4 HS4 HB4 HRF4 HRW4 HR4
              have ARM := Lib.hid HRF4.out.lt
              go_upto_region 18 with (at_builtin; refine wpList_appK (enc := encA) ST encA_len (by omega) rfl (.tmp 67) (.tmp 69) rfl (base := w9.heap.size + 1) (v := .slice A3 (awithin X Y (O.take k)).length c3) rfl HO4.out _ 1 1 [b] rfl HS4.out ⟨Nat.le_refl _, fun h => by cases h⟩ rfl (kfl_one' encA_one _) (by simp only [maxLen]; omega) (by omega) HRF4.out.lt ?_; intro v5 w5 hown5 hg5 hor5)
              have HBx := Lib.hid (HB4.out.grown hg5 HB4.out.size (fun j hj => Nat.le_of_succ_le (hlt4 j hj).1))
              have HRFx := Lib.hid (RawAt.below HRF4.out ((Below.refl (w9.heap.size + 1) _).grown hg5 HRF4.out.lt (fun j hj => (hlt4 j hj).1)) (Nat.lt_succ_self _))
              have HRWx := RawAt.below HRW4.out ((Below.refl (w9.heap.size + 1) _).grown hg5 HRF4.out.lt (fun j hj => (hlt4 j hj).1)) (Nat.lt_succ_of_lt hsz)
              have HRx : RawAt 35 w5 wr.heap.size #[.int .i64 b.id, .int .i64 b.pl, .int .i64 b.bi] := (hg5.block wr.heap.size HR4.out.lt (fun hk => by have := (hlt4 _ hk.symm).2; omega)).trans HR4.out
              have HOx : Hid (w5.ownsRow (w9.heap.size + 1) 35 3 v5 (awithin X Y (O.take (k + 1))).length (kfl encA (awithin X Y (O.take (k + 1))))) := Lib.hid (by rw [HN.out, kfl_append, List.length_append]; exact hown5)
              have e0 := RawAt.cell HRx 0
              have e1 := RawAt.cell HRx 1
              have e2 := RawAt.cell HRx 2
              have d2 := RawAt.cell HRWx 2
              simp at e0 e1 e2 d2
              clear hown5 hg5 hor5 HO4 HS4 HB4 HB3 HO3 HRF4 HRW4 HR4 HRWx HRx ARM
              by_cases g3 : b.id = Z
              · have k7 : decide (b.id = Z) = true := decide_eq_true g3
                have k8 : (b.id == Z) = true := by simp [g3]
                have HFN : Hid (FoundIs Z (O.take (k + 1)) b true) := Lib.hid (by rw [HTK.out]; exact found_yes g3)
                have RS := ((HRFx.out.set_ 0 (.int .i64 b.id)).set_ 1 (.int .i64 b.pl)).set_ 2 (.int .i64 b.bi)
                have HRS := Lib.hid (show RawAt 35 _ w9.heap.size #[.int .i64 b.id, .int .i64 b.pl, .int .i64 b.bi] from RS)
                have HBS := Lib.hid (((HBx.out.setCell (p := ⟨w9.heap.size, 0, none⟩) (Nat.le_refl _) (.int .i64 b.id)).setCell (p := ⟨w9.heap.size, 1, none⟩) (Nat.le_refl _) (.int .i64 b.pl)).setCell (p := ⟨w9.heap.size, 2, none⟩) (Nat.le_refl _) (.int .i64 b.bi))
                have HOS := Lib.hid (own_set (own_set (own_set HOx.out (Nat.lt_succ_self _) 0 (.int .i64 b.id)) (Nat.lt_succ_self _) 1 (.int .i64 b.pl)) (Nat.lt_succ_self _) 2 (.int .i64 b.bi))
                have s0 := RawAt.free HRFx.out 0
                have s1 := RawAt.free HRFx.out 1
                have s2 := RawAt.free HRFx.out 2
                have c0 := RawAt.cell HRFx.out 0
                have c1 := RawAt.cell HRFx.out 1
                have c2 := RawAt.cell HRFx.out 2
                simp at c0 c1 c2
                clear g3 RS
                go_wp2
                go_roundg (gk - 1)
                case measure => omega
                case rel => exact ⟨k + 1, b, true, by go_num, rfl, by omega, by omega, HFN, HBS, HRS, HOS⟩
              · have k7 : decide (b.id = Z) = false := decide_eq_false g3
                have k8 : (b.id == Z) = false := by simp [g3]
                have HFN : Hid (FoundIs Z (O.take (k + 1)) fa ib) := Lib.hid (by rw [HTK.out]; exact found_no hf.out g3)
                clear g3
                go_wp2
                go_roundg (gk - 1)
                case measure => omega
                case rel => exact ⟨k + 1, fa, ib, by go_num, rfl, by omega, by omega, HFN, HBx, HRFx, HOx⟩
            · have k2 : decide (b.pl ≤ Y) = false := decide_eq_false g2
              have HN := HWS.out
              rw [if_neg (fun h => g2 h.2)] at HN
              have HN := Lib.hid HN
              clear g1 g2 HWS HO4 HS4 HB4 HRF4 HRW4 HR4
              rw [← HW3.out] at HB3 HO3 HRF3
              have HBx := HB3
              have HRFx := HRF3
              have HOx : Hid ((wr.alloc (.cells #[.int .i64 b.id, .int .i64 b.pl, .int .i64 b.bi] 35)).ownsRow (w9.heap.size + 1) 35 3 (.slice A3 (awithin X Y (O.take k)).length c3) (awithin X Y (O.take (k + 1))).length (kfl encA (awithin X Y (O.take (k + 1))))) := Lib.hid (by rw [HN.out]; exact HO3.out)
              clear HB3 HO3 HRF3
              by_cases g3 : b.id = Z
              · have k7 : decide (b.id = Z) = true := decide_eq_true g3
                have k8 : (b.id == Z) = true := by simp [g3]
                have HFN : Hid (FoundIs Z (O.take (k + 1)) b true) := Lib.hid (by rw [HTK.out]; exact found_yes g3)
                have RS := ((HRFx.out.set_ 0 (.int .i64 b.id)).set_ 1 (.int .i64 b.pl)).set_ 2 (.int .i64 b.bi)
                have HRS := Lib.hid (show RawAt 35 _ w9.heap.size #[.int .i64 b.id, .int .i64 b.pl, .int .i64 b.bi] from RS)
                have HBS := Lib.hid (((HBx.out.setCell (p := ⟨w9.heap.size, 0, none⟩) (Nat.le_refl _) (.int .i64 b.id)).setCell (p := ⟨w9.heap.size, 1, none⟩) (Nat.le_refl _) (.int .i64 b.pl)).setCell (p := ⟨w9.heap.size, 2, none⟩) (Nat.le_refl _) (.int .i64 b.bi))
                have HOS := Lib.hid (own_set (own_set (own_set HOx.out (Nat.lt_succ_self _) 0 (.int .i64 b.id)) (Nat.lt_succ_self _) 1 (.int .i64 b.pl)) (Nat.lt_succ_self _) 2 (.int .i64 b.bi))
                have s0 := RawAt.free HRFx.out 0
                have s1 := RawAt.free HRFx.out 1
                have s2 := RawAt.free HRFx.out 2
                have c0 := RawAt.cell HRFx.out 0
                have c1 := RawAt.cell HRFx.out 1
                have c2 := RawAt.cell HRFx.out 2
                simp at c0 c1 c2
                clear g3 RS
                go_wp2
                go_roundg (gk - 1)
                case measure => omega
                case rel => exact ⟨k + 1, b, true, by go_num, rfl, by omega, by omega, HFN, HBS, HRS, HOS⟩
              · have k7 : decide (b.id = Z) = false := decide_eq_false g3
                have k8 : (b.id == Z) = false := by simp [g3]
                have HFN : Hid (FoundIs Z (O.take (k + 1)) fa ib) := Lib.hid (by rw [HTK.out]; exact found_no hf.out g3)
                clear g3
                go_wp2
                go_roundg (gk - 1)
                case measure => omega
                case rel => exact ⟨k + 1, fa, ib, by go_num, rfl, by omega, by omega, HFN, HBx, HRFx, HOx⟩
          · have k1 : decide (X ≤ b.pl) = false := decide_eq_false g1
            have HN := HWS.out
            rw [if_neg (fun h => g1 h.1)] at HN
            have HN := Lib.hid HN
            clear g1 HWS HO4 HS4 HB4 HRF4 HRW4 HR4
            rw [← HW3.out] at HB3 HO3 HRF3
            have HBx := HB3
            have HRFx := HRF3
            have HOx : Hid ((wr.alloc (.cells #[.int .i64 b.id, .int .i64 b.pl, .int .i64 b.bi] 35)).ownsRow (w9.heap.size + 1) 35 3 (.slice A3 (awithin X Y (O.take k)).length c3) (awithin X Y (O.take (k + 1))).length (kfl encA (awithin X Y (O.take (k + 1))))) := Lib.hid (by rw [HN.out]; exact HO3.out)
            clear HB3 HO3 HRF3
            by_cases g3 : b.id = Z
            · have k7 : decide (b.id = Z) = true := decide_eq_true g3
              have k8 : (b.id == Z) = true := by simp [g3]
              have HFN : Hid (FoundIs Z (O.take (k + 1)) b true) := Lib.hid (by rw [HTK.out]; exact found_yes g3)
              have RS := ((HRFx.out.set_ 0 (.int .i64 b.id)).set_ 1 (.int .i64 b.pl)).set_ 2 (.int .i64 b.bi)
              have HRS := Lib.hid (show RawAt 35 _ w9.heap.size #[.int .i64 b.id, .int .i64 b.pl, .int .i64 b.bi] from RS)
              have HBS := Lib.hid (((HBx.out.setCell (p := ⟨w9.heap.size, 0, none⟩) (Nat.le_refl _) (.int .i64 b.id)).setCell (p := ⟨w9.heap.size, 1, none⟩) (Nat.le_refl _) (.int .i64 b.pl)).setCell (p := ⟨w9.heap.size, 2, none⟩) (Nat.le_refl _) (.int .i64 b.bi))
              have HOS := Lib.hid (own_set (own_set (own_set HOx.out (Nat.lt_succ_self _) 0 (.int .i64 b.id)) (Nat.lt_succ_self _) 1 (.int .i64 b.pl)) (Nat.lt_succ_self _) 2 (.int .i64 b.bi))
              have s0 := RawAt.free HRFx.out 0
              have s1 := RawAt.free HRFx.out 1
              have s2 := RawAt.free HRFx.out 2
              have c0 := RawAt.cell HRFx.out 0
              have c1 := RawAt.cell HRFx.out 1
              have c2 := RawAt.cell HRFx.out 2
              simp at c0 c1 c2
              clear g3 RS
              go_wp2
              go_roundg (gk - 1)
              case measure => omega
              case rel => exact ⟨k + 1, b, true, by go_num, rfl, by omega, by omega, HFN, HBS, HRS, HOS⟩
            · have k7 : decide (b.id = Z) = false := decide_eq_false g3
              have k8 : (b.id == Z) = false := by simp [g3]
              have HFN : Hid (FoundIs Z (O.take (k + 1)) fa ib) := Lib.hid (by rw [HTK.out]; exact found_no hf.out g3)
              clear g3
              go_wp2
              go_roundg (gk - 1)
              case measure => omega
              case rel => exact ⟨k + 1, fa, ib, by go_num, rfl, by omega, by omega, HFN, HBx, HRFx, HOx⟩
        · obtain rfl : m = k := by omega
          have e2 : O.take m = O := List.take_of_length_le (by rw [HOL.out]; exact Nat.le_refl _)
          rw [e2] at hf hown
          have HBE := Lib.hid hb.out
          have d2 := RawAt.cell (RawAt.below HB9.out hb.out HB9.out.lt) 2
          simp at d2
          have CG := Lib.hid (get_found (H9.out.below hb.out) hf.out HS.out (if ib = true then 0 else 6) rfl)
          obtain ⟨fe, hfe⟩ : ∃ fe : Int, fe = if ib = true then 0 else 6 := ⟨_, rfl⟩
          rw [← hfe] at CG
          have kf0 : (fe == 0) = ib := by rw [hfe]; cases ib <;> rfl
          have kf6 : (fe == 6) = !ib := by rw [hfe]; cases ib <;> rfl
          obtain ⟨AS, cS, rfl, hRS, _, _⟩ := rows_of_own encA_len (by omega) hown.out
          have HRS := Lib.hid hRS
          have HFR := Lib.hid hr.out
          have kib : (ib == ib) = true := by simp
          have kib2 : ((!ib) == !ib) = true := by simp
          have hWL := awithin_len X Y O
          rw [HOL.out] at hWL
          clear hRS hfe hf hown hr hb e2
          go_wp2_with fail
          with_reducible refine (CG.out).mono ?_
          rintro e20 w20 ⟨rfl, b20⟩
          have x21 : Below w20.heap.size w20 (w20.alloc (.cells #[.int .i64 fa.id, .int .i64 fa.pl, .int .i64 fa.bi] 36)) := (Below.refl _ _).alloc (Nat.le_refl _) _
          have R21 : RawAt 36 (w20.alloc (.cells #[.int .i64 fa.id, .int .i64 fa.pl, .int .i64 fa.bi] 36)) w20.heap.size #[.int .i64 fa.id, .int .i64 fa.pl, .int .i64 fa.bi] := heap_alloc_new w20 _
          have y21 := b20.trans (x21.mono b20.size)
          have HB21 := Lib.hid (HBE.out.trans (y21.mono HBE.out.size))
          have HFR21 := Lib.hid (RawAt.below HFR.out y21 HFR.out.lt)
          have HRS21 := Lib.hid (HRS.out.below y21)
          have HR21 := Lib.hid R21
          clear b20 x21 R21 y21 CG HBE HFR HRS
          go_wp2_with fail
          generalize w20.heap.size = b21 at *
          generalize w20.alloc (.cells #[.int .i64 fa.id, .int .i64 fa.pl, .int .i64 fa.bi] 36) = WS at *
          have HRW21 := Lib.hid (RawAt.below HB9.out HB21.out HB9.out.lt)
          have HS21 := Lib.hid (H9.out.below HB21.out)
          have HRA21 := Lib.hid (HR9.out.below HB21.out)
          have HQ21 := Lib.hid (HX0.out.trans ((B9.out.trans (HB21.out.mono hsz0)).mono HX0.out.size))
          clear HB21 HB9 H9 HR9
          have MK : Hid (∀ W : World, Below WS.heap.size WS W → (fun W : World => W.cell? ⟨w.heap.size, 0, none⟩ = some (.int .i64 X) ∧ W.cell? ⟨w.heap.size, 1, none⟩ = some (.int .i64 Y) ∧ W.cell? ⟨b21, 0, none⟩ = some (.int .i64 fa.id) ∧ W.cell? ⟨b21, 1, none⟩ = some (.int .i64 fa.pl) ∧ W.cell? ⟨b21, 2, none⟩ = some (.int .i64 fa.bi) ∧ W.cell? ⟨w9.heap.size, 0, none⟩ = some (.int .i64 fa.id) ∧ W.cell? ⟨w9.heap.size, 1, none⟩ = some (.int .i64 fa.pl) ∧ W.cell? ⟨w9.heap.size, 2, none⟩ = some (.int .i64 fa.bi)) W) := fun W hW => by
            have r1 := RawAt.below HRW21.out hW HRW21.out.lt
            have r2 := RawAt.below HR21.out hW HR21.out.lt
            have r3 := RawAt.below HFR21.out hW HFR21.out.lt
            exact ⟨RawAt.cell r1 0, RawAt.cell r1 1, RawAt.cell r2 0, RawAt.cell r2 1, RawAt.cell r2 2, RawAt.cell r3 0, RawAt.cell r3 1, RawAt.cell r3 2⟩
          have CAL := Lib.hid fun (W : World) (hW : Below WS.heap.size WS W) => aAll_any (HS21.out.below hW) (by rw [HOL.out]; omega)
          have CWI := Lib.hid fun (W : World) (hW : Below WS.heap.size WS W) => aWithin_any (HS21.out.below hW) (by rw [HOL.out]; omega) X Y
          rw [HOL.out] at CAL
          have hW2 : Below WS.heap.size WS WS.drew := (Below.refl _ _).drew
          refine wp_region_noPanic ?_
          refine wp_region_held_drew (S := (fun W => W.cell? ⟨w.heap.size, 0, none⟩ = some (.int .i64 X) ∧ W.cell? ⟨w.heap.size, 1, none⟩ = some (.int .i64 Y) ∧ W.cell? ⟨b21, 0, none⟩ = some (.int .i64 fa.id) ∧ W.cell? ⟨b21, 1, none⟩ = some (.int .i64 fa.pl) ∧ W.cell? ⟨b21, 2, none⟩ = some (.int .i64 fa.bi) ∧ W.cell? ⟨w9.heap.size, 0, none⟩ = some (.int .i64 fa.id) ∧ W.cell? ⟨w9.heap.size, 1, none⟩ = some (.int .i64 fa.pl) ∧ W.cell? ⟨w9.heap.size, 2, none⟩ = some (.int .i64 fa.bi))) (by kernel_rfl) (MK.out _ hW2) (fun hHeld => ?_)
          refine wpAnyH_take (i := 0) (v := ?_) rfl (by kernel_rfl) (by kernel_rfl) (by kernel_rfl) (fun _ _ _ h => h) (Or.inl ⟨by rfl, ?_⟩) hHeld ?_
          rotate_left
          · intro w hSw
            (try dsimp only at hSw)
            go_simp
            try with_reducible rfl
          go_simp
          refine wpAnyH_take (i := 2) (v := ?_) rfl (by kernel_rfl) (by kernel_rfl) (by kernel_rfl) (fun _ _ _ h => h) (Or.inl ⟨by rfl, ?_⟩) hHeld ?_
          rotate_left
          · intro w hSw
            (try dsimp only at hSw)
            go_simp
            try with_reducible rfl
          go_simp
          refine wpAnyH_ready (rs := [1]) (by kernel_rfl) (by simp) ?_
          refine AllReadyH.cons rfl (fun K hK => ?_) ?_
          rotate_left
          · exact AllReadyH.nil
          go_simp
          go_wp2_with (first | (go_at_call 23; (with_reducible refine (CAL.out _ hW2).mono ?_); rintro e wa ⟨va, rfl, oa, ba⟩; obtain ⟨Aa, ca, rfl, hRa, _, hCa⟩ := rows_of_own encA_len (by omega) oa; have hW2 := hW2.trans (ba.mono hW2.size); have hRa2 := HRA21.out.below hW2; have CS1 := Lib.hid (asame_any Aa A9 m ca c9 O wa hRa hRa2 HOL.out (by omega)); clear oa hRa hCa hRa2) | (go_at_call 22; (with_reducible refine (CS1.out).mono ?_); rintro e wb ⟨rfl, bb⟩; have hW2 := hW2.trans (bb.mono hW2.size)) | (go_at_call 24; (with_reducible refine (CWI.out _ hW2).mono ?_); rintro e wc ⟨vc, rfl, oc, bc⟩; obtain ⟨Ac, cc, rfl, hRc, _, hCc⟩ := rows_of_own encA_len (by omega) oc; have hW2 := hW2.trans (bc.mono hW2.size); have hRc2 := HRS21.out.below hW2; have CS2 := Lib.hid (asame_any Ac AS _ cc cS (awithin X Y O) wc hRc hRc2 rfl (by omega)); clear oc hRc hCc hRc2) | (go_at_call 22; (with_reducible refine (CS2.out).mono ?_); rintro e wd ⟨rfl, bd⟩; have hW2 := hW2.trans (bd.mono hW2.size); have CRE := Lib.hid (arefs_any (some ⟨wd.heap.size, 0, none⟩) 1 1 [fa] (wd.alloc (.cells #[.int .i64 fa.id, .int .i64 fa.pl, .int .i64 fa.bi] 36)) (rows_of_block (t := 36) (cs := #[.int .i64 fa.id, .int .i64 fa.pl, .int .i64 fa.bi]) encA_len (heap_alloc_new wd _) rfl) rfl (by omega))) | (go_at_call 19; (with_reducible refine (CRE.out).mono ?_); rintro e we ⟨ve, rfl, oe, be⟩; obtain ⟨ge, ce, rfl⟩ := own_slice oe (by omega); have hW2 := (hW2.alloc hW2.size (.cells #[.int .i64 fa.id, .int .i64 fa.pl, .int .i64 fa.bi] 36)).trans (be.mono (hW2.alloc hW2.size (.cells #[.int .i64 fa.id, .int .i64 fa.pl, .int .i64 fa.bi] 36)).size); have j0 := oe.cellAt 0 (by omega); have j1 := oe.cellAt 1 (by omega); have j2 := oe.cellAt 2 (by omega); simp [kfl, encA] at j0 j1 j2; clear oe) | (go_at_call 16; (with_reducible refine (CB.out _).mono ?_); rintro e wf ⟨rfl, bf⟩; have hW2 := hW2.trans (bf.mono hW2.size)))
          refine hK.out _ _ (by first | (with_reducible exact MK.out _ hW2) | exact MK.out _ (hW2.alloc hW2.size _)) (fun hHeld => ?_)
          clear hK K
          go_simp
          refine wpAnyH_ready (rs := [3]) (by kernel_rfl) (by simp) ?_
          refine AllReadyH.cons rfl (fun K hK => ?_) ?_
          rotate_left
          · exact AllReadyH.nil
          go_simp
          go_wp2_with (first | (go_at_call 23; (with_reducible refine (CAL.out _ hW2).mono ?_); rintro e wa ⟨va, rfl, oa, ba⟩; obtain ⟨Aa, ca, rfl, hRa, _, hCa⟩ := rows_of_own encA_len (by omega) oa; have hW2 := hW2.trans (ba.mono hW2.size); have hRa2 := HRA21.out.below hW2; have CS1 := Lib.hid (asame_any Aa A9 m ca c9 O wa hRa hRa2 HOL.out (by omega)); clear oa hRa hCa hRa2) | (go_at_call 22; (with_reducible refine (CS1.out).mono ?_); rintro e wb ⟨rfl, bb⟩; have hW2 := hW2.trans (bb.mono hW2.size)) | (go_at_call 24; (with_reducible refine (CWI.out _ hW2).mono ?_); rintro e wc ⟨vc, rfl, oc, bc⟩; obtain ⟨Ac, cc, rfl, hRc, _, hCc⟩ := rows_of_own encA_len (by omega) oc; have hW2 := hW2.trans (bc.mono hW2.size); have hRc2 := HRS21.out.below hW2; have CS2 := Lib.hid (asame_any Ac AS _ cc cS (awithin X Y O) wc hRc hRc2 rfl (by omega)); clear oc hRc hCc hRc2) | (go_at_call 22; (with_reducible refine (CS2.out).mono ?_); rintro e wd ⟨rfl, bd⟩; have hW2 := hW2.trans (bd.mono hW2.size); have CRE := Lib.hid (arefs_any (some ⟨wd.heap.size, 0, none⟩) 1 1 [fa] (wd.alloc (.cells #[.int .i64 fa.id, .int .i64 fa.pl, .int .i64 fa.bi] 36)) (rows_of_block (t := 36) (cs := #[.int .i64 fa.id, .int .i64 fa.pl, .int .i64 fa.bi]) encA_len (heap_alloc_new wd _) rfl) rfl (by omega))) | (go_at_call 19; (with_reducible refine (CRE.out).mono ?_); rintro e we ⟨ve, rfl, oe, be⟩; obtain ⟨ge, ce, rfl⟩ := own_slice oe (by omega); have hW2 := (hW2.alloc hW2.size (.cells #[.int .i64 fa.id, .int .i64 fa.pl, .int .i64 fa.bi] 36)).trans (be.mono (hW2.alloc hW2.size (.cells #[.int .i64 fa.id, .int .i64 fa.pl, .int .i64 fa.bi] 36)).size); have j0 := oe.cellAt 0 (by omega); have j1 := oe.cellAt 1 (by omega); have j2 := oe.cellAt 2 (by omega); simp [kfl, encA] at j0 j1 j2; clear oe) | (go_at_call 16; (with_reducible refine (CB.out _).mono ?_); rintro e wf ⟨rfl, bf⟩; have hW2 := hW2.trans (bf.mono hW2.size)))
          refine hK.out _ _ (by first | (with_reducible exact MK.out _ hW2) | exact MK.out _ (hW2.alloc hW2.size _)) (fun hHeld => ?_)
          clear hK K
          go_simp
          refine wpAnyH_take (i := 4) (v := ?_) rfl (by kernel_rfl) (by kernel_rfl) (by kernel_rfl) (fun _ _ _ h => h) (Or.inl ⟨by rfl, ?_⟩) hHeld ?_
          rotate_left
          · intro w hSw
            (try dsimp only at hSw)
            go_simp
            try with_reducible rfl
          go_simp
          refine wpAnyH_take (i := 5) (v := ?_) rfl (by kernel_rfl) (by kernel_rfl) (by kernel_rfl) (fun _ _ _ h => h) (Or.inl ⟨by rfl, ?_⟩) hHeld ?_
          rotate_left
          · intro w hSw
            (try dsimp only at hSw)
            go_simp
            try with_reducible rfl
          go_simp
          refine wpAnyH_take (i := 6) (v := ?_) rfl (by kernel_rfl) (by kernel_rfl) (by kernel_rfl) (fun _ _ _ h => h) (Or.inl ⟨by rfl, ?_⟩) hHeld ?_
          rotate_left
          · intro w hSw
            (try dsimp only at hSw)
            go_simp
            try with_reducible rfl
          go_simp
          refine wpAnyH_take (i := 8) (v := ?_) rfl (by kernel_rfl) (by kernel_rfl) (by kernel_rfl) (fun _ _ _ h => h) (Or.inl ⟨by rfl, ?_⟩) hHeld ?_
          rotate_left
          · intro w hSw
            (try dsimp only at hSw)
            go_simp
            try with_reducible rfl
          go_simp
          refine wpAnyH_take (i := 7) (v := ?_) rfl (by kernel_rfl) (by kernel_rfl) (by kernel_rfl) (fun _ _ _ h => h) (Or.inl ⟨by rfl, ?_⟩) hHeld ?_
          rotate_left
          · intro w hSw
            (try dsimp only at hSw)
            go_simp
            try with_reducible rfl
          go_simp
          refine wpAnyH_take (i := 9) (v := ?_) rfl (by kernel_rfl) (by kernel_rfl) (by kernel_rfl) (fun _ _ _ h => h) (Or.inl ⟨by rfl, ?_⟩) hHeld ?_
          rotate_left
          · intro w hSw
            (try dsimp only at hSw)
            go_simp
            try with_reducible rfl
          go_simp
          refine wpAnyH_take (i := 11) (v := ?_) rfl (by kernel_rfl) (by kernel_rfl) (by kernel_rfl) (fun _ _ _ h => h) (Or.inl ⟨by rfl, ?_⟩) hHeld ?_
          rotate_left
          · intro w hSw
            (try dsimp only at hSw)
            go_simp
            try with_reducible rfl
          go_simp
          refine wpAnyH_ready (rs := [10]) (by kernel_rfl) (by simp) ?_
          refine AllReadyH.cons rfl (fun K hK => ?_) ?_
          rotate_left
          · exact AllReadyH.nil
          go_simp
          go_wp2_with (first | (go_at_call 23; (with_reducible refine (CAL.out _ hW2).mono ?_); rintro e wa ⟨va, rfl, oa, ba⟩; obtain ⟨Aa, ca, rfl, hRa, _, hCa⟩ := rows_of_own encA_len (by omega) oa; have hW2 := hW2.trans (ba.mono hW2.size); have hRa2 := HRA21.out.below hW2; have CS1 := Lib.hid (asame_any Aa A9 m ca c9 O wa hRa hRa2 HOL.out (by omega)); clear oa hRa hCa hRa2) | (go_at_call 22; (with_reducible refine (CS1.out).mono ?_); rintro e wb ⟨rfl, bb⟩; have hW2 := hW2.trans (bb.mono hW2.size)) | (go_at_call 24; (with_reducible refine (CWI.out _ hW2).mono ?_); rintro e wc ⟨vc, rfl, oc, bc⟩; obtain ⟨Ac, cc, rfl, hRc, _, hCc⟩ := rows_of_own encA_len (by omega) oc; have hW2 := hW2.trans (bc.mono hW2.size); have hRc2 := HRS21.out.below hW2; have CS2 := Lib.hid (asame_any Ac AS _ cc cS (awithin X Y O) wc hRc hRc2 rfl (by omega)); clear oc hRc hCc hRc2) | (go_at_call 22; (with_reducible refine (CS2.out).mono ?_); rintro e wd ⟨rfl, bd⟩; have hW2 := hW2.trans (bd.mono hW2.size); have CRE := Lib.hid (arefs_any (some ⟨wd.heap.size, 0, none⟩) 1 1 [fa] (wd.alloc (.cells #[.int .i64 fa.id, .int .i64 fa.pl, .int .i64 fa.bi] 36)) (rows_of_block (t := 36) (cs := #[.int .i64 fa.id, .int .i64 fa.pl, .int .i64 fa.bi]) encA_len (heap_alloc_new wd _) rfl) rfl (by omega))) | (go_at_call 19; (with_reducible refine (CRE.out).mono ?_); rintro e we ⟨ve, rfl, oe, be⟩; obtain ⟨ge, ce, rfl⟩ := own_slice oe (by omega); have hW2 := (hW2.alloc hW2.size (.cells #[.int .i64 fa.id, .int .i64 fa.pl, .int .i64 fa.bi] 36)).trans (be.mono (hW2.alloc hW2.size (.cells #[.int .i64 fa.id, .int .i64 fa.pl, .int .i64 fa.bi] 36)).size); have j0 := oe.cellAt 0 (by omega); have j1 := oe.cellAt 1 (by omega); have j2 := oe.cellAt 2 (by omega); simp [kfl, encA] at j0 j1 j2; clear oe) | (go_at_call 16; (with_reducible refine (CB.out _).mono ?_); rintro e wf ⟨rfl, bf⟩; have hW2 := hW2.trans (bf.mono hW2.size)))
          refine hK.out _ _ (by first | (with_reducible exact MK.out _ hW2) | exact MK.out _ (hW2.alloc hW2.size _)) (fun hHeld => ?_)
          clear hK K
          go_simp
          refine wpAnyH_ready (rs := [12]) (by kernel_rfl) (by simp) ?_
          refine AllReadyH.cons rfl (fun K hK => ?_) ?_
          rotate_left
          · exact AllReadyH.nil
          go_simp
          go_wp2_with (first | (go_at_call 23; (with_reducible refine (CAL.out _ hW2).mono ?_); rintro e wa ⟨va, rfl, oa, ba⟩; obtain ⟨Aa, ca, rfl, hRa, _, hCa⟩ := rows_of_own encA_len (by omega) oa; have hW2 := hW2.trans (ba.mono hW2.size); have hRa2 := HRA21.out.below hW2; have CS1 := Lib.hid (asame_any Aa A9 m ca c9 O wa hRa hRa2 HOL.out (by omega)); clear oa hRa hCa hRa2) | (go_at_call 22; (with_reducible refine (CS1.out).mono ?_); rintro e wb ⟨rfl, bb⟩; have hW2 := hW2.trans (bb.mono hW2.size)) | (go_at_call 24; (with_reducible refine (CWI.out _ hW2).mono ?_); rintro e wc ⟨vc, rfl, oc, bc⟩; obtain ⟨Ac, cc, rfl, hRc, _, hCc⟩ := rows_of_own encA_len (by omega) oc; have hW2 := hW2.trans (bc.mono hW2.size); have hRc2 := HRS21.out.below hW2; have CS2 := Lib.hid (asame_any Ac AS _ cc cS (awithin X Y O) wc hRc hRc2 rfl (by omega)); clear oc hRc hCc hRc2) | (go_at_call 22; (with_reducible refine (CS2.out).mono ?_); rintro e wd ⟨rfl, bd⟩; have hW2 := hW2.trans (bd.mono hW2.size); have CRE := Lib.hid (arefs_any (some ⟨wd.heap.size, 0, none⟩) 1 1 [fa] (wd.alloc (.cells #[.int .i64 fa.id, .int .i64 fa.pl, .int .i64 fa.bi] 36)) (rows_of_block (t := 36) (cs := #[.int .i64 fa.id, .int .i64 fa.pl, .int .i64 fa.bi]) encA_len (heap_alloc_new wd _) rfl) rfl (by omega))) | (go_at_call 19; (with_reducible refine (CRE.out).mono ?_); rintro e we ⟨ve, rfl, oe, be⟩; obtain ⟨ge, ce, rfl⟩ := own_slice oe (by omega); have hW2 := (hW2.alloc hW2.size (.cells #[.int .i64 fa.id, .int .i64 fa.pl, .int .i64 fa.bi] 36)).trans (be.mono (hW2.alloc hW2.size (.cells #[.int .i64 fa.id, .int .i64 fa.pl, .int .i64 fa.bi] 36)).size); have j0 := oe.cellAt 0 (by omega); have j1 := oe.cellAt 1 (by omega); have j2 := oe.cellAt 2 (by omega); simp [kfl, encA] at j0 j1 j2; clear oe) | (go_at_call 16; (with_reducible refine (CB.out _).mono ?_); rintro e wf ⟨rfl, bf⟩; have hW2 := hW2.trans (bf.mono hW2.size)))
          refine hK.out _ _ (by first | (with_reducible exact MK.out _ hW2) | exact MK.out _ (hW2.alloc hW2.size _)) (fun hHeld => ?_)
          clear hK K
          go_simp
          refine wpAnyH_take (i := 13) (v := ?_) rfl (by kernel_rfl) (by kernel_rfl) (by kernel_rfl) (fun _ _ _ h => h) (Or.inl ⟨by rfl, ?_⟩) hHeld ?_
          rotate_left
          · intro w hSw
            (try dsimp only at hSw)
            go_simp
            try with_reducible rfl
          go_simp
          refine wpAnyH_take (i := 14) (v := ?_) rfl (by kernel_rfl) (by kernel_rfl) (by kernel_rfl) (fun _ _ _ h => h) (Or.inl ⟨by rfl, ?_⟩) hHeld ?_
          rotate_left
          · intro w hSw
            (try dsimp only at hSw)
            go_simp
            try with_reducible rfl
          go_simp
          refine wpAnyH_take (i := 15) (v := ?_) rfl (by kernel_rfl) (by kernel_rfl) (by kernel_rfl) (fun _ _ _ h => h) (Or.inl ⟨by rfl, ?_⟩) hHeld ?_
          rotate_left
          · intro w hSw
            (try dsimp only at hSw)
            go_simp
            try with_reducible rfl
          go_simp
          refine wpAnyH_take (i := 16) (v := ?_) rfl (by kernel_rfl) (by kernel_rfl) (by kernel_rfl) (fun _ _ _ h => h) (Or.inl ⟨by rfl, ?_⟩) hHeld ?_
          rotate_left
          · intro w hSw
            (try dsimp only at hSw)
            go_simp
            try with_reducible rfl
          go_simp
          refine wpAnyH_take (i := 17) (v := ?_) rfl (by kernel_rfl) (by kernel_rfl) (by kernel_rfl) (fun _ _ _ h => h) (Or.inl ⟨by rfl, ?_⟩) hHeld ?_
          rotate_left
          · intro w hSw
            (try dsimp only at hSw)
            go_simp
            try with_reducible rfl
          go_simp
          refine wpAnyH_take (i := 18) (v := ?_) rfl (by kernel_rfl) (by kernel_rfl) (by kernel_rfl) (fun _ _ _ h => h) (Or.inl ⟨by rfl, ?_⟩) hHeld ?_
          rotate_left
          · intro w hSw
            (try dsimp only at hSw)
            go_simp
            try with_reducible rfl
          go_simp
          refine wpAnyH_take (i := 19) (v := ?_) rfl (by kernel_rfl) (by kernel_rfl) (by kernel_rfl) (fun _ _ _ h => h) (Or.inl ⟨by rfl, ?_⟩) hHeld ?_
          rotate_left
          · intro w hSw
            (try dsimp only at hSw)
            go_simp
            try with_reducible rfl
          go_simp
          refine wpAnyH_take (i := 20) (v := ?_) rfl (by kernel_rfl) (by kernel_rfl) (by kernel_rfl) (fun _ _ _ h => h) (Or.inl ⟨by rfl, ?_⟩) hHeld ?_
          rotate_left
          · intro w hSw
            (try dsimp only at hSw)
            go_simp
            try with_reducible rfl
          go_simp
          refine wpAnyH_take (i := 21) (v := ?_) rfl (by kernel_rfl) (by kernel_rfl) (by kernel_rfl) (fun _ _ _ h => h) (Or.inl ⟨by rfl, ?_⟩) hHeld ?_
          rotate_left
          · intro w hSw
            (try dsimp only at hSw)
            go_simp
            try with_reducible rfl
          go_simp
          refine wpAnyH_take (i := 22) (v := ?_) rfl (by kernel_rfl) (by kernel_rfl) (by kernel_rfl) (fun _ _ _ h => h) (Or.inl ⟨by rfl, ?_⟩) hHeld ?_
          rotate_left
          · intro w hSw
            (try dsimp only at hSw)
            go_simp
            try with_reducible rfl
          go_simp
          refine wpAnyH_take (i := 23) (v := ?_) rfl (by kernel_rfl) (by kernel_rfl) (by kernel_rfl) (fun _ _ _ h => h) (Or.inl ⟨by rfl, ?_⟩) hHeld ?_
          rotate_left
          · intro w hSw
            (try dsimp only at hSw)
            go_simp
            try with_reducible rfl
          go_simp
          refine wpAnyH_take (i := 24) (v := ?_) rfl (by kernel_rfl) (by kernel_rfl) (by kernel_rfl) (fun _ _ _ h => h) (Or.inl ⟨by rfl, ?_⟩) hHeld ?_
          rotate_left
          · intro w hSw
            (try dsimp only at hSw)
            go_simp
            try with_reducible rfl
          go_simp
          refine wpAnyH_take (i := 25) (v := ?_) rfl (by kernel_rfl) (by kernel_rfl) (by kernel_rfl) (fun _ _ _ h => h) (Or.inl ⟨by rfl, ?_⟩) hHeld ?_
          rotate_left
          · intro w hSw
            (try dsimp only at hSw)
            go_simp
            try with_reducible rfl
          go_simp
          refine wpAnyH_take (i := 26) (v := ?_) rfl (by kernel_rfl) (by kernel_rfl) (by kernel_rfl) (fun _ _ _ h => h) (Or.inl ⟨by rfl, ?_⟩) hHeld ?_
          rotate_left
          · intro w hSw
            (try dsimp only at hSw)
            go_simp
            try with_reducible rfl
          go_simp
          refine wpAnyH_take (i := 27) (v := ?_) rfl (by kernel_rfl) (by kernel_rfl) (by kernel_rfl) (fun _ _ _ h => h) (Or.inl ⟨by rfl, ?_⟩) hHeld ?_
          rotate_left
          · intro w hSw
            (try dsimp only at hSw)
            go_simp
            try with_reducible rfl
          go_simp
          refine wpAnyH_take (i := 28) (v := ?_) rfl (by kernel_rfl) (by kernel_rfl) (by kernel_rfl) (fun _ _ _ h => h) (Or.inl ⟨by rfl, ?_⟩) hHeld ?_
          rotate_left
          · intro w hSw
            (try dsimp only at hSw)
            go_simp
            try with_reducible rfl
          go_simp
          refine wpAnyH_take (i := 33) (v := ?_) rfl (by kernel_rfl) (by kernel_rfl) (by kernel_rfl) (fun _ _ _ h => h) (Or.inl ⟨by rfl, ?_⟩) hHeld ?_
          rotate_left
          · intro w hSw
            (try dsimp only at hSw)
            go_simp
            try with_reducible rfl
          go_simp
          refine wpAnyH_ready (rs := [29]) (by kernel_rfl) (by simp) ?_
          refine AllReadyH.cons rfl (fun K hK => ?_) ?_
          rotate_left
          · exact AllReadyH.nil
          go_simp
          go_wp2_with (first | (go_at_call 23; (with_reducible refine (CAL.out _ hW2).mono ?_); rintro e wa ⟨va, rfl, oa, ba⟩; obtain ⟨Aa, ca, rfl, hRa, _, hCa⟩ := rows_of_own encA_len (by omega) oa; have hW2 := hW2.trans (ba.mono hW2.size); have hRa2 := HRA21.out.below hW2; have CS1 := Lib.hid (asame_any Aa A9 m ca c9 O wa hRa hRa2 HOL.out (by omega)); clear oa hRa hCa hRa2) | (go_at_call 22; (with_reducible refine (CS1.out).mono ?_); rintro e wb ⟨rfl, bb⟩; have hW2 := hW2.trans (bb.mono hW2.size)) | (go_at_call 24; (with_reducible refine (CWI.out _ hW2).mono ?_); rintro e wc ⟨vc, rfl, oc, bc⟩; obtain ⟨Ac, cc, rfl, hRc, _, hCc⟩ := rows_of_own encA_len (by omega) oc; have hW2 := hW2.trans (bc.mono hW2.size); have hRc2 := HRS21.out.below hW2; have CS2 := Lib.hid (asame_any Ac AS _ cc cS (awithin X Y O) wc hRc hRc2 rfl (by omega)); clear oc hRc hCc hRc2) | (go_at_call 22; (with_reducible refine (CS2.out).mono ?_); rintro e wd ⟨rfl, bd⟩; have hW2 := hW2.trans (bd.mono hW2.size); have CRE := Lib.hid (arefs_any (some ⟨wd.heap.size, 0, none⟩) 1 1 [fa] (wd.alloc (.cells #[.int .i64 fa.id, .int .i64 fa.pl, .int .i64 fa.bi] 36)) (rows_of_block (t := 36) (cs := #[.int .i64 fa.id, .int .i64 fa.pl, .int .i64 fa.bi]) encA_len (heap_alloc_new wd _) rfl) rfl (by omega))) | (go_at_call 19; (with_reducible refine (CRE.out).mono ?_); rintro e we ⟨ve, rfl, oe, be⟩; obtain ⟨ge, ce, rfl⟩ := own_slice oe (by omega); have hW2 := (hW2.alloc hW2.size (.cells #[.int .i64 fa.id, .int .i64 fa.pl, .int .i64 fa.bi] 36)).trans (be.mono (hW2.alloc hW2.size (.cells #[.int .i64 fa.id, .int .i64 fa.pl, .int .i64 fa.bi] 36)).size); have j0 := oe.cellAt 0 (by omega); have j1 := oe.cellAt 1 (by omega); have j2 := oe.cellAt 2 (by omega); simp [kfl, encA] at j0 j1 j2; clear oe) | (go_at_call 16; (with_reducible refine (CB.out _).mono ?_); rintro e wf ⟨rfl, bf⟩; have hW2 := hW2.trans (bf.mono hW2.size)))
          refine hK.out _ _ (by first | (with_reducible exact MK.out _ hW2) | exact MK.out _ (hW2.alloc hW2.size _)) (fun hHeld => ?_)
          clear hK K
          go_simp
          refine wpAnyH_ready (rs := [30]) (by kernel_rfl) (by simp) ?_
          refine AllReadyH.cons rfl (fun K hK => ?_) ?_
          rotate_left
          · exact AllReadyH.nil
          go_simp
          go_wp2_with (first | (go_at_call 23; (with_reducible refine (CAL.out _ hW2).mono ?_); rintro e wa ⟨va, rfl, oa, ba⟩; obtain ⟨Aa, ca, rfl, hRa, _, hCa⟩ := rows_of_own encA_len (by omega) oa; have hW2 := hW2.trans (ba.mono hW2.size); have hRa2 := HRA21.out.below hW2; have CS1 := Lib.hid (asame_any Aa A9 m ca c9 O wa hRa hRa2 HOL.out (by omega)); clear oa hRa hCa hRa2) | (go_at_call 22; (with_reducible refine (CS1.out).mono ?_); rintro e wb ⟨rfl, bb⟩; have hW2 := hW2.trans (bb.mono hW2.size)) | (go_at_call 24; (with_reducible refine (CWI.out _ hW2).mono ?_); rintro e wc ⟨vc, rfl, oc, bc⟩; obtain ⟨Ac, cc, rfl, hRc, _, hCc⟩ := rows_of_own encA_len (by omega) oc; have hW2 := hW2.trans (bc.mono hW2.size); have hRc2 := HRS21.out.below hW2; have CS2 := Lib.hid (asame_any Ac AS _ cc cS (awithin X Y O) wc hRc hRc2 rfl (by omega)); clear oc hRc hCc hRc2) | (go_at_call 22; (with_reducible refine (CS2.out).mono ?_); rintro e wd ⟨rfl, bd⟩; have hW2 := hW2.trans (bd.mono hW2.size); have CRE := Lib.hid (arefs_any (some ⟨wd.heap.size, 0, none⟩) 1 1 [fa] (wd.alloc (.cells #[.int .i64 fa.id, .int .i64 fa.pl, .int .i64 fa.bi] 36)) (rows_of_block (t := 36) (cs := #[.int .i64 fa.id, .int .i64 fa.pl, .int .i64 fa.bi]) encA_len (heap_alloc_new wd _) rfl) rfl (by omega))) | (go_at_call 19; (with_reducible refine (CRE.out).mono ?_); rintro e we ⟨ve, rfl, oe, be⟩; obtain ⟨ge, ce, rfl⟩ := own_slice oe (by omega); have hW2 := (hW2.alloc hW2.size (.cells #[.int .i64 fa.id, .int .i64 fa.pl, .int .i64 fa.bi] 36)).trans (be.mono (hW2.alloc hW2.size (.cells #[.int .i64 fa.id, .int .i64 fa.pl, .int .i64 fa.bi] 36)).size); have j0 := oe.cellAt 0 (by omega); have j1 := oe.cellAt 1 (by omega); have j2 := oe.cellAt 2 (by omega); simp [kfl, encA] at j0 j1 j2; clear oe) | (go_at_call 16; (with_reducible refine (CB.out _).mono ?_); rintro e wf ⟨rfl, bf⟩; have hW2 := hW2.trans (bf.mono hW2.size)))
          refine hK.out _ _ (by first | (with_reducible exact MK.out _ hW2) | exact MK.out _ (hW2.alloc hW2.size _)) (fun hHeld => ?_)
          clear hK K
          go_simp
          refine wpAnyH_take (i := 31) (v := ?_) rfl (by kernel_rfl) (by kernel_rfl) (by kernel_rfl) (fun _ _ _ h => h) (Or.inl ⟨by rfl, ?_⟩) hHeld ?_
          rotate_left
          · intro w hSw
            (try dsimp only at hSw)
            go_simp
            try with_reducible rfl
          go_simp
          refine wpAnyH_ready (rs := [32]) (by kernel_rfl) (by simp) ?_
          refine AllReadyH.cons rfl (fun K hK => ?_) ?_
          rotate_left
          · exact AllReadyH.nil
          go_simp
          go_wp2_with (first | (go_at_call 23; (with_reducible refine (CAL.out _ hW2).mono ?_); rintro e wa ⟨va, rfl, oa, ba⟩; obtain ⟨Aa, ca, rfl, hRa, _, hCa⟩ := rows_of_own encA_len (by omega) oa; have hW2 := hW2.trans (ba.mono hW2.size); have hRa2 := HRA21.out.below hW2; have CS1 := Lib.hid (asame_any Aa A9 m ca c9 O wa hRa hRa2 HOL.out (by omega)); clear oa hRa hCa hRa2) | (go_at_call 22; (with_reducible refine (CS1.out).mono ?_); rintro e wb ⟨rfl, bb⟩; have hW2 := hW2.trans (bb.mono hW2.size)) | (go_at_call 24; (with_reducible refine (CWI.out _ hW2).mono ?_); rintro e wc ⟨vc, rfl, oc, bc⟩; obtain ⟨Ac, cc, rfl, hRc, _, hCc⟩ := rows_of_own encA_len (by omega) oc; have hW2 := hW2.trans (bc.mono hW2.size); have hRc2 := HRS21.out.below hW2; have CS2 := Lib.hid (asame_any Ac AS _ cc cS (awithin X Y O) wc hRc hRc2 rfl (by omega)); clear oc hRc hCc hRc2) | (go_at_call 22; (with_reducible refine (CS2.out).mono ?_); rintro e wd ⟨rfl, bd⟩; have hW2 := hW2.trans (bd.mono hW2.size); have CRE := Lib.hid (arefs_any (some ⟨wd.heap.size, 0, none⟩) 1 1 [fa] (wd.alloc (.cells #[.int .i64 fa.id, .int .i64 fa.pl, .int .i64 fa.bi] 36)) (rows_of_block (t := 36) (cs := #[.int .i64 fa.id, .int .i64 fa.pl, .int .i64 fa.bi]) encA_len (heap_alloc_new wd _) rfl) rfl (by omega))) | (go_at_call 19; (with_reducible refine (CRE.out).mono ?_); rintro e we ⟨ve, rfl, oe, be⟩; obtain ⟨ge, ce, rfl⟩ := own_slice oe (by omega); have hW2 := (hW2.alloc hW2.size (.cells #[.int .i64 fa.id, .int .i64 fa.pl, .int .i64 fa.bi] 36)).trans (be.mono (hW2.alloc hW2.size (.cells #[.int .i64 fa.id, .int .i64 fa.pl, .int .i64 fa.bi] 36)).size); have j0 := oe.cellAt 0 (by omega); have j1 := oe.cellAt 1 (by omega); have j2 := oe.cellAt 2 (by omega); simp [kfl, encA] at j0 j1 j2; clear oe) | (go_at_call 16; (with_reducible refine (CB.out _).mono ?_); rintro e wf ⟨rfl, bf⟩; have hW2 := hW2.trans (bf.mono hW2.size)))
          refine hK.out _ _ (by first | (with_reducible exact MK.out _ hW2) | exact MK.out _ (hW2.alloc hW2.size _)) (fun hHeld => ?_)
          clear hK K
          go_simp
          refine wpAnyH_take (i := 34) (v := ?_) rfl (by kernel_rfl) (by kernel_rfl) (by kernel_rfl) (fun _ _ _ h => h) (Or.inl ⟨by rfl, ?_⟩) hHeld ?_
          rotate_left
          · intro w hSw
            (try dsimp only at hSw)
            go_simp
            try with_reducible rfl
          go_simp
          refine wpAnyH_take (i := 35) (v := ?_) rfl (by kernel_rfl) (by kernel_rfl) (by kernel_rfl) (fun _ _ _ h => h) (Or.inl ⟨by rfl, ?_⟩) hHeld ?_
          rotate_left
          · intro w hSw
            (try dsimp only at hSw)
            go_simp
            try with_reducible rfl
          go_simp
          refine wpAnyH_take (i := 36) (v := ?_) rfl (by kernel_rfl) (by kernel_rfl) (by kernel_rfl) (fun _ _ _ h => h) (Or.inl ⟨by rfl, ?_⟩) hHeld ?_
          rotate_left
          · intro w hSw
            (try dsimp only at hSw)
            go_simp
            try with_reducible rfl
          go_simp
          refine wpAnyH_ready (rs := [37]) (by kernel_rfl) (by simp) ?_
          refine AllReadyH.cons rfl (fun K hK => ?_) ?_
          rotate_left
          · exact AllReadyH.nil
          go_simp
          go_wp2_with (first | (go_at_call 23; (with_reducible refine (CAL.out _ hW2).mono ?_); rintro e wa ⟨va, rfl, oa, ba⟩; obtain ⟨Aa, ca, rfl, hRa, _, hCa⟩ := rows_of_own encA_len (by omega) oa; have hW2 := hW2.trans (ba.mono hW2.size); have hRa2 := HRA21.out.below hW2; have CS1 := Lib.hid (asame_any Aa A9 m ca c9 O wa hRa hRa2 HOL.out (by omega)); clear oa hRa hCa hRa2) | (go_at_call 22; (with_reducible refine (CS1.out).mono ?_); rintro e wb ⟨rfl, bb⟩; have hW2 := hW2.trans (bb.mono hW2.size)) | (go_at_call 24; (with_reducible refine (CWI.out _ hW2).mono ?_); rintro e wc ⟨vc, rfl, oc, bc⟩; obtain ⟨Ac, cc, rfl, hRc, _, hCc⟩ := rows_of_own encA_len (by omega) oc; have hW2 := hW2.trans (bc.mono hW2.size); have hRc2 := HRS21.out.below hW2; have CS2 := Lib.hid (asame_any Ac AS _ cc cS (awithin X Y O) wc hRc hRc2 rfl (by omega)); clear oc hRc hCc hRc2) | (go_at_call 22; (with_reducible refine (CS2.out).mono ?_); rintro e wd ⟨rfl, bd⟩; have hW2 := hW2.trans (bd.mono hW2.size); have CRE := Lib.hid (arefs_any (some ⟨wd.heap.size, 0, none⟩) 1 1 [fa] (wd.alloc (.cells #[.int .i64 fa.id, .int .i64 fa.pl, .int .i64 fa.bi] 36)) (rows_of_block (t := 36) (cs := #[.int .i64 fa.id, .int .i64 fa.pl, .int .i64 fa.bi]) encA_len (heap_alloc_new wd _) rfl) rfl (by omega))) | (go_at_call 19; (with_reducible refine (CRE.out).mono ?_); rintro e we ⟨ve, rfl, oe, be⟩; obtain ⟨ge, ce, rfl⟩ := own_slice oe (by omega); have hW2 := (hW2.alloc hW2.size (.cells #[.int .i64 fa.id, .int .i64 fa.pl, .int .i64 fa.bi] 36)).trans (be.mono (hW2.alloc hW2.size (.cells #[.int .i64 fa.id, .int .i64 fa.pl, .int .i64 fa.bi] 36)).size); have j0 := oe.cellAt 0 (by omega); have j1 := oe.cellAt 1 (by omega); have j2 := oe.cellAt 2 (by omega); simp [kfl, encA] at j0 j1 j2; clear oe) | (go_at_call 16; (with_reducible refine (CB.out _).mono ?_); rintro e wf ⟨rfl, bf⟩; have hW2 := hW2.trans (bf.mono hW2.size)))
          refine hK.out _ _ (by first | (with_reducible exact MK.out _ hW2) | exact MK.out _ (hW2.alloc hW2.size _)) (fun hHeld => ?_)
          clear hK K
          go_simp
          refine wpAnyH_take (i := 38) (v := ?_) rfl (by kernel_rfl) (by kernel_rfl) (by kernel_rfl) (fun _ _ _ h => h) (Or.inl ⟨by rfl, ?_⟩) hHeld ?_
          rotate_left
          · intro w hSw
            (try dsimp only at hSw)
            go_simp
            try with_reducible rfl
          go_simp
          refine wpAnyH_take (i := 39) (v := ?_) rfl (by kernel_rfl) (by kernel_rfl) (by kernel_rfl) (fun _ _ _ h => h) (Or.inl ⟨by rfl, ?_⟩) hHeld ?_
          rotate_left
          · intro w hSw
            (try dsimp only at hSw)
            go_simp
            try with_reducible rfl
          go_simp
          refine wpAnyH_done (by kernel_rfl) ?_ _
          refine NoPanic.normal ?_
          have Q := Lib.hid (HQ21.out.trans (hW2.mono HQ21.out.size))
          go_wp2
          go_ret
          exact ⟨by simp, Q.out⟩
    · have k5 : (r != 0) = true := by simp [hr0]
      have k6 : (r == 0) = false := by simp [hr0]
      have HS0 := Lib.hid hr0
      clear hr0 hr
      go_enter Try.func3, Try.ntmps3
      go_wp2_with fail
      (try rw [HW0.out])
      with_reducible refine (CN.out).mono ?_
      rintro e1 w1 ⟨p1, rfl, hp1, _, b1⟩
      obtain rfl := hp1 HS0.out
      have Q2 := Lib.hid b1
      clear hp1 CN b1
      go_wp2_with fail
      with_reducible refine (CRF.out _ Q2.out).mono ?_
      rintro e3 w3 ⟨v3, rfl, o3, b3⟩
      obtain ⟨A3, c3, rfl, hR3, _, hC3⟩ := rows_of_own encA_len (by omega) o3
      have CW3 := Lib.hid (CWR.out A3 c3 w3 hR3 hC3)
      have Q3 := Lib.hid (Q2.out.trans (b3.mono Q2.out.size))
      clear o3 hR3 hC3 b3 CRF CWR
      go_wp2_with fail
      with_reducible refine (CW3.out).mono ?_
      rintro e4 w4 ⟨rfl, b4⟩
      have Q4 := Lib.hid (HX0.out.trans ((Q3.out.trans (b4.mono Q3.out.size)).mono HX0.out.size))
      clear b4 CW3
      go_wp2_with fail
      with_reducible refine (CB.out _).mono ?_
      rintro e w1 ⟨rfl, h2⟩
      have q := Lib.hid (Q4.out.trans (h2.mono Q4.out.size))
      go_wp2
      go_ret
      exact ⟨rfl, q.out⟩
end Go.Proofs.Ytncbhbjhfmbbkaa
