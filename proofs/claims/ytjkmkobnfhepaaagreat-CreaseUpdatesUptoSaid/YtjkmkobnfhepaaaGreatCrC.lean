/- Creases: hidden spans of the buffer as those of the woven text: the contract of woven. -/
import Derived.Test.YtjkmkobnfhepaaaGreatCrB
import Derived.Test.YtjkmkobnfhepaaaGreatCrA
import Derived.Deep.DeepCutAuto
namespace Go.Proofs.YtjkmkobnfhepaaaGreat
open Go.RowKit
set_option linter.unusedVariables false
theorem cspan_info : (Tryz.prog.info? 27).map (fun i => (i.zero, i.size, i.bytes)) = some (some (.agg #[.int .i64 0, .int .i64 0]), 2, 16) := by kernel_rfl
theorem cspan_slt : SlT Tryz.prog 23 27 2 16 := slt_of Tryz.underlying23 cspan_info rfl (by kernel_rfl)
theorem RtOk.stop {l : List (Int × Int)} {n : Int} {j : Nat} (h : j < l.length) (hr : RtOk 0 (l.take j) n) : RtOk 0 (l.take (j + 1)) n ↔ clast 0 (l.take j) ≤ l[j].1 ∧ l[j].1 < l[j].2 ∧ l[j].2 ≤ n := by
  rw [List.take_succ_eq_append_getElem h, RtOk.snoc]
  exact ⟨fun h => h.2, fun h => ⟨hr, h⟩⟩
theorem RtOk.no {l : List (Int × Int)} {n : Int} {j : Nat} (h : ¬ RtOk 0 (l.take j) n) : ¬ RtOk 0 l n := fun g => h (by
  rw [← List.take_append_drop j l] at g
  exact g.pre)
theorem clast_nn : ∀ (l : List (Int × Int)) (f : Int) {n : Int}, 0 ≤ f → RtOk f l n → 0 ≤ clast f l
  | [], f, _, h, _ => h
  | x :: l, f, n, h, hr => by
    obtain ⟨h1, h2, h3, h4⟩ := hr
    exact clast_nn l x.2 (by omega) h4
theorem own_offB {w : World} {base : Nat} {e : TypeId} {size : Nat} {v : Value} {n : Nat} {xs : List Value} (h : w.ownsRow base e size v n xs) {b : Nat} (hb : ∀ k, v.ownBlock = some k → k ≠ b) (i : Nat) (u : Value) : (w.setCell ⟨b, i, none⟩ u).ownsRow base e size v n xs := by
  refine ⟨h.1, ?_⟩
  rcases h.2 with h2 | ⟨g, cap, cur, rfl, hB, c, h3⟩
  · exact .inl h2
  · exact .inr ⟨g, cap, cur, rfl, hB, RawAt.set_other (t := e) c (hb g rfl) i u, h3⟩
set_option maxHeartbeats 8000000 in
set_option maxRecDepth 100000 in
theorem cWoven_any {p : Option Addr} {o : List In} {n : Nat} {h : Nat} (A : Option Addr) (m c : Nat) (l : List (Int × Int)) (w : World) (ht : WvAt w p (wvP 0 o n) h) (hwv : Wv 0 o n) (hA : RowsAt wencS 2 w A l) (hl : l.length = m) (hm : m ≤ 1000) :
    Calls Tryz.prog 30 #[.pointer p, .slice A m c] w fun e w' => ((RtOk 0 l n ∧ ∃ v, e = .returned (.tuple #[v, .int .i64 0]) ∧ w'.ownsRow w.heap.size 27 2 v m (kfl wencS (l.map (cpl o)))) ∨ (¬ RtOk 0 l n ∧ e = .returned (.tuple #[.slice none 0 0, .int .i64 1]))) ∧ Below w.heap.size w w' := by
  have ST := cspan_slt
  obtain ⟨_, _, hs0⟩ := wsp_len o 0 n hwv
  have CZ := Lib.hid (wvSizes ht)
  rw [show (n : Int) - 0 = (n : Int) from by omega] at hs0
  rw [hs0] at CZ
  generalize wdsum 1 (wvP 0 o ↑n) = n1 at CZ
  have CO := Lib.hid fun (W : World) (hW : Below w.heap.size w W) (at_ b : Int) (h0 : 0 ≤ at_) (h1 : at_ ≤ n) (hb : b = 0 ∨ b = 1) => (show Calls Tryz.prog 64 #[.pointer p, .int .i64 at_, .int .i64 b] W fun e w' => e = .returned (.tuple #[.int .i64 (at_ + wosum at_ b o), .int .i64 0]) ∧ Below W.heap.size W w' by
    have q := wvOut_yes (ht.below hW) at_ b ⟨h0, by rw [hs0]; exact h1⟩ hb
    have e := woutP_is o 0 n at_ b hwv h0 h1 hb
    rw [show at_ - 0 = at_ from by omega] at e
    rw [e] at q
    exact q)
  have HA := Lib.hid hA
  have HL := Lib.hid hl
  clear ht hwv hA hl hs0
  go_enter Tryz.func30, Tryz.ntmps30
  go_wp2_with fail
  with_reducible refine (CZ.out).mono ?_
  rintro e w1 ⟨rfl, b1⟩
  have HB1 := Lib.hid b1
  clear b1 CZ
  go_wp2_with fail
  go_loopg [8, 9, 19] m (fun g v ah i wr => ∃ (j : Nat) (u : Value) (q : Int), i = .int .i64 j ∧ u = v ∧ ah = .int .i64 q ∧ j ≤ m ∧ m - j ≤ g ∧ Hid (q = clast 0 (l.take j)) ∧ Hid (RtOk 0 (l.take j) n) ∧ Hid (wr.ownsRow w.heap.size 27 2 u j (kfl wencS ((l.take j).map (cpl o)))) ∧ Hid (Below w.heap.size w wr))
  case atStart => exact ⟨0, _, 0, rfl, rfl, rfl, by omega, by omega, Lib.hid rfl, Lib.hid trivial, Lib.hid (World.ownsRow_nil _ _ _ _), HB1⟩
  case round =>
    clear HB1
    obtain ⟨j, u, q, rfl, rfl, rfl, j1, j2, hq, hr, hown, hb⟩ := hrel
    obtain ⟨Au, cu, rfl⟩ := own_form hown.out
    by_cases hlt : j < m
    · have hjl : j < l.length := by rw [HL.out]; exact hlt
      obtain ⟨bA, off, rfl, hbA, d0, d1⟩ := wrowsS (HA.out.below hb.out) hjl
      obtain ⟨_, t2⟩ := clast_take l 0 hjl
      have hst := RtOk.stop hjl hr.out
      rw [← hq.out] at hst
      have HST := Lib.hid hst
      have HT2 := Lib.hid t2
      have HTK : Hid (kfl wencS ((l.take (j + 1)).map (cpl o)) = kfl wencS ((l.take j).map (cpl o)) ++ kfl wencS [cpl o l[j]]) := Lib.hid (by rw [List.take_succ_eq_append_getElem hjl, List.map_append, kfl_append]; rfl)
      clear t2 hst
      generalize l[j] = x at *
      obtain ⟨x1, x2⟩ := x
      simp only at *
      have i1 : (0 : Int) ≤ j := by omega
      have i2 : (j : Int) < m := by omega
      have x3 : Below wr.heap.size wr (wr.alloc (.cells #[.int .i64 x1, .int .i64 x2] 27)) := (Below.refl _ _).alloc (Nat.le_refl _) _
      have R3 : RawAt 27 (wr.alloc (.cells #[.int .i64 x1, .int .i64 x2] 27)) wr.heap.size #[.int .i64 x1, .int .i64 x2] := heap_alloc_new wr _
      have HB3 := Lib.hid (hb.out.trans (x3.mono hb.out.size))
      have HO3 := Lib.hid (own_below hown.out x3)
      by_cases g1 : x1 < q
      · have k1 : decide (x1 < q) = true := decide_eq_true g1
        have HNO : Hid (¬ RtOk 0 l n) := Lib.hid (RtOk.no (j := j + 1) (fun h => by have := HST.out.mp h; omega))
        clear hown HO3 R3 x3 HST HTK HT2
        go_wp2
        go_ret2
        exact ⟨.inr ⟨HNO.out, rfl⟩, HB3.out⟩
      · have k1 : decide (x1 < q) = false := decide_eq_false g1
        by_cases g2 : x2 ≤ x1
        · have k2 : decide (x2 ≤ x1) = true := decide_eq_true g2
          have HNO : Hid (¬ RtOk 0 l n) := Lib.hid (RtOk.no (j := j + 1) (fun h => by have := HST.out.mp h; omega))
          clear hown HO3 R3 x3 HST HTK HT2
          go_wp2
          go_ret2
          exact ⟨.inr ⟨HNO.out, rfl⟩, HB3.out⟩
        · have k2 : decide (x2 ≤ x1) = false := decide_eq_false g2
          by_cases g3 : (n : Int) < x2
          · have k3 : decide ((n : Int) < x2) = true := decide_eq_true g3
            have HNO : Hid (¬ RtOk 0 l n) := Lib.hid (RtOk.no (j := j + 1) (fun h => by have := HST.out.mp h; omega))
            clear hown HO3 R3 x3 HST HTK HT2
            go_wp2
            go_ret2
            exact ⟨.inr ⟨HNO.out, rfl⟩, HB3.out⟩
          · have k3 : decide ((n : Int) < x2) = false := decide_eq_false g3
            have HRT : Hid (RtOk 0 (l.take (j + 1)) n) := Lib.hid (HST.out.mpr (by omega))
            have hq0 : 0 ≤ q := by
              rw [hq.out]
              exact clast_nn (l.take j) 0 (Int.le_refl _) hr.out
            obtain ⟨bx, hbx⟩ : ∃ bx, bx = wr.heap.size := ⟨_, rfl⟩
            rw [← hbx] at R3
            have HNE : Hid (∀ k, (Value.slice Au j cu).ownBlock = some k → k ≠ bx) := Lib.hid (fun k hk => by have := (hown.out.lt k hk).2; omega)
            have hbl : w.heap.size ≤ bx := by rw [hbx]; exact hb.out.size
            have HR3 := Lib.hid R3
            have HBX := Lib.hid hbx
            clear hbx R3 x3 hown hb
            go_wp2_with fail
            rw [← HBX.out]
            generalize hW3 : wr.alloc (.cells #[.int .i64 x1, .int .i64 x2] 27) = W3 at *
            have HW3 := Lib.hid hW3
            clear hW3
            with_reducible refine (CO.out _ HB3.out x1 1 (by omega) (by omega) (.inr rfl)).mono ?_
            rintro e w4 ⟨rfl, b4⟩
            have HB4 := Lib.hid (HB3.out.trans (b4.mono HB3.out.size))
            have HO4 := Lib.hid (own_below HO3.out b4)
            have R4 := RawAt.below HR3.out b4 (RawAt.lt HR3.out)
            have f0 := RawAt.free R4 0
            have c0 := RawAt.cell R4 0
            simp at c0
            obtain ⟨y1, hy1⟩ : ∃ y1, y1 = x1 + wosum x1 1 o := ⟨_, rfl⟩
            rw [← hy1]
            have HY1 := Lib.hid hy1
            have R5 := RawAt.set_ R4 0 (.int .i64 y1)
            simp at R5
            have HR5 := Lib.hid R5
            have HB5 := Lib.hid (HB4.out.setCell (p := ⟨bx, 0, none⟩) hbl (.int .i64 y1))
            have HO5 := Lib.hid (own_offB HO4.out HNE.out 0 (.int .i64 y1))
            have c1 : (w4.setCell ⟨bx, 0, none⟩ (.int .i64 y1)).cell? ⟨bx, 1, none⟩ = some (.int .i64 x2) := RawAt.cell R5 1
            clear hy1 b4 R4 R5 HR3 HO3 HB3 HO4 HB4
            go_wp2_with fail
            generalize hW5 : w4.setCell ⟨bx, 0, none⟩ (.int .i64 y1) = W5 at *
            have HW5 := Lib.hid hW5
            clear hW5
            with_reducible refine (CO.out _ HB5.out x2 0 (by omega) (by omega) (.inl rfl)).mono ?_
            rintro e w6 ⟨rfl, b6⟩
            have HB6 := Lib.hid (HB5.out.trans (b6.mono HB5.out.size))
            have HO6 := Lib.hid (own_below HO5.out b6)
            have R6 := RawAt.below HR5.out b6 (RawAt.lt HR5.out)
            have f1 := RawAt.free R6 1
            have c2 := RawAt.cell R6 1
            simp at c2
            obtain ⟨y2, hy2⟩ : ∃ y2, y2 = x2 + wosum x2 0 o := ⟨_, rfl⟩
            rw [← hy2]
            have HY2 := Lib.hid hy2
            have R7 := RawAt.set_ R6 1 (.int .i64 y2)
            simp at R7
            have HR7 := Lib.hid R7
            have HB7 := Lib.hid (HB6.out.setCell (p := ⟨bx, 1, none⟩) hbl (.int .i64 y2))
            have HO7 := Lib.hid (own_offB HO6.out HNE.out 1 (.int .i64 y2))
            clear hy2 b6 R6 R7 HR5 HO5 HB5 HO6 HB6 c0 c1 f0
            go_upto_region 12 with fail
            generalize hW7 : w6.setCell ⟨bx, 1, none⟩ (.int .i64 y2) = W7 at *
            clear hW7 f1 c2
            have z0 := RawAt.cell HR7.out 0
            have z1 := RawAt.cell HR7.out 1
            simp at z0 z1
            have x9 : Below W7.heap.size W7 (W7.alloc (.cells #[.int .i64 y1, .int .i64 y2] 27)) := (Below.refl _ _).alloc (Nat.le_refl _) _
            have S9 := Lib.hid (rows_of_block (enc := wencS) (k := 2) wencS_len (heap_alloc_new W7 _ : RawAt 27 (W7.alloc (.cells #[.int .i64 y1, .int .i64 y2] 27)) W7.heap.size #[.int .i64 y1, .int .i64 y2]) (l := [((y1, y2) : Int × Int)]) rfl)
            have O9 := Lib.hid (own_below HO7.out x9)
            have B9 := Lib.hid (HB7.out.trans (x9.mono HB7.out.size))
            have lt9 := O9.out.lt
            clear x9
            go_wp2_with (at_builtin; refine wpList_appK (enc := wencS) ST wencS_len (by omega) rfl (.tmp 58) (.tmp 60) rfl (base := w.heap.size) (v := .slice Au j cu) rfl O9.out _ 1 1 [((y1, y2) : Int × Int)] rfl S9.out ⟨Nat.le_refl _, fun h => by cases h⟩ rfl (kfl_one' wencS_one _) (by simp only [maxLen]; omega) (by omega) (by have := B9.out.size; omega) ?_; intro v9 w9 hown9 hg9 hor9; have HB9 := Lib.hid (B9.out.grown hg9 B9.out.size (fun j hj => by have := (lt9 j hj).1; omega)); have HO9 := Lib.hid hown9; clear hown9 hg9 hor9 O9 B9 S9 lt9)
            have hcp : cpl o (x1, x2) = (y1, y2) := by unfold cpl; rw [HY1.out, HY2.out]
            have HO10 : Hid (w9.ownsRow w.heap.size 27 2 v9 (j + 1) (kfl wencS ((l.take (j + 1)).map (cpl o)))) := Lib.hid (by rw [HTK.out, hcp]; exact HO9.out)
            have HQ5 : Hid (x2 = clast 0 (l.take (j + 1))) := Lib.hid HT2.out.symm
            clear hcp HO9 HTK HT2 HST HY1 HY2 hr hq
            go_wp2
            go_roundg (gk - 1)
            case measure => omega
            case rel => exact ⟨j + 1, v9, x2, by go_num, rfl, rfl, by omega, by omega, HQ5, HRT, HO10, HB9⟩
    · obtain rfl : j = m := by omega
      have htk : l.take j = l := List.take_of_length_le (by rw [HL.out]; exact Nat.le_refl _)
      have hr2 := hr.out
      have ho2 := hown.out
      rw [htk] at hr2 ho2
      have HR := Lib.hid hr2
      have HO := Lib.hid ho2
      clear htk hr2 ho2 hr hq hown
      go_wp2
      go_ret2
      exact ⟨.inl ⟨HR.out, _, rfl, HO.out⟩, hb.out⟩
end Go.Proofs.YtjkmkobnfhepaaaGreat
