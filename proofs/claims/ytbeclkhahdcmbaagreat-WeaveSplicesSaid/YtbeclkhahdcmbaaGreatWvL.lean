/- Weaves: the contracts of Pieces, and of the law's refs, same, long. Weaves: the law's is, where it is so. Weaves: New of a set; the law's small case; the law's long. -/
import Derived.Test.YtbeclkhahdcmbaaGreatWvI
import Derived.Test.YtbeclkhahdcmbaaGreatWvE
import Derived.Test.YtbeclkhahdcmbaaGreatTpF
import Derived.Test.YtbeclkhahdcmbaaGreatInN
namespace Go.Proofs.YtbeclkhahdcmbaaGreat
open Go.RowKit
set_option linter.unusedVariables false
theorem wpc_info : (Tryz.prog.info? 142).map (fun i => (i.zero, i.size, i.bytes)) = some (some (.agg #[.int .i64 0, .int .i64 0]), 2, 16) := by kernel_rfl
theorem wpc_slt : SlT Tryz.prog 97 142 2 16 := slt_of Tryz.underlying97 wpc_info rfl (by kernel_rfl)
theorem witsW {w : World} {A : Option Addr} {l : List I7} (h : ItsAt w A l) {k : Nat} (hk : k < l.length) : ∃ b off, A = some ⟨b, off, none⟩ ∧ b < w.heap.size ∧ w.cell? ⟨b, off + k * 7, none⟩ = some (.int .i64 l[k].tag) ∧ w.cell? ⟨b, off + k * 7 + 1, none⟩ = some (.int .i64 l[k].id) ∧ w.cell? ⟨b, off + k * 7 + 2, none⟩ = some (.int .i64 l[k].d0) ∧ w.cell? ⟨b, off + k * 7 + 3, none⟩ = some (.int .i64 l[k].d1) ∧ w.cell? ⟨b, off + k * 7 + 4, none⟩ = some (.int .i64 l[k].d2) ∧ w.cell? ⟨b, off + k * 7 + 5, none⟩ = some (.int .i64 l[k].mx) ∧ w.cell? ⟨b, off + k * 7 + 6, none⟩ = some (.string l[k].tx) := by
  obtain ⟨b, off, e, h1, hc⟩ := h (by omega)
  have hx := hc k hk
  rw [ith_get l hk] at hx
  exact ⟨b, off, e, h1, hx⟩
theorem wpcs_take (l : List I7) {j : Nat} (h : j < l.length) : wpcs (l.take (j + 1)) = wpcs (l.take j) ++ [(l[j].id, l[j].d1)] := by
  unfold wpcs
  rw [List.take_succ_eq_append_getElem h, List.map_append]
  rfl
set_option maxHeartbeats 8000000 in
set_option maxRecDepth 100000 in
theorem wvPcs {p : Option Addr} {l : List I7} {h : Nat} {w : World} (ht : WvAt w p l h) :
    Calls Tryz.prog 42 #[.pointer p] w fun e w' => ∃ v, e = .returned v ∧ w'.ownsRow w.heap.size 142 2 v l.length (kfl wencS (wpcs l)) ∧ Below w.heap.size w w' := by
  obtain ⟨q, hq, hk⟩ := wvkept ht
  have hll := hq.okl.2
  have ST := wpc_slt
  have CK := Lib.hid (hk w (Below.refl _ _))
  have CI := Lib.hid (titems_any q l h w hq)
  obtain ⟨M, hM⟩ : ∃ M, M = l.length := ⟨_, rfl⟩
  rw [← hM] at hll CI
  rw [← hM]
  have HM := Lib.hid hM
  clear hk hq ht hM
  go_enter Tryz.func42, Tryz.ntmps42
  go_wp2_with fail
  refine CK.out.mono ?_
  rintro e w1 ⟨rfl, rfl⟩
  go_wp2_with fail
  refine CI.out.mono ?_
  rintro e W2 ⟨A, c, rfl, b2, hI, hC⟩
  have X2 := Lib.hid b2
  have HI := Lib.hid hI
  clear b2 hI hC CK CI
  go_wp2_with fail
  go_loopg [3, 10] M (fun g v i wr => ∃ j : Nat, i = .int .i64 j ∧ j ≤ M ∧ M - j ≤ g ∧ Hid (Below W2.heap.size W2 wr) ∧ Hid (wr.ownsRow W2.heap.size 142 2 v j (kfl wencS (wpcs (l.take j)))))
  case atStart => exact ⟨0, rfl, by omega, by omega, Lib.hid (Below.refl _ _), Lib.hid (World.ownsRow_nil _ _ _ _)⟩
  case round =>
    obtain ⟨j, rfl, j1, j2, hb, hown⟩ := hrel
    by_cases hlt : j < M
    · have hjl : j < l.length := by rw [← HM.out]; exact hlt
      obtain ⟨bA, off, rfl, hbA, d0, d1, d2, d3, d4, d5, d6⟩ := witsW (HI.out.below hb.out) hjl
      have HT := Lib.hid (wpcs_take l hjl)
      generalize l[j] = it at *
      have i1 : (0 : Int) ≤ j := by omega
      have i2 : (j : Int) < M := by omega
      obtain ⟨A3, c3, rfl⟩ := own_formI hown.out
      have x3 : Below wr.heap.size wr (wr.alloc (.cells #[.int .i64 it.tag, .int .i64 it.id, .int .i64 it.d0, .int .i64 it.d1, .int .i64 it.d2, .int .i64 it.mx, .string it.tx] 91)) := (Below.refl _ _).alloc (Nat.le_refl _) _
      have R3 : RawAt 91 (wr.alloc (.cells #[.int .i64 it.tag, .int .i64 it.id, .int .i64 it.d0, .int .i64 it.d1, .int .i64 it.d2, .int .i64 it.mx, .string it.tx] 91)) wr.heap.size #[.int .i64 it.tag, .int .i64 it.id, .int .i64 it.d0, .int .i64 it.d1, .int .i64 it.d2, .int .i64 it.mx, .string it.tx] := heap_alloc_new wr _
      have e1 : (wr.alloc (.cells #[.int .i64 it.tag, .int .i64 it.id, .int .i64 it.d0, .int .i64 it.d1, .int .i64 it.d2, .int .i64 it.mx, .string it.tx] 91)).cell? ⟨wr.heap.size, 1, none⟩ = some (.int .i64 it.id) := RawAt.cell R3 1
      have e3 : (wr.alloc (.cells #[.int .i64 it.tag, .int .i64 it.id, .int .i64 it.d0, .int .i64 it.d1, .int .i64 it.d2, .int .i64 it.mx, .string it.tx] 91)).cell? ⟨wr.heap.size, 3, none⟩ = some (.int .i64 it.d1) := RawAt.cell R3 3
      have HB3 := Lib.hid (hb.out.trans (x3.mono hb.out.size))
      have HO3 := Lib.hid (own_below hown.out x3)
      clear x3 R3 hb hown
      have x7 : Below (wr.alloc (.cells #[.int .i64 it.tag, .int .i64 it.id, .int .i64 it.d0, .int .i64 it.d1, .int .i64 it.d2, .int .i64 it.mx, .string it.tx] 91)).heap.size (wr.alloc (.cells #[.int .i64 it.tag, .int .i64 it.id, .int .i64 it.d0, .int .i64 it.d1, .int .i64 it.d2, .int .i64 it.mx, .string it.tx] 91)) ((wr.alloc (.cells #[.int .i64 it.tag, .int .i64 it.id, .int .i64 it.d0, .int .i64 it.d1, .int .i64 it.d2, .int .i64 it.mx, .string it.tx] 91)).alloc (.cells #[.int .i64 it.id, .int .i64 it.d1] 142)) := (Below.refl _ _).alloc (Nat.le_refl _) _
      have S7 := Lib.hid (rows_of_block (enc := wencS) (k := 2) wencS_len (heap_alloc_new (wr.alloc (.cells #[.int .i64 it.tag, .int .i64 it.id, .int .i64 it.d0, .int .i64 it.d1, .int .i64 it.d2, .int .i64 it.mx, .string it.tx] 91)) _ : RawAt 142 ((wr.alloc (.cells #[.int .i64 it.tag, .int .i64 it.id, .int .i64 it.d0, .int .i64 it.d1, .int .i64 it.d2, .int .i64 it.mx, .string it.tx] 91)).alloc (.cells #[.int .i64 it.id, .int .i64 it.d1] 142)) (wr.alloc (.cells #[.int .i64 it.tag, .int .i64 it.id, .int .i64 it.d0, .int .i64 it.d1, .int .i64 it.d2, .int .i64 it.mx, .string it.tx] 91)).heap.size #[.int .i64 it.id, .int .i64 it.d1]) (l := [(it.id, it.d1)]) rfl)
      have S7 := Lib.hid (by have h := S7.out; rw [show (wr.alloc (.cells #[.int .i64 it.tag, .int .i64 it.id, .int .i64 it.d0, .int .i64 it.d1, .int .i64 it.d2, .int .i64 it.mx, .string it.tx] 91)).heap.size = wr.heap.size + 1 from by simp] at h; exact h)
      have O7 := Lib.hid (own_below HO3.out x7)
      have B7 := Lib.hid (HB3.out.trans (x7.mono HB3.out.size))
      have lt7 := O7.out.lt
      clear x7
      go_wp2_with (at_builtin; refine wpList_appK (enc := wencS) ST wencS_len (by omega) rfl (.tmp 14) (.tmp 21) rfl (base := W2.heap.size) (v := .slice A3 j c3) rfl O7.out _ 1 1 [(it.id, it.d1)] rfl S7.out ⟨Nat.le_refl _, fun h => by cases h⟩ rfl (kfl_one' wencS_one _) (by simp only [maxLen]; omega) (by omega) (by have := B7.out.size; omega) ?_; intro v7 w7 hown7 hg7 hor7; have HB7 := Lib.hid (B7.out.grown hg7 B7.out.size (fun j hj => by have := (lt7 j hj).1; omega)); have HO7 := Lib.hid hown7; clear hown7 hg7 hor7 O7 B7 S7 lt7)
      go_roundg (gk - 1)
      case measure => omega
      case rel => exact ⟨j + 1, by go_num, by omega, by omega, HB7, Lib.hid (by rw [HT.out, kfl_append]; exact HO7.out)⟩
    · obtain rfl : j = M := by omega
      have ht : l.take j = l := List.take_of_length_le (by rw [← HM.out]; exact Nat.le_refl _)
      have ho2 := hown.out
      rw [ht] at ho2
      have HOX := Lib.hid (own_base ho2 X2.out.size)
      have HBX := Lib.hid (X2.out.trans (hb.out.mono X2.out.size))
      clear ho2 hb hown
      go_wp2
      go_ret
      exact ⟨_, rfl, HOX.out, HBX.out⟩
set_option maxHeartbeats 8000000 in
set_option maxRecDepth 100000 in
theorem lrefs14 (A : Option Addr) (n c : Nat) (l : List (Int × Int)) (w : World) (hA : RowsAt wencS 2 w A l) (hl : l.length = n) (hn : n ≤ 1000000) :
    Calls Tryz.prog 45 #[.slice A n c] w fun e w' => ∃ v, e = .returned v ∧ w'.ownsRow w.heap.size 145 2 v n (kfl wencS l) ∧ Below w.heap.size w w' := by
  have ST := wrpc_slt
  have HA := Lib.hid hA
  have HL := Lib.hid hl
  clear hA hl
  go_enter Tryz.func45, Tryz.ntmps45
  go_wp2_with fail
  go_loopg [3, 8] n (fun g v i wr => ∃ j : Nat, i = .int .i64 j ∧ j ≤ n ∧ n - j ≤ g ∧ Hid (Below w.heap.size w wr) ∧ Hid (wr.ownsRow w.heap.size 145 2 v j (kfl wencS (l.take j))))
  case atStart => exact ⟨0, rfl, by omega, by omega, Lib.hid (Below.refl _ _), Lib.hid (World.ownsRow_nil _ _ _ _)⟩
  case round =>
    obtain ⟨j, rfl, j1, j2, hb, hown⟩ := hrel
    by_cases hlt : j < n
    · have hjl : j < l.length := by rw [HL.out]; exact hlt
      obtain ⟨bA, off, rfl, hbA, d0, d1⟩ := wrowsS (HA.out.below hb.out) hjl
      have HT := Lib.hid (List.take_succ_eq_append_getElem hjl)
      generalize l[j] = it at *
      obtain ⟨a, b⟩ := it
      simp only at d0 d1
      have i1 : (0 : Int) ≤ j := by omega
      have i2 : (j : Int) < n := by omega
      obtain ⟨A3, c3, rfl⟩ := own_formI hown.out
      have x3 : Below wr.heap.size wr (wr.alloc (.cells #[.int .i64 a, .int .i64 b] 142)) := (Below.refl _ _).alloc (Nat.le_refl _) _
      have R3 : RawAt 142 (wr.alloc (.cells #[.int .i64 a, .int .i64 b] 142)) wr.heap.size #[.int .i64 a, .int .i64 b] := heap_alloc_new wr _
      have e1 : (wr.alloc (.cells #[.int .i64 a, .int .i64 b] 142)).cell? ⟨wr.heap.size, 0, none⟩ = some (.int .i64 a) := RawAt.cell R3 0
      have e3 : (wr.alloc (.cells #[.int .i64 a, .int .i64 b] 142)).cell? ⟨wr.heap.size, 1, none⟩ = some (.int .i64 b) := RawAt.cell R3 1
      have HB3 := Lib.hid (hb.out.trans (x3.mono hb.out.size))
      have HO3 := Lib.hid (own_below hown.out x3)
      clear x3 R3 hb hown
      have x7 : Below (wr.alloc (.cells #[.int .i64 a, .int .i64 b] 142)).heap.size (wr.alloc (.cells #[.int .i64 a, .int .i64 b] 142)) ((wr.alloc (.cells #[.int .i64 a, .int .i64 b] 142)).alloc (.cells #[.int .i64 a, .int .i64 b] 145)) := (Below.refl _ _).alloc (Nat.le_refl _) _
      have S7 := Lib.hid (rows_of_block (enc := wencS) (k := 2) wencS_len (heap_alloc_new (wr.alloc (.cells #[.int .i64 a, .int .i64 b] 142)) _ : RawAt 145 ((wr.alloc (.cells #[.int .i64 a, .int .i64 b] 142)).alloc (.cells #[.int .i64 a, .int .i64 b] 145)) (wr.alloc (.cells #[.int .i64 a, .int .i64 b] 142)).heap.size #[.int .i64 a, .int .i64 b]) (l := [(a, b)]) rfl)
      have S7 := Lib.hid (by have h := S7.out; rw [show (wr.alloc (.cells #[.int .i64 a, .int .i64 b] 142)).heap.size = wr.heap.size + 1 from by simp] at h; exact h)
      have O7 := Lib.hid (own_below HO3.out x7)
      have B7 := Lib.hid (HB3.out.trans (x7.mono HB3.out.size))
      have lt7 := O7.out.lt
      clear x7
      go_wp2_with (at_builtin; refine wpList_appK (enc := wencS) ST wencS_len (by omega) rfl (.tmp 12) (.tmp 18) rfl (base := w.heap.size) (v := .slice A3 j c3) rfl O7.out _ 1 1 [(a, b)] rfl S7.out ⟨Nat.le_refl _, fun h => by cases h⟩ rfl (kfl_one' wencS_one _) (by simp only [maxLen]; omega) (by omega) (by have := B7.out.size; omega) ?_; intro v7 w7 hown7 hg7 hor7; have HB7 := Lib.hid (B7.out.grown hg7 B7.out.size (fun j hj => by have := (lt7 j hj).1; omega)); have HO7 := Lib.hid hown7; clear hown7 hg7 hor7 O7 B7 S7 lt7)
      go_roundg (gk - 1)
      case measure => omega
      case rel => exact ⟨j + 1, by go_num, by omega, by omega, HB7, Lib.hid (by rw [HT.out, kfl_append]; exact HO7.out)⟩
    · obtain rfl : j = n := by omega
      have ht : l.take j = l := List.take_of_length_le (by rw [HL.out]; exact Nat.le_refl _)
      have ho2 := hown.out
      rw [ht] at ho2
      have HOX := Lib.hid ho2
      have HBX := hb
      clear ho2 hb hown
      go_wp2
      go_ret
      exact ⟨_, rfl, HOX.out, HBX.out⟩
set_option maxHeartbeats 8000000 in
set_option maxRecDepth 100000 in
/-- Equal pieces are found equal. -/
theorem lsame14 (A B : Option Addr) (n c d : Nat) (l : List (Int × Int)) (w : World) (hA : RowsAt wencS 2 w A l) (hB : RowsAt wencS 2 w B l) (hl : l.length = n) (hn : n ≤ 1000000) :
    Calls Tryz.prog 44 #[.slice A n c, .slice B n d] w fun e w' => e = .returned (.bool true) ∧ Below w.heap.size w w' := by
  have HA := Lib.hid hA
  have HB := Lib.hid hB
  have HL := Lib.hid hl
  clear hA hB hl
  go_enter Tryz.func44, Tryz.ntmps44
  go_wp2_with fail
  go_loopg [8] n (fun g i wr => ∃ j : Nat, i = .int .i64 j ∧ j ≤ n ∧ n - j ≤ g ∧ Hid (Below w.heap.size w wr))
  case atStart => exact ⟨0, rfl, by omega, by omega, Lib.hid (Below.refl _ _)⟩
  case round =>
    obtain ⟨j, rfl, j1, j2, hb⟩ := hrel
    by_cases hlt : j < n
    · have hjl : j < l.length := by rw [HL.out]; exact hlt
      obtain ⟨bA, off, rfl, hbA, d0, d1⟩ := wrowsS (HA.out.below hb.out) hjl
      obtain ⟨bB, off2, rfl, hbB, e0, e1⟩ := wrowsS (HB.out.below hb.out) hjl
      generalize l[j] = it at *
      obtain ⟨a, b⟩ := it
      simp only at d0 d1 e0 e1
      have i1 : (0 : Int) ≤ j := by omega
      have i2 : (j : Int) < n := by omega
      have k1 : decide ((n : Int) ≤ j) = false := decide_eq_false (by omega)
      have k2 : decide (n ≤ j) = false := decide_eq_false (by omega)
      have k3 : ¬ ((n : Int) ≤ j) := by omega
      go_wp2_with fail
      go_quiet (fail)
      have HQ := Lib.hid (drewN_below hb.out nq)
      clear hb
      generalize wr.drewN nq = W4 at *
      go_wp2
      go_roundg (gk - 1)
      case measure => omega
      case rel => exact ⟨j + 1, by go_num, by omega, by omega, HQ⟩
    · obtain rfl : j = n := by omega
      have HBX := hb
      clear hb
      go_wp2
      go_ret
      exact ⟨by simp, HBX.out⟩
set_option linter.unusedVariables false
/-- What the document says of a right set's weave, by its pieces. -/
theorem wv_doc {o : List In} {n : Nat} (h : Wv 0 o n) : wdS o n (n + 1) 0 = wsp 0 o n ∧ wgrp [] (wdS o n (n + 1) 0) = wpcs (wvP 0 o n) ∧ ((wdS o n (n + 1) 0).length : Int) = wdsum 1 (wvP 0 o n) ∧ wdsum 0 (wvP 0 o n) = n ∧ wdsum 1 (wvP 0 o n) = n + wosum n 1 o := by
  have e := wdS_sp o n 0 n (by omega) h.pls (fun a ha => ⟨h.lo a ha, h.hi a ha⟩)
  obtain ⟨h1, h2, h3⟩ := wsp_len o 0 n h
  refine ⟨e, ?_, by rw [e, h1, h2], by rw [h3]; omega, by rw [h2]; omega⟩
  rw [e, wgrp_sp o 0 n [] h (fun x hx => by cases hx) (fun a _ x hx => by cases hx)]
  rfl
theorem wv_facts {w : World} {p : Option Addr} {l : List I7} {h : Nat} (ht : WvAt w p l h) : (h = 0 ↔ l.length = 0) ∧ (2 ≤ h → four (h - 2) ≤ (l.length : Int) + 1) ∧ h ≤ 30000 ∧ l.length ≤ 30000 := by
  have key : ∀ q, TP w q l h → (h = 0 ↔ l.length = 0) ∧ (2 ≤ h → four (h - 2) ≤ (l.length : Int) + 1) ∧ h ≤ 30000 ∧ l.length ≤ 30000 := fun q hq => by
    obtain ⟨a1, a2, a3, a4⟩ := tp_facts hq
    refine ⟨a1, fun h2 => ?_, a3, a4⟩
    have q1 := a2 h2
    have q2 := four_succ (h - 2)
    have q3 := four_pos (h - 2)
    rw [show h - 1 = h - 2 + 1 from by omega] at q1
    omega
  obtain ⟨q, hq, _⟩ := wvkept ht
  exact key q hq
set_option maxHeartbeats 8000000 in
set_option maxRecDepth 100000 in
theorem is14_yes {a : Addr} {o : List In} {n h : Nat} {w : World} (ht : WvAt w (some a) (wvP 0 o n) h) (hwv : Wv 0 o n) (er : Int) (A : Option Addr) (m c : Nat) (hA : RowsAt encI 5 w A o) (hl : o.length = m) (hm : m ≤ 100) (hn : n ≤ 1000) (htx : ∀ a ∈ o, a.tx.size ≤ 1000) :
    Calls Tryz.prog 13 #[.pointer (some a), .agg #[.int .i64 n, .slice A m c, .int .i64 er]] w fun e w' => e = .returned (.bool true) ∧ Below w.heap.size w w' := by
  obtain ⟨d1, d2, d3, d4, d5⟩ := wv_doc hwv
  obtain ⟨f1, f2, f3, f4⟩ := wv_facts ht
  have hsl : (wdS o n (n + 1) 0).length = (wdsum 1 (wvP 0 o n)).toNat := by omega
  have hwl : (wpcs (wvP 0 o n)).length = (wvP 0 o n).length := by unfold wpcs; rw [List.length_map]
  have CZ := Lib.hid fun (W : World) (hW : Below w.heap.size w W) => wvSizes (ht.below hW)
  have CP := Lib.hid fun (W : World) (hW : Below w.heap.size w W) => wvPcs (ht.below hW)
  have CH := Lib.hid fun (W : World) (hW : Below w.heap.size w W) => wvHeight (ht.below hW)
  have CS := Lib.hid fun (W : World) (hW : Below w.heap.size w W) => rSpots_any n er A m c o W (hA.below hW) hl hm hn htx
  have CR := Lib.hid fun (W : World) (hW : Below w.heap.size w W) => rPieces_any n er A m c o W (hA.below hW) hl hm hn htx
  rw [d2] at CR
  rw [d4] at CZ
  have CY := Lib.hid fun (W : World) => high_yes h (wvP 0 o n).length (by omega) f1 f2 (by omega) W
  have hT0 : 0 ≤ wdsum 1 (wvP 0 o n) := by rw [← d3]; omega
  clear ht hwv hA hl htx d1 d2 d4 d5 f1 f2
  rw [hwl] at CR
  generalize wdS o n (n + 1) 0 = S at *
  generalize wpcs (wvP 0 o n) = P at *
  obtain ⟨M, hM⟩ : ∃ M, M = (wvP 0 o n).length := ⟨_, rfl⟩
  rw [← hM] at hwl CP CR CY f4
  generalize wdsum 1 (wvP 0 o n) = T at *
  obtain ⟨K, hK⟩ : ∃ K, K = S.length := ⟨_, rfl⟩
  rw [← hK] at CS d3
  have CL := Lib.hid fun (A1 : Option Addr) (c1 : Nat) (W : World) (hA : RowsAt wencS 2 W A1 P) => lrefs14 A1 M c1 P W hA hwl (by omega)
  have CE := Lib.hid fun (A1 B1 : Option Addr) (c1 c2 : Nat) (W : World) (hA : RowsAt wencS 2 W A1 P) (hB : RowsAt wencS 2 W B1 P) => lsame14 A1 B1 M c1 c2 P W hA hB hwl (by omega)
  have x1 : Below w.heap.size w (w.alloc (.cells #[.int .i64 n, .slice A m c, .int .i64 er] 33)) := (Below.refl _ _).alloc (Nat.le_refl _) _
  have r1 : RawAt 33 (w.alloc (.cells #[.int .i64 n, .slice A m c, .int .i64 er] 33)) w.heap.size #[.int .i64 n, .slice A m c, .int .i64 er] := heap_alloc_new w _
  obtain ⟨W1, hW1⟩ : ∃ W1, W1 = w.alloc (.cells #[.int .i64 n, .slice A m c, .int .i64 er] 33) := ⟨_, rfl⟩
  rw [← hW1] at x1 r1
  have HW1 := Lib.hid hW1
  have X1 := Lib.hid x1
  have HR1 := Lib.hid r1
  have HK3 := Lib.hid d3
  have kt : ((K : Int) == T) = true := by simpa using d3
  have kt' : (T == (K : Int)) = true := by simpa using d3.symm
  have kn : ((n : Int) == (n : Int)) = true := by simp
  clear hM hK hsl hW1 x1 r1 d3
  go_enter Tryz.func13, Tryz.ntmps13
  go_wp2_with fail
  rw [← HW1.out]
  with_reducible refine (CZ.out _ X1.out).mono ?_
  rintro e w2 ⟨rfl, b2⟩
  have HB2 := Lib.hid (X1.out.trans (b2.mono X1.out.size))
  have HR2 := Lib.hid (HR1.out.below b2 HR1.out.lt)
  clear b2 CZ HR1 X1 HW1
  go_wp2_with fail
  with_reducible refine (CP.out _ HB2.out).mono ?_
  rintro e w3 ⟨v3, rfl, o3, b3⟩
  have HB3 := Lib.hid (HB2.out.trans (b3.mono HB2.out.size))
  have HR3 := Lib.hid (HR2.out.below b3 HR2.out.lt)
  obtain ⟨A3, c3, rfl, hR3, _, _⟩ := rows_of_own wencS_len (by omega) o3
  have HP3 := Lib.hid hR3
  clear b3 o3 hR3 CP HB2 HR2
  have MK : Hid (∀ V : World, Below w3.heap.size w3 V → (fun V : World => V.cell? ⟨w.heap.size, 0, none⟩ = some (.int .i64 n) ∧ V.cell? ⟨w.heap.size, 1, none⟩ = some (.slice A m c) ∧ V.cell? ⟨w.heap.size, 2, none⟩ = some (.int .i64 er)) V) := Lib.hid fun V hV => by
    have q := RawAt.below HR3.out hV HR3.out.lt
    exact ⟨RawAt.cell q 0, RawAt.cell q 1, RawAt.cell q 2⟩
  have hW2 : Below w3.heap.size w3 w3.drew := (Below.refl _ _).drew
  go_wp2_with fail
  refine wp_region_noPanic ?_
  refine wp_region_held_drew (S := (fun V => V.cell? ⟨w.heap.size, 0, none⟩ = some (.int .i64 n) ∧ V.cell? ⟨w.heap.size, 1, none⟩ = some (.slice A m c) ∧ V.cell? ⟨w.heap.size, 2, none⟩ = some (.int .i64 er))) (by kernel_rfl) (MK.out _ hW2) (fun hHeld => ?_)
  refine wpAnyH_take (i := 0) (v := ?_) rfl (by kernel_rfl) (by kernel_rfl) (by kernel_rfl) (fun _ _ _ h => h) (Or.inl ⟨by rfl, ?_⟩) hHeld ?_
  rotate_left
  · intro w hSw
    (try dsimp only at hSw)
    go_simp
    try with_reducible rfl
  go_simp
  refine wpAnyH_take (i := 1) (v := ?_) rfl (by kernel_rfl) (by kernel_rfl) (by kernel_rfl) (fun _ _ _ h => h) (Or.inl ⟨by rfl, ?_⟩) hHeld ?_
  rotate_left
  · intro w hSw
    (try dsimp only at hSw)
    go_simp
    try with_reducible rfl
  go_simp
  refine wpAnyH_take (i := 2) (v := ?_) rfl (by kernel_rfl) (by kernel_rfl) (by kernel_rfl) (fun _ _ _ h => h) (Or.inl ⟨by rfl, ?_⟩) hHeld ?_
  rotate_left
  · intro w hSw
    (try dsimp only at hSw)
    go_simp
    try with_reducible rfl
  go_simp
  refine wpAnyH_take (i := 3) (v := ?_) rfl (by kernel_rfl) (by kernel_rfl) (by kernel_rfl) (fun _ _ _ h => h) (Or.inl ⟨by rfl, ?_⟩) hHeld ?_
  rotate_left
  · intro w hSw
    (try dsimp only at hSw)
    go_simp
    try with_reducible rfl
  go_simp
  refine wpAnyH_take (i := 4) (v := ?_) rfl (by kernel_rfl) (by kernel_rfl) (by kernel_rfl) (fun _ _ _ h => h) (Or.inl ⟨by rfl, ?_⟩) hHeld ?_
  rotate_left
  · intro w hSw
    (try dsimp only at hSw)
    go_simp
    try with_reducible rfl
  go_simp
  refine wpAnyH_take (i := 5) (v := ?_) rfl (by kernel_rfl) (by kernel_rfl) (by kernel_rfl) (fun _ _ _ h => h) (Or.inl ⟨by rfl, ?_⟩) hHeld ?_
  rotate_left
  · intro w hSw
    (try dsimp only at hSw)
    go_simp
    try with_reducible rfl
  go_simp
  refine wpAnyH_take (i := 6) (v := ?_) rfl (by kernel_rfl) (by kernel_rfl) (by kernel_rfl) (fun _ _ _ h => h) (Or.inl ⟨by rfl, ?_⟩) hHeld ?_
  rotate_left
  · intro w hSw
    (try dsimp only at hSw)
    go_simp
    try with_reducible rfl
  go_simp
  refine wpAnyH_take (i := 7) (v := ?_) rfl (by kernel_rfl) (by kernel_rfl) (by kernel_rfl) (fun _ _ _ h => h) (Or.inl ⟨by rfl, ?_⟩) hHeld ?_
  rotate_left
  · intro w hSw
    (try dsimp only at hSw)
    go_simp
    try with_reducible rfl
  go_simp
  refine wpAnyH_take (i := 8) (v := ?_) rfl (by kernel_rfl) (by kernel_rfl) (by kernel_rfl) (fun _ _ _ h => h) (Or.inl ⟨by rfl, ?_⟩) hHeld ?_
  rotate_left
  · intro w hSw
    (try dsimp only at hSw)
    go_simp
    try with_reducible rfl
  go_simp
  refine wpAnyH_take (i := 9) (v := ?_) rfl (by kernel_rfl) (by kernel_rfl) (by kernel_rfl) (fun _ _ _ h => h) (Or.inl ⟨by rfl, ?_⟩) hHeld ?_
  rotate_left
  · intro w hSw
    (try dsimp only at hSw)
    go_simp
    try with_reducible rfl
  go_simp
  refine wpAnyH_take (i := 10) (v := ?_) rfl (by kernel_rfl) (by kernel_rfl) (by kernel_rfl) (fun _ _ _ h => h) (Or.inl ⟨by rfl, ?_⟩) hHeld ?_
  rotate_left
  · intro w hSw
    (try dsimp only at hSw)
    go_simp
    try with_reducible rfl
  go_simp
  refine wpAnyH_ready (rs := [11]) (by kernel_rfl) (by simp) ?_
  refine AllReadyH.cons rfl (fun K hK => ?_) ?_
  rotate_left
  · exact AllReadyH.nil
  go_simp
  go_wp2_with (first | (go_at_call 43; ((with_reducible refine (CS.out _ (HB3.out.trans (hW2.mono HB3.out.size))).mono ?_); rintro e w4 ⟨v4, rfl, o4, b4⟩); obtain ⟨A4, c4, rfl⟩ := own_formI o4; have hW2 := hW2.trans (b4.mono hW2.size); clear o4) | (go_at_call 45; ((with_reducible refine (CL.out A3 c3 _ (HP3.out.below hW2)).mono ?_); rintro e w5 ⟨v5, rfl, o5, b5⟩); obtain ⟨A5, c5, rfl, hR5, _, _⟩ := rows_of_own wencS_len (by omega) o5; have hW2 := hW2.trans (b5.mono hW2.size); clear o5) | (go_at_call 46; ((with_reducible refine (CR.out _ (HB3.out.trans (hW2.mono HB3.out.size))).mono ?_); rintro e w6 ⟨v6, rfl, o6, b6⟩); obtain ⟨A6, c6, rfl, hR6, _, _⟩ := rows_of_own wencS_len (by omega) o6; have hR5 := hR5.below b6; have hW2 := hW2.trans (b6.mono hW2.size); clear o6) | (go_at_call 44; ((with_reducible refine (CE.out A5 A6 c5 c6 _ hR5 hR6).mono ?_); rintro e w7 ⟨rfl, b7⟩); have hW2 := hW2.trans (b7.mono hW2.size); clear hR5 hR6) | (go_at_call 17; ((with_reducible refine (CH.out _ (HB3.out.trans (hW2.mono HB3.out.size))).mono ?_); rintro e w8 ⟨rfl, b8⟩); have hW2 := hW2.trans (b8.mono hW2.size)) | (go_at_call 47; ((with_reducible refine (CY.out _).mono ?_); rintro e w9 ⟨rfl, hw9⟩); have hw9 := hw9.symm; subst hw9))
  refine hK.out _ _ (by with_reducible exact MK.out _ hW2) (fun hHeld => ?_)
  clear hK K
  go_simp
  refine wpAnyH_take (i := 12) (v := ?_) rfl (by kernel_rfl) (by kernel_rfl) (by kernel_rfl) (fun _ _ _ h => h) (Or.inl ⟨by rfl, ?_⟩) hHeld ?_
  rotate_left
  · intro w hSw
    (try dsimp only at hSw)
    go_simp
    try with_reducible rfl
  go_simp
  refine wpAnyH_take (i := 13) (v := ?_) rfl (by kernel_rfl) (by kernel_rfl) (by kernel_rfl) (fun _ _ _ h => h) (Or.inl ⟨by rfl, ?_⟩) hHeld ?_
  rotate_left
  · intro w hSw
    (try dsimp only at hSw)
    go_simp
    try with_reducible rfl
  go_simp
  refine wpAnyH_take (i := 14) (v := ?_) rfl (by kernel_rfl) (by kernel_rfl) (by kernel_rfl) (fun _ _ _ h => h) (Or.inl ⟨by rfl, ?_⟩) hHeld ?_
  rotate_left
  · intro w hSw
    (try dsimp only at hSw)
    go_simp
    try with_reducible rfl
  go_simp
  refine wpAnyH_take (i := 15) (v := ?_) rfl (by kernel_rfl) (by kernel_rfl) (by kernel_rfl) (fun _ _ _ h => h) (Or.inl ⟨by rfl, ?_⟩) hHeld ?_
  rotate_left
  · intro w hSw
    (try dsimp only at hSw)
    go_simp
    try with_reducible rfl
  go_simp
  refine wpAnyH_take (i := 16) (v := ?_) rfl (by kernel_rfl) (by kernel_rfl) (by kernel_rfl) (fun _ _ _ h => h) (Or.inl ⟨by rfl, ?_⟩) hHeld ?_
  rotate_left
  · intro w hSw
    (try dsimp only at hSw)
    go_simp
    try with_reducible rfl
  go_simp
  refine wpAnyH_take (i := 18) (v := ?_) rfl (by kernel_rfl) (by kernel_rfl) (by kernel_rfl) (fun _ _ _ h => h) (Or.inl ⟨by rfl, ?_⟩) hHeld ?_
  rotate_left
  · intro w hSw
    (try dsimp only at hSw)
    go_simp
    try with_reducible rfl
  go_simp
  refine wpAnyH_ready (rs := [17]) (by kernel_rfl) (by simp) ?_
  refine AllReadyH.cons rfl (fun K hK => ?_) ?_
  rotate_left
  · exact AllReadyH.nil
  go_simp
  go_wp2_with (first | (go_at_call 43; ((with_reducible refine (CS.out _ (HB3.out.trans (hW2.mono HB3.out.size))).mono ?_); rintro e w4 ⟨v4, rfl, o4, b4⟩); obtain ⟨A4, c4, rfl⟩ := own_formI o4; have hW2 := hW2.trans (b4.mono hW2.size); clear o4) | (go_at_call 45; ((with_reducible refine (CL.out A3 c3 _ (HP3.out.below hW2)).mono ?_); rintro e w5 ⟨v5, rfl, o5, b5⟩); obtain ⟨A5, c5, rfl, hR5, _, _⟩ := rows_of_own wencS_len (by omega) o5; have hW2 := hW2.trans (b5.mono hW2.size); clear o5) | (go_at_call 46; ((with_reducible refine (CR.out _ (HB3.out.trans (hW2.mono HB3.out.size))).mono ?_); rintro e w6 ⟨v6, rfl, o6, b6⟩); obtain ⟨A6, c6, rfl, hR6, _, _⟩ := rows_of_own wencS_len (by omega) o6; have hR5 := hR5.below b6; have hW2 := hW2.trans (b6.mono hW2.size); clear o6) | (go_at_call 44; ((with_reducible refine (CE.out A5 A6 c5 c6 _ hR5 hR6).mono ?_); rintro e w7 ⟨rfl, b7⟩); have hW2 := hW2.trans (b7.mono hW2.size); clear hR5 hR6) | (go_at_call 17; ((with_reducible refine (CH.out _ (HB3.out.trans (hW2.mono HB3.out.size))).mono ?_); rintro e w8 ⟨rfl, b8⟩); have hW2 := hW2.trans (b8.mono hW2.size)) | (go_at_call 47; ((with_reducible refine (CY.out _).mono ?_); rintro e w9 ⟨rfl, hw9⟩); have hw9 := hw9.symm; subst hw9))
  refine hK.out _ _ (by with_reducible exact MK.out _ hW2) (fun hHeld => ?_)
  clear hK K
  go_simp
  refine wpAnyH_ready (rs := [19]) (by kernel_rfl) (by simp) ?_
  refine AllReadyH.cons rfl (fun K hK => ?_) ?_
  rotate_left
  · exact AllReadyH.nil
  go_simp
  go_wp2_with (first | (go_at_call 43; ((with_reducible refine (CS.out _ (HB3.out.trans (hW2.mono HB3.out.size))).mono ?_); rintro e w4 ⟨v4, rfl, o4, b4⟩); obtain ⟨A4, c4, rfl⟩ := own_formI o4; have hW2 := hW2.trans (b4.mono hW2.size); clear o4) | (go_at_call 45; ((with_reducible refine (CL.out A3 c3 _ (HP3.out.below hW2)).mono ?_); rintro e w5 ⟨v5, rfl, o5, b5⟩); obtain ⟨A5, c5, rfl, hR5, _, _⟩ := rows_of_own wencS_len (by omega) o5; have hW2 := hW2.trans (b5.mono hW2.size); clear o5) | (go_at_call 46; ((with_reducible refine (CR.out _ (HB3.out.trans (hW2.mono HB3.out.size))).mono ?_); rintro e w6 ⟨v6, rfl, o6, b6⟩); obtain ⟨A6, c6, rfl, hR6, _, _⟩ := rows_of_own wencS_len (by omega) o6; have hR5 := hR5.below b6; have hW2 := hW2.trans (b6.mono hW2.size); clear o6) | (go_at_call 44; ((with_reducible refine (CE.out A5 A6 c5 c6 _ hR5 hR6).mono ?_); rintro e w7 ⟨rfl, b7⟩); have hW2 := hW2.trans (b7.mono hW2.size); clear hR5 hR6) | (go_at_call 17; ((with_reducible refine (CH.out _ (HB3.out.trans (hW2.mono HB3.out.size))).mono ?_); rintro e w8 ⟨rfl, b8⟩); have hW2 := hW2.trans (b8.mono hW2.size)) | (go_at_call 47; ((with_reducible refine (CY.out _).mono ?_); rintro e w9 ⟨rfl, hw9⟩); have hw9 := hw9.symm; subst hw9))
  refine hK.out _ _ (by with_reducible exact MK.out _ hW2) (fun hHeld => ?_)
  clear hK K
  go_simp
  refine wpAnyH_ready (rs := [20]) (by kernel_rfl) (by simp) ?_
  refine AllReadyH.cons rfl (fun K hK => ?_) ?_
  rotate_left
  · exact AllReadyH.nil
  go_simp
  go_wp2_with (first | (go_at_call 43; ((with_reducible refine (CS.out _ (HB3.out.trans (hW2.mono HB3.out.size))).mono ?_); rintro e w4 ⟨v4, rfl, o4, b4⟩); obtain ⟨A4, c4, rfl⟩ := own_formI o4; have hW2 := hW2.trans (b4.mono hW2.size); clear o4) | (go_at_call 45; ((with_reducible refine (CL.out A3 c3 _ (HP3.out.below hW2)).mono ?_); rintro e w5 ⟨v5, rfl, o5, b5⟩); obtain ⟨A5, c5, rfl, hR5, _, _⟩ := rows_of_own wencS_len (by omega) o5; have hW2 := hW2.trans (b5.mono hW2.size); clear o5) | (go_at_call 46; ((with_reducible refine (CR.out _ (HB3.out.trans (hW2.mono HB3.out.size))).mono ?_); rintro e w6 ⟨v6, rfl, o6, b6⟩); obtain ⟨A6, c6, rfl, hR6, _, _⟩ := rows_of_own wencS_len (by omega) o6; have hR5 := hR5.below b6; have hW2 := hW2.trans (b6.mono hW2.size); clear o6) | (go_at_call 44; ((with_reducible refine (CE.out A5 A6 c5 c6 _ hR5 hR6).mono ?_); rintro e w7 ⟨rfl, b7⟩); have hW2 := hW2.trans (b7.mono hW2.size); clear hR5 hR6) | (go_at_call 17; ((with_reducible refine (CH.out _ (HB3.out.trans (hW2.mono HB3.out.size))).mono ?_); rintro e w8 ⟨rfl, b8⟩); have hW2 := hW2.trans (b8.mono hW2.size)) | (go_at_call 47; ((with_reducible refine (CY.out _).mono ?_); rintro e w9 ⟨rfl, hw9⟩); have hw9 := hw9.symm; subst hw9))
  refine hK.out _ _ (by with_reducible exact MK.out _ hW2) (fun hHeld => ?_)
  clear hK K
  go_simp
  refine wpAnyH_take (i := 21) (v := ?_) rfl (by kernel_rfl) (by kernel_rfl) (by kernel_rfl) (fun _ _ _ h => h) (Or.inl ⟨by rfl, ?_⟩) hHeld ?_
  rotate_left
  · intro w hSw
    (try dsimp only at hSw)
    go_simp
    try with_reducible rfl
  go_simp
  refine wpAnyH_take (i := 22) (v := ?_) rfl (by kernel_rfl) (by kernel_rfl) (by kernel_rfl) (fun _ _ _ h => h) (Or.inl ⟨by rfl, ?_⟩) hHeld ?_
  rotate_left
  · intro w hSw
    (try dsimp only at hSw)
    go_simp
    try with_reducible rfl
  go_simp
  refine wpAnyH_take (i := 23) (v := ?_) rfl (by kernel_rfl) (by kernel_rfl) (by kernel_rfl) (fun _ _ _ h => h) (Or.inl ⟨by rfl, ?_⟩) hHeld ?_
  rotate_left
  · intro w hSw
    (try dsimp only at hSw)
    go_simp
    try with_reducible rfl
  go_simp
  refine wpAnyH_take (i := 25) (v := ?_) rfl (by kernel_rfl) (by kernel_rfl) (by kernel_rfl) (fun _ _ _ h => h) (Or.inl ⟨by rfl, ?_⟩) hHeld ?_
  rotate_left
  · intro w hSw
    (try dsimp only at hSw)
    go_simp
    try with_reducible rfl
  go_simp
  refine wpAnyH_take (i := 26) (v := ?_) rfl (by kernel_rfl) (by kernel_rfl) (by kernel_rfl) (fun _ _ _ h => h) (Or.inl ⟨by rfl, ?_⟩) hHeld ?_
  rotate_left
  · intro w hSw
    (try dsimp only at hSw)
    go_simp
    try with_reducible rfl
  go_simp
  refine wpAnyH_ready (rs := [24]) (by kernel_rfl) (by simp) ?_
  refine AllReadyH.cons rfl (fun K hK => ?_) ?_
  rotate_left
  · exact AllReadyH.nil
  go_simp
  go_wp2_with (first | (go_at_call 43; ((with_reducible refine (CS.out _ (HB3.out.trans (hW2.mono HB3.out.size))).mono ?_); rintro e w4 ⟨v4, rfl, o4, b4⟩); obtain ⟨A4, c4, rfl⟩ := own_formI o4; have hW2 := hW2.trans (b4.mono hW2.size); clear o4) | (go_at_call 45; ((with_reducible refine (CL.out A3 c3 _ (HP3.out.below hW2)).mono ?_); rintro e w5 ⟨v5, rfl, o5, b5⟩); obtain ⟨A5, c5, rfl, hR5, _, _⟩ := rows_of_own wencS_len (by omega) o5; have hW2 := hW2.trans (b5.mono hW2.size); clear o5) | (go_at_call 46; ((with_reducible refine (CR.out _ (HB3.out.trans (hW2.mono HB3.out.size))).mono ?_); rintro e w6 ⟨v6, rfl, o6, b6⟩); obtain ⟨A6, c6, rfl, hR6, _, _⟩ := rows_of_own wencS_len (by omega) o6; have hR5 := hR5.below b6; have hW2 := hW2.trans (b6.mono hW2.size); clear o6) | (go_at_call 44; ((with_reducible refine (CE.out A5 A6 c5 c6 _ hR5 hR6).mono ?_); rintro e w7 ⟨rfl, b7⟩); have hW2 := hW2.trans (b7.mono hW2.size); clear hR5 hR6) | (go_at_call 17; ((with_reducible refine (CH.out _ (HB3.out.trans (hW2.mono HB3.out.size))).mono ?_); rintro e w8 ⟨rfl, b8⟩); have hW2 := hW2.trans (b8.mono hW2.size)) | (go_at_call 47; ((with_reducible refine (CY.out _).mono ?_); rintro e w9 ⟨rfl, hw9⟩); have hw9 := hw9.symm; subst hw9))
  refine hK.out _ _ (by with_reducible exact MK.out _ hW2) (fun hHeld => ?_)
  clear hK K
  go_simp
  refine wpAnyH_ready (rs := [27]) (by kernel_rfl) (by simp) ?_
  refine AllReadyH.cons rfl (fun K hK => ?_) ?_
  rotate_left
  · exact AllReadyH.nil
  go_simp
  go_wp2_with (first | (go_at_call 43; ((with_reducible refine (CS.out _ (HB3.out.trans (hW2.mono HB3.out.size))).mono ?_); rintro e w4 ⟨v4, rfl, o4, b4⟩); obtain ⟨A4, c4, rfl⟩ := own_formI o4; have hW2 := hW2.trans (b4.mono hW2.size); clear o4) | (go_at_call 45; ((with_reducible refine (CL.out A3 c3 _ (HP3.out.below hW2)).mono ?_); rintro e w5 ⟨v5, rfl, o5, b5⟩); obtain ⟨A5, c5, rfl, hR5, _, _⟩ := rows_of_own wencS_len (by omega) o5; have hW2 := hW2.trans (b5.mono hW2.size); clear o5) | (go_at_call 46; ((with_reducible refine (CR.out _ (HB3.out.trans (hW2.mono HB3.out.size))).mono ?_); rintro e w6 ⟨v6, rfl, o6, b6⟩); obtain ⟨A6, c6, rfl, hR6, _, _⟩ := rows_of_own wencS_len (by omega) o6; have hR5 := hR5.below b6; have hW2 := hW2.trans (b6.mono hW2.size); clear o6) | (go_at_call 44; ((with_reducible refine (CE.out A5 A6 c5 c6 _ hR5 hR6).mono ?_); rintro e w7 ⟨rfl, b7⟩); have hW2 := hW2.trans (b7.mono hW2.size); clear hR5 hR6) | (go_at_call 17; ((with_reducible refine (CH.out _ (HB3.out.trans (hW2.mono HB3.out.size))).mono ?_); rintro e w8 ⟨rfl, b8⟩); have hW2 := hW2.trans (b8.mono hW2.size)) | (go_at_call 47; ((with_reducible refine (CY.out _).mono ?_); rintro e w9 ⟨rfl, hw9⟩); have hw9 := hw9.symm; subst hw9))
  refine hK.out _ _ (by with_reducible exact MK.out _ hW2) (fun hHeld => ?_)
  clear hK K
  go_simp
  refine wpAnyH_take (i := 28) (v := ?_) rfl (by kernel_rfl) (by kernel_rfl) (by kernel_rfl) (fun _ _ _ h => h) (Or.inl ⟨by rfl, ?_⟩) hHeld ?_
  rotate_left
  · intro w hSw
    (try dsimp only at hSw)
    go_simp
    try with_reducible rfl
  go_simp
  refine wpAnyH_take (i := 29) (v := ?_) rfl (by kernel_rfl) (by kernel_rfl) (by kernel_rfl) (fun _ _ _ h => h) (Or.inl ⟨by rfl, ?_⟩) hHeld ?_
  rotate_left
  · intro w hSw
    (try dsimp only at hSw)
    go_simp
    try with_reducible rfl
  go_simp
  refine wpAnyH_done (by kernel_rfl) ?_ _
  refine NoPanic.normal ?_
  go_wp2
  go_ret
  exact ⟨rfl, HB3.out.trans (hW2.mono HB3.out.size)⟩
set_option linter.unusedVariables false
/-- Inlays in a set, such as the laws go through. -/
structure wOSet (n : Int) (o : List In) : Prop where
  pls : wPlS o
  each : ∀ a ∈ o, iwr n a = 0 ∧ a.tx.size ≤ 1000
  apart : IApart o
  len : o.length ≤ 60
  n0 : 0 ≤ n
  n1 : n ≤ 1099511627776
theorem wiwr_ok {n : Int} {a : In} (h : iwr n a = 0) : 1 ≤ a.id ∧ 0 ≤ a.pl ∧ a.pl ≤ n ∧ 0 < wcnt a ∧ (a.bi = 0 ∨ a.bi = 1) := by
  unfold iwr at h
  split at h
  · cases h
  · split at h
    · cases h
    · split at h
      · cases h
      · rename_i h1 h2 h3
        have : wcnt a = (dec a.tx).length := rfl
        refine ⟨by omega, by omega, by omega, ?_, by omega⟩
        rw [this]
        exact Nat.pos_of_ne_zero (fun e => h3 (.inl e))
theorem wOSet.wv {n : Int} {o : List In} (h : wOSet n o) : Wv 0 o n :=
  ⟨h.pls, fun a ha => (wiwr_ok (h.each a ha).1).2.1, fun a ha => (wiwr_ok (h.each a ha).1).2.2.1, h.n0, fun a ha => (wiwr_ok (h.each a ha).1).2.2.2.1, fun a ha => (wiwr_ok (h.each a ha).1).1, h.apart⟩
theorem wvNew_set {sb : Nat} {n : Int} {o : List In} {w : World} (h : ISet w sb n o) (ho : wOSet n o) :
    Calls Tryz.prog 8 #[.pointer (some ⟨sb, 0, none⟩)] w fun e w' => ∃ a h, e = .returned (.pointer (some a)) ∧ WvAt w' (some a) (wvP 0 o n) h ∧ Below w.heap.size w w' :=
  wvNew_of _ o n w ho.n0 ho.n1 (Nat.le_trans ho.len (by omega)) (fun a ha => ⟨(wiwr_ok (ho.each a ha).1).2.1, by have := (wiwr_ok (ho.each a ha).1).2.2.1; have := ho.n1; omega, Nat.le_trans (ho.each a ha).2 (by omega)⟩)
    (fun W hW => iAll_any (h.below hW) (Nat.le_trans ho.len (by omega))) (fun W hW => iLen_any (h.below hW))
def woneI : List In := [⟨7, 1, 0, 0, ⟨#[120, 121]⟩⟩]
theorem woneI_fine : iwrong 4 woneI = 0 := by decide +kernel
theorem woneI_ord : ord ilt (woneI.map icl) = woneI := by kernel_rfl
theorem woneI_set : wOSet 4 woneI := ⟨List.pairwise_singleton _ _, fun a ha => by rw [List.mem_singleton.1 ha]; exact ⟨by decide +kernel, by decide⟩, List.pairwise_singleton _ _, by decide, by omega, by omega⟩
theorem woneI_out0 : woutP (wvP 0 woneI 4) 1 0 = 1 := by kernel_rfl
theorem woneI_out1 : woutP (wvP 0 woneI 4) 1 1 = 3 := by kernel_rfl
theorem woneI_in : winP (wvP 0 woneI 4) 2 = (1, 7) := by kernel_rfl
theorem woneI_len : (wvP 0 woneI 4).length = 3 := by kernel_rfl
theorem woneI_s0 : wdsum 0 (wvP 0 woneI 4) = 4 := by kernel_rfl
theorem woneI_s1 : wdsum 1 (wvP 0 woneI 4) = 6 := by kernel_rfl
set_option maxHeartbeats 8000000 in
set_option maxRecDepth 100000 in
theorem four_any (w : World) : Calls Tryz.prog 5 #[] w fun e w' => e = .returned (.bool true) ∧ Below w.heap.size w w' := by
  have x1 : Below w.heap.size w (w.alloc (.cells #[.int .i64 7, .int .i64 1, .int .i64 0, .int .i64 0, .string ⟨#[120, 121]⟩] 48)) := (Below.refl _ _).alloc (Nat.le_refl _) _
  have R1 : RawAt 48 (w.alloc (.cells #[.int .i64 7, .int .i64 1, .int .i64 0, .int .i64 0, .string ⟨#[120, 121]⟩] 48)) w.heap.size #[.int .i64 7, .int .i64 1, .int .i64 0, .int .i64 0, .string ⟨#[120, 121]⟩] := heap_alloc_new w _
  have CN := Lib.hid (iNew_any 4 (some ⟨w.heap.size, 0, none⟩) 1 1 woneI _ (rows_of_block encI_len R1 rfl) ⟨Nat.le_refl _, fun h => by cases h⟩ rfl (fun a ha => by rw [List.mem_singleton.1 ha]; decide) (fun a ha => by rw [List.mem_singleton.1 ha]; decide) 0 woneI_fine)
  have HX1 := Lib.hid x1
  clear R1 x1
  go_enter Tryz.func5, Tryz.ntmps5
  go_wp2_with fail
  with_reducible refine (CN.out).mono ?_
  rintro e1 w1 ⟨p1, rfl, _, hp1, b1⟩
  obtain ⟨s1, rfl, h1⟩ := hp1 trivial
  rw [woneI_ord] at h1
  have Q1 := Lib.hid (HX1.out.trans (b1.mono HX1.out.size))
  have CW := Lib.hid (wvNew_set h1 woneI_set)
  clear hp1 CN b1 h1
  go_wp2_with fail
  with_reducible refine (CW.out).mono ?_
  rintro e2 w2 ⟨a, h, rfl, hW, b2⟩
  have Q2 := Lib.hid (Q1.out.trans (b2.mono Q1.out.size))
  obtain ⟨f1, f2, f3, f4⟩ := wv_facts hW
  rw [woneI_len] at f1 f2
  have hh : h = 1 := by
    by_cases h2 : 2 ≤ h
    · obtain ⟨q, hq, _⟩ := wvkept hW
      obtain ⟨_, t2, _⟩ := tp_facts hq
      have q1 := t2 h2
      have q2 := four_succ (h - 2)
      have q3 := four_pos (h - 2)
      rw [show h - 1 = h - 2 + 1 from by omega, woneI_len] at q1
      omega
    · omega
  subst hh
  have CO0 := Lib.hid fun (W : World) (hb : Below w2.heap.size w2 W) => wvOut_yes (hW.below hb) 1 0 ⟨by omega, by rw [woneI_s0]; omega⟩ (.inl rfl)
  have CO1 := Lib.hid fun (W : World) (hb : Below w2.heap.size w2 W) => wvOut_yes (hW.below hb) 1 1 ⟨by omega, by rw [woneI_s0]; omega⟩ (.inr rfl)
  have CI := Lib.hid fun (W : World) (hb : Below w2.heap.size w2 W) => wvIn_yes (hW.below hb) 2 ⟨by omega, by rw [woneI_s1]; omega⟩
  have CH := Lib.hid fun (W : World) (hb : Below w2.heap.size w2 W) => wvHeight (hW.below hb)
  rw [woneI_out0] at CO0
  rw [woneI_out1] at CO1
  rw [woneI_in] at CI
  clear f1 f2 f3 f4 hW b2 CW Q1
  go_wp2_with fail
  with_reducible refine (CO0.out _ (Below.refl _ _)).mono ?_
  rintro e3 w3 ⟨rfl, b3⟩
  go_wp2_with fail
  with_reducible refine (CO1.out _ b3).mono ?_
  rintro e4 w4 ⟨rfl, b4⟩
  have b4 := b3.trans (b4.mono b3.size)
  go_wp2_with fail
  with_reducible refine (CI.out _ b4).mono ?_
  rintro e5 w5 ⟨rfl, b5⟩
  have b5 := b4.trans (b5.mono b4.size)
  go_wp2_with fail
  with_reducible refine (CH.out _ b5).mono ?_
  rintro e6 w6 ⟨rfl, b6⟩
  have b6 := Lib.hid (Q2.out.trans ((b5.trans (b6.mono b5.size)).mono Q2.out.size))
  clear b3 b4 b5 CO0 CO1 CI CH
  go_wp2
  go_ret
  exact ⟨rfl, b6.out⟩
/-- Such as the laws go through. -/
def Short14 (n : Int) (l : List In) : Prop := 0 ≤ n ∧ n ≤ 300 ∧ l.length ≤ 60 ∧ ∀ x ∈ l, x.tx.size ≤ 200
set_option maxHeartbeats 4000000 in
set_option maxRecDepth 100000 in
theorem long14_any (N : Int) (A : Option Addr) (n c : Nat) (l : List In) (b : Bool) (w : World) (hA : RowsAt encI 5 w A l) (hl : l.length = n) (hn : n ≤ maxLen) (ht : ∀ x ∈ l, x.tx.size ≤ maxLen) (hb : b = true ↔ ¬ Short14 N l) :
    Calls Tryz.prog 4 #[.int .i64 N, .slice A n c] w fun e w' => e = .returned (.bool b) ∧ Below w.heap.size w w' := by
  unfold maxLen at hn ht
  have HA := Lib.hid hA
  have HL := Lib.hid hl
  have HTX := Lib.hid ht
  have BT : Hid (¬ Short14 N l → b = true) := Lib.hid hb.2
  have BF : Hid (Short14 N l → b = false) := Lib.hid fun h => by cases b; rfl; exact absurd h (hb.1 rfl)
  clear hA hl hb ht
  by_cases g1 : N < 0
  · have k1 : decide (N < 0) = true := decide_eq_true g1
    have hbt : b = true := BT.out fun h => by have := h.1; omega
    subst hbt
    go_enter Tryz.func4, Tryz.ntmps4
    go_wp2
    go_ret
    exact ⟨rfl, Below.refl _ _⟩
  · have k1 : decide (N < 0) = false := decide_eq_false g1
    by_cases g2 : 300 < N
    · have k2 : decide (300 < N) = true := decide_eq_true g2
      have hbt : b = true := BT.out fun h => by have := h.2.1; omega
      subst hbt
      go_enter Tryz.func4, Tryz.ntmps4
      go_wp2
      go_ret
      exact ⟨rfl, Below.refl _ _⟩
    · have k2 : decide (300 < N) = false := decide_eq_false g2
      by_cases g3 : 60 < n
      · have k3 : decide ((60 : Int) < (n : Int)) = true := decide_eq_true (by omega)
        have k4 : decide (60 < n) = true := decide_eq_true g3
        have hbt : b = true := BT.out fun h => by have := h.2.2.1; rw [HL.out] at this; omega
        subst hbt
        go_enter Tryz.func4, Tryz.ntmps4
        go_wp2
        go_ret
        exact ⟨rfl, Below.refl _ _⟩
      · have k3 : decide ((60 : Int) < (n : Int)) = false := decide_eq_false (by omega)
        have k4 : decide (60 < n) = false := decide_eq_false g3
        go_enter Tryz.func4, Tryz.ntmps4
        go_wp2_with fail
        go_loopg [20] n (fun g i wr => ∃ (j : Nat), i = .int .i64 j ∧ j ≤ n ∧ n - j ≤ g ∧ Hid (∀ x ∈ l.take j, x.tx.size ≤ 200) ∧ Hid (Below w.heap.size w wr))
        case atStart => exact ⟨0, rfl, by omega, by omega, Lib.hid (fun x hx => absurd hx (by simp)), Lib.hid (Below.refl _ _)⟩
        case round =>
          obtain ⟨j, rfl, h1, h2, hs, hb⟩ := hrel
          by_cases hlt : j < n
          · have hjl : j < l.length := by rw [HL.out]; exact hlt
            obtain ⟨bA, off, rfl, hbA, d0, d1, d2, d3, d4⟩ := wrowsW (HA.out.below hb.out) hjl
            have HTK := Lib.hid (List.take_succ_eq_append_getElem hjl)
            have HBAD : Hid (¬ (l[j].tx.size ≤ 200) → b = true) := Lib.hid fun h => BT.out fun hS => h (hS.2.2.2 _ (List.getElem_mem hjl))
            have hsz := HTX.out _ (List.getElem_mem hjl)
            generalize l[j] = o at *
            have i1 : (0 : Int) ≤ j := by omega
            have i2 : (j : Int) < n := by omega
            have HB3 := Lib.hid (hb.out.trans (((Below.refl wr.heap.size wr).alloc (Nat.le_refl _) (.cells #[.int .i64 o.id, .int .i64 o.pl, .int .i64 o.bi, .int .i64 o.ky, .string o.tx] 48)).mono hb.out.size))
            clear hb
            by_cases q : 200 < o.tx.size
            · have hbt : b = true := HBAD.out (by omega)
              subst hbt
              have k5 : decide ((200 : Int) < (o.tx.size : Int)) = true := decide_eq_true (by omega)
              have k6 : decide (200 < o.tx.size) = true := decide_eq_true q
              go_wp2
              go_ret
              exact ⟨rfl, HB3.out⟩
            · have k5 : decide ((200 : Int) < (o.tx.size : Int)) = false := decide_eq_false (by omega)
              have k6 : decide (200 < o.tx.size) = false := decide_eq_false q
              have HS2 : Hid (∀ x ∈ l.take (j + 1), x.tx.size ≤ 200) := Lib.hid (by
                rw [HTK.out]
                intro x hx
                rcases List.mem_append.1 hx with hx | hx
                · exact hs.out x hx
                · rw [List.mem_singleton.1 hx]; omega)
              clear hs HBAD
              go_wp2
              go_roundg (gk - 1)
              case measure => omega
              case rel => exact ⟨j + 1, by go_num, by omega, by omega, HS2, HB3⟩
          · obtain rfl : j = n := by omega
            have h5 := hs.out
            rw [List.take_of_length_le (by rw [HL.out]; exact Nat.le_refl _)] at h5
            have hbt : b = false := BF.out ⟨by omega, by omega, by rw [HL.out]; omega, h5⟩
            subst hbt
            clear h5 hs
            go_wp2
            go_ret
            exact ⟨rfl, hb.out⟩
/-- The set that New makes, such as the laws go through. -/
theorem woset_new {n : Int} {l : List In} (h : iwrong n l = 0) (hs : ∀ x ∈ l, x.tx.size ≤ 200) : wOSet n (ord ilt (l.map icl)) := by
  obtain ⟨a0, a1, a2, a3, a4⟩ := iwrong_is h
  obtain ⟨b1, b2, b3⟩ := ord_icl h
  have hz := ord_size h
  refine ⟨?_, fun a ha => ⟨(b3 a ha).1, Nat.le_trans (hz a ha).1 (by omega)⟩, b1, by rw [b2]; exact a2, a0, a1⟩
  refine List.Pairwise.imp ?_ (ord_sorted ilt ilt_swo (l.map icl))
  intro a b hab
  have : ¬ ilt b a = true := by rw [hab]; simp
  unfold ilt at this
  simp only [decide_eq_true_eq] at this
  omega
end Go.Proofs.YtbeclkhahdcmbaaGreat
