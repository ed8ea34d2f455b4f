/- Creases: the laws' size, places, woven. -/
import Derived.Test.YtdpmimlhchghlaaGreatCrU
import Derived.Test.YtdpmimlhchghlaaGreatCrG
import Derived.Test.YtdpmimlhchghlaaGreatCrF
import Derived.Test.YtdpmimlhchghlaaGreatCrD
import Derived.Test.YtdpmimlhchghlaaGreatWvL
import Derived.Test.YtdpmimlhchghlaaGreatInN
namespace Go.Proofs.YtdpmimlhchghlaaGreat
open Go.RowKit Go.Sort
set_option linter.unusedVariables false
theorem crP_tag : ∀ (l : List (Int × Int)) (f t : Int), ∀ i ∈ crP f l t, i.id = 0 ∧ (i.tag = 0 ∨ i.tag = 1)
  | [], f, t, i, hi => by
    rw [crP_nil] at hi
    unfold cgap at hi
    split at hi
    · rw [List.mem_singleton.1 hi]; exact ⟨rfl, .inl rfl⟩
    · cases hi
  | x :: l, f, t, i, hi => by
    rw [crP_cons] at hi
    rcases List.mem_append.1 hi with hi | hi
    · unfold cgap at hi
      split at hi
      · rw [List.mem_singleton.1 hi]; exact ⟨rfl, .inl rfl⟩
      · cases hi
    · rcases List.mem_append.1 hi with hi | hi
      · unfold cgap at hi
        split at hi
        · rw [List.mem_singleton.1 hi]; exact ⟨rfl, .inr rfl⟩
        · cases hi
      · exact crP_tag l x.2 t i hi
theorem cr_doc {L : List (Int × Int)} {z : Nat} (h : CrOk 0 L z) : cgrp L [] (cstS L z) = cpcs (crP 0 L z) ∧ ((cstS L z).length : Int) = z - crn L ∧ wdsum 0 (crP 0 L z) = z ∧ wdsum 1 (crP 0 L z) = z - crn L := by
  obtain ⟨e0, e1⟩ := crP_sums L 0 z h
  have h1 : cgrp L [] (cstS L z) = cpcs (crP 0 L z) := cgrp_doc h
  have h2 : cstS L z = cst 0 L z := cst_doc h
  have h3 := cst_len L 0 z h
  refine ⟨h1, ?_, ?_, ?_⟩
  · rw [h2, h3]; omega
  · rw [e0]; omega
  · rw [e1]; omega
/-- A text such as the laws go through, its hidden spans right. -/
structure Tx16 (w : World) (n : Nat) (A : Option Addr) (m c : Nat) (l : List In) (B : Option Addr) (k : Nat) (hh : List (Int × Int)) : Prop where
  hA : RowsAt encI 5 w A l
  cap : Caps A m c
  len : l.length = m
  tx : ∀ x ∈ l, x.tx.size ≤ 200
  ok : iwrong n l = 0
  n2 : n ≤ 200
  hm : m ≤ 60
  hB : RowsAt wencS 2 w B hh
  hk : hh.length = k
  k1 : k ≤ 100
theorem Tx16.below {w w' : World} {n : Nat} {A : Option Addr} {m c : Nat} {l : List In} {B : Option Addr} {k : Nat} {hh : List (Int × Int)} (h : Tx16 w n A m c l B k hh) (hb : Below w.heap.size w w') : Tx16 w' n A m c l B k hh :=
  ⟨h.hA.below hb, h.cap, h.len, h.tx, h.ok, h.n2, h.hm, h.hB.below hb, h.hk, h.k1⟩
/-- The inlays in their order; how many runes the woven text has; what is hidden of it. -/
def oI (l : List In) : List In := ord ilt (l.map icl)
def zI (n : Nat) (l : List In) : Nat := (wdS (oI l) n (n + 1) 0).length
theorem Tx16.set {w : World} {n : Nat} {A : Option Addr} {m c : Nat} {l : List In} {B : Option Addr} {k : Nat} {hh : List (Int × Int)} (h : Tx16 w n A m c l B k hh) : wOSet n (oI l) := woset_new h.ok h.tx
theorem Tx16.olen {w : World} {n : Nat} {A : Option Addr} {m c : Nat} {l : List In} {B : Option Addr} {k : Nat} {hh : List (Int × Int)} (h : Tx16 w n A m c l B k hh) : (oI l).length = m := by
  unfold oI
  rw [(ord_perm ilt ilt_swo _).length_eq, List.length_map]
  exact h.len
theorem Tx16.zis {w : World} {n : Nat} {A : Option Addr} {m c : Nat} {l : List In} {B : Option Addr} {k : Nat} {hh : List (Int × Int)} (h : Tx16 w n A m c l B k hh) : (zI n l : Int) = n + wosum n 1 (oI l) ∧ zI n l ≤ 100000 := by
  obtain ⟨_, _, d3, _, d5⟩ := wv_doc h.set.wv
  have e : (zI n l : Int) = n + wosum n 1 (oI l) := d3.trans d5
  have := (wosum_bd n 1 1000 (oI l) (fun a ha => Nat.le_trans (dec_len a.tx) (h.set.each a ha).2)).2
  rw [h.olen] at this
  have := h.hm
  have := h.n2
  exact ⟨e, by omega⟩
theorem Tx16.cr {w : World} {n : Nat} {A : Option Addr} {m c : Nat} {l : List In} {B : Option Addr} {k : Nat} {hh : List (Int × Int)} (h : Tx16 w n A m c l B k hh) (hr : RtOk 0 hh n) : CrOk 0 (hh.map (cpl (oI l))) (zI n l) := by
  rw [h.zis.1]
  exact RtOk.cr (oI l) hr (by omega) (by have := wosum_pos (oI l) 0 0; omega)
set_option maxHeartbeats 8000000 in
set_option maxRecDepth 100000 in
theorem size16_any {n : Nat} {A : Option Addr} {m c : Nat} {l : List In} {B : Option Addr} {k : Nat} {hh : List (Int × Int)} {w : World} (d : Nat) (h : Tx16 w n A m c l B k hh) :
    Calls Tryz.prog 15 #[.agg #[.int .i64 n, .slice A m c, .slice B k d]] w fun e w' => e = .returned (.int .i64 (zI n l)) ∧ Below w.heap.size w w' := by
  have x1 : Below w.heap.size w (w.alloc (.cells #[.int .i64 n, .slice A m c, .slice B k d] 25)) := (Below.refl _ _).alloc (Nat.le_refl _) _
  have r1 : RawAt 25 (w.alloc (.cells #[.int .i64 n, .slice A m c, .slice B k d] 25)) w.heap.size #[.int .i64 n, .slice A m c, .slice B k d] := heap_alloc_new w _
  obtain ⟨W1, hW1⟩ : ∃ W1, W1 = w.alloc (.cells #[.int .i64 n, .slice A m c, .slice B k d] 25) := ⟨_, rfl⟩
  rw [← hW1] at x1 r1
  have HW1 := Lib.hid hW1
  have X1 := Lib.hid x1
  have R1 := Lib.hid r1
  have y0 : W1.cell? ⟨w.heap.size, 0, none⟩ = some (.int .i64 n) := RawAt.cell r1 0
  have y1 : W1.cell? ⟨w.heap.size, 1, none⟩ = some (.slice A m c) := RawAt.cell r1 1
  have y2 : W1.cell? ⟨w.heap.size, 2, none⟩ = some (.slice B k d) := RawAt.cell r1 2
  clear hW1 x1 r1
  have CN := Lib.hid (rNew13_any n A m c l W1 (h.hA.below X1.out) h.cap h.len (fun x hx => Nat.le_trans (h.tx x hx) (by omega)) 0 h.ok)
  have HS := Lib.hid h.set
  have HL := Lib.hid h.len
  have HOL := Lib.hid h.olen
  have n2 := h.n2
  have hm := h.hm
  unfold zI
  have HOI : Hid (oI l = ord ilt (l.map icl)) := Lib.hid rfl
  generalize oI l = o at *
  clear h
  go_enter Tryz.func15, Tryz.ntmps15
  go_wp2_with fail
  rw [← HW1.out]
  go_wp2_with fail
  with_reducible refine (CN.out).mono ?_
  rintro e w4 ⟨nn, A2, m2, c2, rfl, hres, b4⟩
  obtain ⟨h1, h2, hR⟩ := hres (by first | exact trivial | rfl)
  rw [HL.out] at h2
  rw [← HOI.out] at hR
  have h1 := h1.symm
  subst h1
  have h2 := h2.symm
  subst h2
  have HB4 := Lib.hid (X1.out.trans (b4.mono X1.out.size))
  have CS := Lib.hid (rSpots_any n 0 A2 m c2 o w4 hR HOL.out (by omega) (by omega) (fun a ha => (HS.out.each a ha).2))
  clear hres hR b4 CN y0 y1 y2
  go_wp2_with fail
  with_reducible refine (CS.out).mono ?_
  rintro e w5 ⟨v5, rfl, o5, b5⟩
  have HB5 := Lib.hid (HB4.out.trans (b5.mono HB4.out.size))
  obtain ⟨A5, c5, rfl⟩ := own_form o5
  clear o5 b5 CS HB4
  go_wp2
  go_ret
  exact ⟨rfl, HB5.out⟩
set_option maxHeartbeats 8000000 in
set_option maxRecDepth 100000 in
theorem places16_any {n : Nat} {A : Option Addr} {m c : Nat} {l : List In} {B : Option Addr} {k : Nat} {hh : List (Int × Int)} {w : World} (d : Nat) (h : Tx16 w n A m c l B k hh) (hr : RtOk 0 hh n) :
    Calls Tryz.prog 16 #[.agg #[.int .i64 n, .slice A m c, .slice B k d]] w fun e w' => ∃ v, e = .returned v ∧ w'.ownsRow w.heap.size 47 2 v k (kfl wencS (hh.map (cpl (oI l)))) ∧ Below w.heap.size w w' := by
  have x1 : Below w.heap.size w (w.alloc (.cells #[.int .i64 n, .slice A m c, .slice B k d] 25)) := (Below.refl _ _).alloc (Nat.le_refl _) _
  have r1 : RawAt 25 (w.alloc (.cells #[.int .i64 n, .slice A m c, .slice B k d] 25)) w.heap.size #[.int .i64 n, .slice A m c, .slice B k d] := heap_alloc_new w _
  obtain ⟨W1, hW1⟩ : ∃ W1, W1 = w.alloc (.cells #[.int .i64 n, .slice A m c, .slice B k d] 25) := ⟨_, rfl⟩
  rw [← hW1] at x1 r1
  have HW1 := Lib.hid hW1
  have X1 := Lib.hid x1
  have R1 := Lib.hid r1
  have y0 : W1.cell? ⟨w.heap.size, 0, none⟩ = some (.int .i64 n) := RawAt.cell r1 0
  have y1 : W1.cell? ⟨w.heap.size, 1, none⟩ = some (.slice A m c) := RawAt.cell r1 1
  have y2 : W1.cell? ⟨w.heap.size, 2, none⟩ = some (.slice B k d) := RawAt.cell r1 2
  clear hW1 x1 r1
  have CN := Lib.hid fun (W : World) (hW : Below W1.heap.size W1 W) => rNew13_any n A m c l W ((h.hA.below X1.out).below hW) h.cap h.len (fun x hx => Nat.le_trans (h.tx x hx) (by omega)) 0 h.ok
  have HS := Lib.hid h.set
  have HL := Lib.hid h.len
  have HOL := Lib.hid h.olen
  have n2 := h.n2
  have hm := h.hm
  have k1 := h.k1
  have hxb : ∀ x ∈ hh, (-1099511627776 ≤ x.1 ∧ x.1 ≤ 1099511627776) ∧ -1099511627776 ≤ x.2 ∧ x.2 ≤ 1099511627776 := fun x hx => by
    have := hr.each x hx
    omega
  have HOI : Hid (oI l = ord ilt (l.map icl)) := Lib.hid rfl
  generalize oI l = o at *
  have CP := Lib.hid fun (A2 : Option Addr) (c2 : Nat) (W : World) (hR : RowsAt encI 5 W A2 o) (hW : Below W1.heap.size W1 W) => rPlaces16 n 0 A2 m c2 o B k d hh W hR HOL.out (by omega) (fun a ha => (HS.out.each a ha).2) ((h.hB.below X1.out).below hW) h.hk (by omega) hxb
  have MK : Hid (∀ W : World, Below W1.heap.size W1 W → (fun W : World => W.cell? ⟨w.heap.size, 0, none⟩ = some (.int .i64 n) ∧ W.cell? ⟨w.heap.size, 1, none⟩ = some (.slice A m c) ∧ W.cell? ⟨w.heap.size, 2, none⟩ = some (.slice B k d)) W) := Lib.hid fun W hW => by
    have q := RawAt.below R1.out hW R1.out.lt
    exact ⟨RawAt.cell q 0, RawAt.cell q 1, RawAt.cell q 2⟩
  clear h hr hxb y0 y1 y2
  have hW2 : Below W1.heap.size W1 W1.drew := (Below.refl _ _).drew
  go_enter Tryz.func16, Tryz.ntmps16
  go_wp2_with fail
  rw [← HW1.out]
  refine wp_region_noPanic ?_
  refine wp_region_held_drew (S := (fun W => W.cell? ⟨w.heap.size, 0, none⟩ = some (.int .i64 n) ∧ W.cell? ⟨w.heap.size, 1, none⟩ = some (.slice A m c) ∧ W.cell? ⟨w.heap.size, 2, none⟩ = some (.slice B k d))) (by kernel_rfl) (MK.out _ hW2) (fun hHeld => ?_)
  refine wpAnyH_take (i := 0) (v := ?_) rfl (by kernel_rfl) (by kernel_rfl) (by kernel_rfl) (fun _ _ _ h => h) (Or.inl ⟨by rfl, ?_⟩) hHeld ?_
  rotate_left
  · intro w hSw
    (try dsimp only at hSw)
    go_simp
    try with_reducible rfl
  go_simp
  refine wpAnyH_take (i := 1) (v := ?_) rfl (by kernel_rfl) (by kernel_rfl) (by kernel_rfl) (fun _ _ _ h => h) (Or.inl ⟨by rfl, ?_⟩) hHeld ?_
  rotate_left
  · intro w hSw
    (try dsimp only at hSw)
    go_simp
    try with_reducible rfl
  go_simp
  refine wpAnyH_take (i := 2) (v := ?_) rfl (by kernel_rfl) (by kernel_rfl) (by kernel_rfl) (fun _ _ _ h => h) (Or.inl ⟨by rfl, ?_⟩) hHeld ?_
  rotate_left
  · intro w hSw
    (try dsimp only at hSw)
    go_simp
    try with_reducible rfl
  go_simp
  refine wpAnyH_take (i := 3) (v := ?_) rfl (by kernel_rfl) (by kernel_rfl) (by kernel_rfl) (fun _ _ _ h => h) (Or.inl ⟨by rfl, ?_⟩) hHeld ?_
  rotate_left
  · intro w hSw
    (try dsimp only at hSw)
    go_simp
    try with_reducible rfl
  go_simp
  refine wpAnyH_take (i := 5) (v := ?_) rfl (by kernel_rfl) (by kernel_rfl) (by kernel_rfl) (fun _ _ _ h => h) (Or.inl ⟨by rfl, ?_⟩) hHeld ?_
  rotate_left
  · intro w hSw
    (try dsimp only at hSw)
    go_simp
    try with_reducible rfl
  go_simp
  refine wpAnyH_take (i := 6) (v := ?_) rfl (by kernel_rfl) (by kernel_rfl) (by kernel_rfl) (fun _ _ _ h => h) (Or.inl ⟨by rfl, ?_⟩) hHeld ?_
  rotate_left
  · intro w hSw
    (try dsimp only at hSw)
    go_simp
    try with_reducible rfl
  go_simp
  refine wpAnyH_ready (rs := [4]) (by kernel_rfl) (by simp) ?_
  refine AllReadyH.cons rfl (fun K hK => ?_) ?_
  rotate_left
  · exact AllReadyH.nil
  go_simp
  go_wp2_with (first | (go_at_call 23; (with_reducible refine (CN.out _ hW2).mono ?_); rintro e w4 ⟨nn, A2, m2, c2, rfl, hres, b4⟩; obtain ⟨h1, h2, hR⟩ := hres (by first | exact trivial | rfl); rw [HL.out] at h2; rw [← HOI.out] at hR; have h1 := h1.symm; subst h1; have h2 := h2.symm; subst h2; have hW2 := hW2.trans (b4.mono hW2.size); clear hres b4) | (go_at_call 44; (with_reducible refine (CP.out A2 c2 _ hR hW2).mono ?_); rintro e w5 ⟨v5, rfl, o5, b5⟩; have hW2' := hW2; have hW2 := hW2.trans (b5.mono hW2.size)))
  refine hK.out _ _ (by with_reducible exact MK.out _ hW2) (fun hHeld => ?_)
  clear hK K
  go_simp
  refine wpAnyH_ready (rs := [7]) (by kernel_rfl) (by simp) ?_
  refine AllReadyH.cons rfl (fun K hK => ?_) ?_
  rotate_left
  · exact AllReadyH.nil
  go_simp
  go_wp2_with (first | (go_at_call 23; (with_reducible refine (CN.out _ hW2).mono ?_); rintro e w4 ⟨nn, A2, m2, c2, rfl, hres, b4⟩; obtain ⟨h1, h2, hR⟩ := hres (by first | exact trivial | rfl); rw [HL.out] at h2; rw [← HOI.out] at hR; have h1 := h1.symm; subst h1; have h2 := h2.symm; subst h2; have hW2 := hW2.trans (b4.mono hW2.size); clear hres b4) | (go_at_call 44; (with_reducible refine (CP.out A2 c2 _ hR hW2).mono ?_); rintro e w5 ⟨v5, rfl, o5, b5⟩; have hW2' := hW2; have hW2 := hW2.trans (b5.mono hW2.size)))
  refine hK.out _ _ (by with_reducible exact MK.out _ hW2) (fun hHeld => ?_)
  clear hK K
  go_simp
  refine wpAnyH_take (i := 8) (v := ?_) rfl (by kernel_rfl) (by kernel_rfl) (by kernel_rfl) (fun _ _ _ h => h) (Or.inl ⟨by rfl, ?_⟩) hHeld ?_
  rotate_left
  · intro w hSw
    (try dsimp only at hSw)
    go_simp
    try with_reducible rfl
  go_simp
  refine wpAnyH_done (by kernel_rfl) ?_ _
  refine NoPanic.normal ?_
  have HB := Lib.hid (X1.out.trans (hW2.mono X1.out.size))
  have HO := Lib.hid (own_base o5 (X1.out.trans (hW2'.mono X1.out.size)).size)
  clear o5 b5 hW2 hW2' hR MK CP CN
  go_wp2
  go_ret
  exact ⟨_, rfl, HO.out, HB.out⟩
set_option maxHeartbeats 8000000 in
set_option maxRecDepth 100000 in
theorem woven16_any {n : Nat} {A : Option Addr} {m c : Nat} {l : List In} {B : Option Addr} {k : Nat} {hh : List (Int × Int)} {w : World} (d : Nat) (h : Tx16 w n A m c l B k hh) (hwf : ∀ a ∈ l, (Lit.int .i64 a.id).wf = true) :
    Calls Tryz.prog 11 #[.agg #[.int .i64 n, .slice A m c, .slice B k d]] w fun e w' => ∃ a h, e = .returned (.pointer (some a)) ∧ WvAt w' (some a) (wvP 0 (oI l) n) h ∧ Below w.heap.size w w' := by
  have x1 : Below w.heap.size w (w.alloc (.cells #[.int .i64 n, .slice A m c, .slice B k d] 25)) := (Below.refl _ _).alloc (Nat.le_refl _) _
  have r1 : RawAt 25 (w.alloc (.cells #[.int .i64 n, .slice A m c, .slice B k d] 25)) w.heap.size #[.int .i64 n, .slice A m c, .slice B k d] := heap_alloc_new w _
  obtain ⟨W1, hW1⟩ : ∃ W1, W1 = w.alloc (.cells #[.int .i64 n, .slice A m c, .slice B k d] 25) := ⟨_, rfl⟩
  rw [← hW1] at x1 r1
  have HW1 := Lib.hid hW1
  have X1 := Lib.hid x1
  have R1 := Lib.hid r1
  have y0 : W1.cell? ⟨w.heap.size, 0, none⟩ = some (.int .i64 n) := RawAt.cell r1 0
  have y1 : W1.cell? ⟨w.heap.size, 1, none⟩ = some (.slice A m c) := RawAt.cell r1 1
  have y2 : W1.cell? ⟨w.heap.size, 2, none⟩ = some (.slice B k d) := RawAt.cell r1 2
  clear hW1 x1 r1
  have CN := Lib.hid (iNew_any n A m c l W1 (h.hA.below X1.out) h.cap h.len hwf (fun x hx => Nat.le_trans (h.tx x hx) (by omega)) 0 h.ok)
  have HS := Lib.hid h.set
  have HOI : Hid (oI l = ord ilt (l.map icl)) := Lib.hid rfl
  generalize oI l = o at *
  clear h
  go_enter Tryz.func11, Tryz.ntmps11
  go_wp2_with fail
  rw [← HW1.out]
  go_wp2_with fail
  with_reducible refine (CN.out).mono ?_
  rintro e w3 ⟨p, rfl, hp1, hp2, b3⟩
  obtain ⟨sb, rfl, hs⟩ := hp2 (by first | exact trivial | rfl)
  rw [← HOI.out] at hs
  have HB3 := Lib.hid (X1.out.trans (b3.mono X1.out.size))
  have CW := Lib.hid (wvNew_set hs HS.out)
  clear b3 hp1 hp2 hs y0 y1 y2 CN
  go_wp2_with fail
  with_reducible refine (CW.out).mono ?_
  rintro e w4 ⟨a, h4, rfl, hT, b4⟩
  have HT := Lib.hid hT
  have HB4 := Lib.hid (HB3.out.trans (b4.mono HB3.out.size))
  clear hT b4 CW HB3
  go_wp2
  go_ret
  exact ⟨a, h4, rfl, HT.out, HB4.out⟩
end Go.Proofs.YtdpmimlhchghlaaGreat
