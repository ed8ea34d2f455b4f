/- Flow: the line of a row: of, ByRow; Replace, New. -/
import Derived.Test.YtnfjleobcfhpnaaFlH
import Derived.Test.YtnfjleobcfhpnaaTreeR
namespace Go.Proofs.Ytnfjleobcfhpnaa
open Go.RowKit
set_option linter.unusedVariables false
set_option maxHeartbeats 8000000 in
set_option maxRecDepth 100000 in
theorem flof {p : Option Addr} {l : List Ln} {h : Nat} {w : World} (ht : FlAt w p l h) (hl : Loks l) (hz : l.length ≤ 1000000) (row : Int) (h0 : 0 ≤ row) (h1 : row < (lsum l).r) :
    Calls Try.prog 60 #[.pointer p, .agg #[.int .i64 2, .int .i64 row]] w fun e w' => ∃ (k : Nat), RowIs l row k ∧ e = .returned (.tuple #[.agg #[.int .i64 k, .int .i64 (row - (lsum (l.take k)).r), .int .i64 (lsum (l.take k)).r, .int .i64 (lsum (l.take k)).s, .int .i64 (lsum (l.take k)).b], .int .i64 0]) ∧ Below w.heap.size w w' := by
  obtain ⟨q, hq, hk⟩ := flkept ht
  obtain ⟨pl, _, hs⟩ := flnum hq hl
  have hbd := (lsum_bd l hl hz).2.2
  unfold Small at hbd
  have CK := Lib.hid hk
  have CS := Lib.hid hs
  have CI := Lib.hid fun (s b m p : Int) (W : World) => flinside row l.length s b (lsum l).r m p W (by omega) (by omega)
  have CP := Lib.hid fun (W : World) (hW : Below w.heap.size w W) => flspot (ht.below hW) hl hz row h0 h1
  have x1 : RawAt 117 ((w.alloc (.cells #[.int .i64 2, .int .i64 row] 117)).alloc (.cells #[.int .i64 0, .int .i64 0, .int .i64 0, .int .i64 0, .int .i64 0] 75)) w.heap.size #[.int .i64 2, .int .i64 row] := (new2 w _ _ _ _).1
  have x2 : RawAt 75 ((w.alloc (.cells #[.int .i64 2, .int .i64 row] 117)).alloc (.cells #[.int .i64 0, .int .i64 0, .int .i64 0, .int .i64 0, .int .i64 0] 75)) (w.heap.size + 1) #[.int .i64 0, .int .i64 0, .int .i64 0, .int .i64 0, .int .i64 0] := (new2 w _ _ _ _).2.1
  have xb : Below w.heap.size w ((w.alloc (.cells #[.int .i64 2, .int .i64 row] 117)).alloc (.cells #[.int .i64 0, .int .i64 0, .int .i64 0, .int .i64 0, .int .i64 0] 75)) := ((Below.refl _ _).alloc (Nat.le_refl _) _).alloc (by simp) _
  obtain ⟨W0, hW0⟩ : ∃ W0, W0 = ((w.alloc (.cells #[.int .i64 2, .int .i64 row] 117)).alloc (.cells #[.int .i64 0, .int .i64 0, .int .i64 0, .int .i64 0, .int .i64 0] 75)) := ⟨_, rfl⟩
  rw [← hW0] at x1 x2 xb
  have HW0 := Lib.hid hW0
  have HX1 := Lib.hid x1
  have HX2 := Lib.hid x2
  have HXB := Lib.hid xb
  obtain ⟨T, hT⟩ : ∃ T, T = lsum l := ⟨_, rfl⟩
  rw [← hT] at CS CI h1 hbd
  have k2 : decide (row - T.r = 0) = false := decide_eq_false (by omega)
  have k3 : (row - T.r == 0) = false := by simp; omega
  have MK : Hid (∀ W : World, Below W0.heap.size W0 W → (fun W => W.cell? ⟨w.heap.size, 0, none⟩ = some (.int .i64 2) ∧ W.cell? ⟨w.heap.size, 1, none⟩ = some (.int .i64 row)) W) := Lib.hid fun W hW => ⟨RawAt.cell (HX1.out.below hW HX1.out.lt) 0, RawAt.cell (HX1.out.below hW HX1.out.lt) 1⟩
  have hW2 : Below W0.heap.size W0 W0.drew := (Below.refl _ _).drew
  clear hk hq ht hW0 x1 x2 xb h0 h1 hbd hs hT
  go_enter Try.func60, Try.ntmps60
  go_wp2_with fail
  rw [← HW0.out]
  refine wp_region_noPanic ?_
  refine wp_region_held_drew (S := (fun W => W.cell? ⟨w.heap.size, 0, none⟩ = some (.int .i64 2) ∧ W.cell? ⟨w.heap.size, 1, none⟩ = some (.int .i64 row))) (by kernel_rfl) (MK.out _ hW2) (fun hHeld => ?_)
  refine wpAnyH_take (i := 0) (v := ?_) rfl (by kernel_rfl) (by kernel_rfl) (by kernel_rfl) (fun _ _ _ h => h) (Or.inl ⟨by rfl, ?_⟩) hHeld ?_
  rotate_left
  · intro w hSw
    (try dsimp only at hSw)
    go_simp
    try with_reducible rfl
  go_simp
  refine wpAnyH_take (i := 1) (v := ?_) rfl (by kernel_rfl) (by kernel_rfl) (by kernel_rfl) (fun _ _ _ h => h) (Or.inl ⟨by rfl, ?_⟩) hHeld ?_
  rotate_left
  · intro w hSw
    (try dsimp only at hSw)
    go_simp
    try with_reducible rfl
  go_simp
  refine wpAnyH_ready (rs := [2]) (by kernel_rfl) (by simp) ?_
  refine AllReadyH.cons rfl (fun K hK => ?_) ?_
  rotate_left
  · exact AllReadyH.nil
  go_simp
  go_wp2_with (first | (go_at_call 58; ((with_reducible refine (CK.out _ (HXB.out.trans (hW2.mono HXB.out.size))).mono ?_); rintro e w1 ⟨rfl, hw1⟩); have hw1 := hw1.symm; subst hw1) | (go_at_call 71; ((with_reducible refine (CS.out _ (HXB.out.trans (hW2.mono HXB.out.size))).mono ?_); rintro e w2 ⟨rfl, hb2⟩); have hW2 := hW2.trans (hb2.mono hW2.size)) | (go_at_call 79; ((with_reducible refine (CI.out _ _ _ _ _).mono ?_); rintro e w3 ⟨rfl, hb3⟩); have hW2 := hW2.trans (hb3.mono hW2.size)))
  refine hK.out _ _ (MK.out _ hW2) (fun hHeld => ?_)
  clear hK K
  go_simp
  refine wpAnyH_ready (rs := [3]) (by kernel_rfl) (by simp) ?_
  refine AllReadyH.cons rfl (fun K hK => ?_) ?_
  rotate_left
  · exact AllReadyH.nil
  go_simp
  go_wp2_with (first | (go_at_call 58; ((with_reducible refine (CK.out _ (HXB.out.trans (hW2.mono HXB.out.size))).mono ?_); rintro e w1 ⟨rfl, hw1⟩); have hw1 := hw1.symm; subst hw1) | (go_at_call 71; ((with_reducible refine (CS.out _ (HXB.out.trans (hW2.mono HXB.out.size))).mono ?_); rintro e w2 ⟨rfl, hb2⟩); have hW2 := hW2.trans (hb2.mono hW2.size)) | (go_at_call 79; ((with_reducible refine (CI.out _ _ _ _ _).mono ?_); rintro e w3 ⟨rfl, hb3⟩); have hW2 := hW2.trans (hb3.mono hW2.size)))
  refine hK.out _ _ (MK.out _ hW2) (fun hHeld => ?_)
  clear hK K
  go_simp
  refine wpAnyH_ready (rs := [4]) (by kernel_rfl) (by simp) ?_
  refine AllReadyH.cons rfl (fun K hK => ?_) ?_
  rotate_left
  · exact AllReadyH.nil
  go_simp
  go_wp2_with (first | (go_at_call 58; ((with_reducible refine (CK.out _ (HXB.out.trans (hW2.mono HXB.out.size))).mono ?_); rintro e w1 ⟨rfl, hw1⟩); have hw1 := hw1.symm; subst hw1) | (go_at_call 71; ((with_reducible refine (CS.out _ (HXB.out.trans (hW2.mono HXB.out.size))).mono ?_); rintro e w2 ⟨rfl, hb2⟩); have hW2 := hW2.trans (hb2.mono hW2.size)) | (go_at_call 79; ((with_reducible refine (CI.out _ _ _ _ _).mono ?_); rintro e w3 ⟨rfl, hb3⟩); have hW2 := hW2.trans (hb3.mono hW2.size)))
  refine hK.out _ _ (MK.out _ hW2) (fun hHeld => ?_)
  clear hK K
  go_simp
  refine wpAnyH_take (i := 5) (v := ?_) rfl (by kernel_rfl) (by kernel_rfl) (by kernel_rfl) (fun _ _ _ h => h) (Or.inl ⟨by rfl, ?_⟩) hHeld ?_
  rotate_left
  · intro w hSw
    (try dsimp only at hSw)
    go_simp
    try with_reducible rfl
  go_simp
  refine wpAnyH_done (by kernel_rfl) ?_ _
  refine NoPanic.normal ?_
  have HB4 := Lib.hid (HXB.out.trans (hW2.mono HXB.out.size))
  have HX4 := Lib.hid (HX2.out.below hW2 HX2.out.lt)
  obtain ⟨c0, c1⟩ := MK.out _ hW2
  clear hHeld MK hW2 CK CS CI HX1 HX2
  go_wp2_with fail
  with_reducible refine (CP.out _ HB4.out).mono ?_
  rintro e w5 ⟨k, hr, rfl, b5⟩
  have s5 := HX4.out.below b5 HX4.out.lt
  have HB5 := Lib.hid (HB4.out.trans (b5.mono HB4.out.size))
  have z0 := RawAt.cell s5 0
  have z1 := RawAt.cell s5 1
  have z2 := RawAt.cell s5 2
  have z3 := RawAt.cell s5 3
  have z4 := RawAt.cell s5 4
  have f0 := s5.free 0
  have f1 := s5.free 1
  have f2 := s5.free 2
  have f3 := s5.free 3
  have f4 := s5.free 4
  simp at z0 z1 z2 z3 z4
  have HR := Lib.hid hr
  obtain ⟨S, hS⟩ : ∃ S, S = lsum (l.take k) := ⟨_, rfl⟩
  have HS := Lib.hid hS
  rw [← hS]
  clear s5 b5 hr hS
  go_wp2
  refine bodyPost_ret (v := .tuple #[.agg #[.int .i64 k, .int .i64 (row - S.r), .int .i64 S.r, .int .i64 S.s, .int .i64 S.b], .int .i64 0]) (by simp [results, Try.results60, go_sem, z0, z1, z2, z3, z4]) rfl ⟨k, HR.out, by rw [HS.out], ?_⟩
  (repeat' (first | (with_reducible exact HB5.out) | (with_reducible refine Below.setCell ?_ ?_ _) | (with_reducible refine Below.drew ?_))) <;> first | exact Nat.le_refl _ | (simp; done) | (simp; omega)
set_option maxHeartbeats 8000000 in
set_option maxRecDepth 100000 in
theorem flbyrow {p : Option Addr} {l : List Ln} {h : Nat} {w : World} (ht : FlAt w p l h) (hl : Loks l) (hz : l.length ≤ 1000000) (row : Int) (h0 : 0 ≤ row) (h1 : row < (lsum l).r) :
    Calls Try.prog 32 #[.pointer p, .int .i64 row] w fun e w' => ∃ (k : Nat), RowIs l row k ∧ e = .returned (.tuple #[.agg #[.int .i64 k, .int .i64 (row - (lsum (l.take k)).r), .int .i64 (lsum (l.take k)).r, .int .i64 (lsum (l.take k)).s, .int .i64 (lsum (l.take k)).b], .int .i64 0]) ∧ Below w.heap.size w w' := by
  have x1 : RawAt 75 (w.alloc (.cells #[.int .i64 0, .int .i64 0, .int .i64 0, .int .i64 0, .int .i64 0] 75)) w.heap.size #[.int .i64 0, .int .i64 0, .int .i64 0, .int .i64 0, .int .i64 0] := heap_alloc_new w _
  have xb : Below w.heap.size w (w.alloc (.cells #[.int .i64 0, .int .i64 0, .int .i64 0, .int .i64 0, .int .i64 0] 75)) := (Below.refl _ _).alloc (Nat.le_refl _) _
  have CP := Lib.hid (flof (ht.below xb) hl hz row h0 h1)
  obtain ⟨W0, hW0⟩ : ∃ W0, W0 = (w.alloc (.cells #[.int .i64 0, .int .i64 0, .int .i64 0, .int .i64 0, .int .i64 0] 75)) := ⟨_, rfl⟩
  rw [← hW0] at x1 xb CP
  have HW0 := Lib.hid hW0
  have HX1 := Lib.hid x1
  have HXB := Lib.hid xb
  clear ht hW0 x1 xb h0 h1
  go_enter Try.func32, Try.ntmps32
  go_wp2_with fail
  rw [← HW0.out]
  with_reducible refine CP.out.mono ?_
  rintro e w5 ⟨k, hr, rfl, b5⟩
  have s5 := HX1.out.below b5 HX1.out.lt
  have HB5 := Lib.hid (HXB.out.trans (b5.mono HXB.out.size))
  have z0 := RawAt.cell s5 0
  have z1 := RawAt.cell s5 1
  have z2 := RawAt.cell s5 2
  have z3 := RawAt.cell s5 3
  have z4 := RawAt.cell s5 4
  have f0 := s5.free 0
  have f1 := s5.free 1
  have f2 := s5.free 2
  have f3 := s5.free 3
  have f4 := s5.free 4
  simp at z0 z1 z2 z3 z4
  have HR := Lib.hid hr
  obtain ⟨S, hS⟩ : ∃ S, S = lsum (l.take k) := ⟨_, rfl⟩
  have HS := Lib.hid hS
  rw [← hS]
  clear s5 b5 hr hS
  go_wp2
  refine bodyPost_ret (v := .tuple #[.agg #[.int .i64 k, .int .i64 (row - S.r), .int .i64 S.r, .int .i64 S.s, .int .i64 S.b], .int .i64 0]) (by simp [results, Try.results32, go_sem, z0, z1, z2, z3, z4]) rfl ⟨k, HR.out, by rw [HS.out], ?_⟩
  (repeat' (first | (with_reducible exact HB5.out) | (with_reducible refine Below.setCell ?_ ?_ _) | (with_reducible refine Below.drew ?_))) <;> first | exact Nat.le_refl _ | (simp; done) | (simp; omega)
/-- What Replace answers. -/
def FlRep (l m : List Ln) (x y : Nat) (w : World) (e : Ending) (w' : World) : Prop := Below w.heap.size w w' ∧ ((Loks m ∧ ∃ a h', e = .returned (.tuple #[.pointer (some a), .int .i64 0]) ∧ FlAt w' (some a) (l.take x ++ m ++ l.drop y) h') ∨ ((¬ Loks m) ∧ e = .returned (.tuple #[.pointer none, .int .i64 1])))
set_option maxHeartbeats 8000000 in
set_option maxRecDepth 100000 in
theorem flrep_span {p : Option Addr} {l : List Ln} {h : Nat} {w : World} (ht : FlAt w p l h) (hl : Loks l) (x y : Int) (A : Option Addr) (n c : Nat) (hn : ¬ (0 ≤ x ∧ x ≤ y ∧ y ≤ l.length)) :
    Calls Try.prog 30 #[.pointer p, .int .i64 x, .int .i64 y, .slice A n c] w fun e w' => e = .returned (.tuple #[.pointer none, .int .i64 1]) ∧ Below w.heap.size w w' := by
  have CC := Lib.hid (flcount ht hl)
  by_cases g1 : x < 0
  · have k1 : decide (x < 0) = true := decide_eq_true g1
    clear hn
    go_enter Try.func30, Try.ntmps30
    go_wp2
    go_ret2
    exact ⟨rfl, Below.refl _ _⟩
  · have k1 : decide (x < 0) = false := decide_eq_false g1
    by_cases g2 : y < x
    · have k2 : decide (y < x) = true := decide_eq_true g2
      clear hn
      go_enter Try.func30, Try.ntmps30
      go_wp2
      go_ret2
      exact ⟨rfl, Below.refl _ _⟩
    · have k2 : decide (y < x) = false := decide_eq_false g2
      have k3 : decide ((l.length : Int) < y) = true := decide_eq_true (by omega)
      have k4 : (l.length : Int) < y := by omega
      clear hn
      go_enter Try.func30, Try.ntmps30
      go_wp2_with fail
      with_reducible refine CC.out.mono ?_
      rintro e w1 ⟨rfl, b1⟩
      go_wp2
      go_ret2
      exact ⟨rfl, b1⟩
set_option maxHeartbeats 8000000 in
set_option maxRecDepth 100000 in
theorem flrep_any {p : Option Addr} {l m : List Ln} {h : Nat} {w : World} (ht : FlAt w p l h) (hl : Loks l) (x y : Nat) (A : Option Addr) (n c : Nat) (hx : x ≤ y) (hy : y ≤ l.length) (hA : RowsAt encL 4 w A m) (hm : m.length = n) (hz : l.length + n ≤ 30000) :
    Calls Try.prog 30 #[.pointer p, .int .i64 x, .int .i64 y, .slice A n c] w (FlRep l m x y w) := by
  obtain ⟨q, hq, hk⟩ := flkept ht
  have CC := Lib.hid (flcount ht hl)
  have CK := Lib.hid hk
  have CIT := Lib.hid fun (W : World) (hW : Below w.heap.size w W) => flitems A n c m W (hA.below hW) hm (by omega)
  have CB := Lib.hid fun (B : Option Addr) (d : Nat) (W : World) (hW : Below w.heap.size w W) (hI : ItsAt W B (m.map itm)) (ho : ¬ Okl (m.map itm)) => trepl_bad q (l.map itm) (m.map itm) h x y B n d W (hq.below hW) hx (by rw [List.length_map]; exact hy) hI (by rw [List.length_map]; exact hm) (by omega) ho
  have CR := Lib.hid fun (B : Option Addr) (d : Nat) (W : World) (hW : Below w.heap.size w W) (hI : ItsAt W B (m.map itm)) (hC : Caps B n d) (ho : Okl (m.map itm)) => trepl_any q (l.map itm) (m.map itm) h x y B n d W (hq.below hW) hx (by rw [List.length_map]; exact hy) hI (by rw [List.length_map]; exact hm) hC (by rw [List.length_map]; omega) ho
  have k1 : decide ((x : Int) < 0) = false := decide_eq_false (by omega)
  have k2 : decide ((y : Int) < x) = false := decide_eq_false (by omega)
  have k3 : decide ((l.length : Int) < y) = false := decide_eq_false (by omega)
  have k4 : ¬ (l.length < y) := by omega
  have k5 : decide (l.length < y) = false := decide_eq_false k4
  have k6 : decide (y < x) = false := decide_eq_false (by omega)
  clear hk hq ht hA hm
  go_enter Try.func30, Try.ntmps30
  go_wp2_with fail
  with_reducible refine CC.out.mono ?_
  rintro e w1 ⟨rfl, b1⟩
  have HB1 := Lib.hid b1
  clear b1 CC
  go_wp2_with fail
  with_reducible refine (CIT.out _ HB1.out).mono ?_
  intro e w2 hr
  obtain ⟨b2, ⟨hrows, B, d, rfl, hI, hC⟩ | ⟨hno, rfl⟩⟩ := hr
  · have HB2 := Lib.hid (HB1.out.trans (b2.mono HB1.out.size))
    have HI := Lib.hid hI
    have HC := Lib.hid hC
    have HRW := Lib.hid hrows
    clear b2 hI hC hrows CIT
    go_wp2_with fail
    with_reducible refine (CK.out _ HB2.out).mono ?_
    rintro e w3 ⟨rfl, hw3⟩
    have hw3 := hw3.symm
    subst hw3
    by_cases ho : Okl (m.map itm)
    · have CR2 := Lib.hid (CR.out B d _ HB2.out HI.out HC.out ho)
      have HLM := Lib.hid ((loks_iff HRW.out).2 ho)
      clear ho CR CB HI HC HRW
      go_wp2_with fail
      with_reducible refine CR2.out.mono ?_
      rintro e w4 ⟨a', h', rfl, hT, b4⟩
      have HT : Hid (TP w4 (some a') ((l.take x ++ m ++ l.drop y).map itm) h') := Lib.hid (by rw [List.map_append, List.map_append, List.map_take, List.map_drop]; exact hT)
      have HB4 := Lib.hid (HB2.out.trans (b4.mono HB2.out.size))
      have x5 : Below w4.heap.size w4 (w4.alloc (.cells #[.pointer (some a')] 114)) := (Below.refl _ _).alloc (Nat.le_refl _) _
      have HF : Hid (FlAt (w4.alloc (.cells #[.pointer (some a')] 114)) (some ⟨w4.heap.size, 0, none⟩) (l.take x ++ m ++ l.drop y) h') := Lib.hid (.inr ⟨w4.heap.size, some a', rfl, heap_alloc_new w4 _, HT.out.below x5⟩)
      have HB5 := Lib.hid (HB4.out.trans (x5.mono HB4.out.size))
      clear hT b4 x5
      go_wp2
      go_ret2
      exact ⟨HB5.out, .inl ⟨HLM.out, _, h', rfl, HF.out⟩⟩
    · have CR2 := Lib.hid (CB.out B d _ HB2.out HI.out ho)
      have HLM : Hid (¬ Loks m) := Lib.hid fun hh => ho hh.its
      clear ho CR CB HI HC HRW
      go_wp2_with fail
      with_reducible refine CR2.out.mono ?_
      rintro e w4 ⟨rfl, b4⟩
      have HB4 := Lib.hid (HB2.out.trans (b4.mono HB2.out.size))
      clear b4
      go_wp2
      go_ret2
      exact ⟨HB4.out, .inr ⟨HLM.out, rfl⟩⟩
  · have HB2 := Lib.hid (HB1.out.trans (b2.mono HB1.out.size))
    have HLM : Hid (¬ Loks m) := Lib.hid fun hh => hno fun x hx => by have := hh x hx; unfold Lok Okn at this; omega
    clear b2 hno CIT
    go_wp2
    go_ret2
    exact ⟨HB2.out, .inr ⟨HLM.out, rfl⟩⟩
/-- What New answers. -/
def FlNew (m : List Ln) (w : World) (e : Ending) (w' : World) : Prop := Below w.heap.size w w' ∧ ((Loks m ∧ ∃ a h', e = .returned (.tuple #[.pointer (some a), .int .i64 0]) ∧ FlAt w' (some a) m h') ∨ ((¬ Loks m) ∧ e = .returned (.tuple #[.pointer none, .int .i64 1])))
set_option maxHeartbeats 8000000 in
theorem flnew (A : Option Addr) (n c : Nat) (m : List Ln) (w : World) (hA : RowsAt encL 4 w A m) (hm : m.length = n) (hz : n ≤ 30000) :
    Calls Try.prog 26 #[.slice A n c] w (FlNew m w) := by
  have CR := Lib.hid (flrep_any (p := none) (l := []) (h := 0) (w := w) (.inl ⟨rfl, rfl, rfl⟩) (fun x hx => absurd hx (by simp)) 0 0 A n c (Nat.le_refl _) (Nat.le_refl _) hA hm (by simpa using hz))
  clear hA
  go_enter Try.func26, Try.ntmps26
  go_wp2_with fail
  refine CR.out.mono ?_
  intro e w1 hr
  obtain ⟨b1, ⟨ho, a, h', rfl, hF⟩ | ⟨hno, rfl⟩⟩ := hr
  · have HF : Hid (FlAt w1 (some a) m h') := Lib.hid (by simpa using hF)
    have HO := Lib.hid ho
    clear hF ho
    go_wp2
    go_ret2
    exact ⟨b1, .inl ⟨HO.out, a, h', rfl, HF.out⟩⟩
  · have HO := Lib.hid hno
    clear hno
    go_wp2
    go_ret2
    exact ⟨b1, .inr ⟨HO.out, rfl⟩⟩
end Go.Proofs.Ytnfjleobcfhpnaa
