/- Batches: the contracts of Size, fault, reach, cutter and what it makes. -/
import Derived.Test.YtglalmhpgdgeeaaBChk
import Derived.Test.YtglalmhpgdgeeaaRSlice
namespace Go.Proofs.Ytglalmhpgdgeeaa
open Go.RowKit
theorem ris_mem {n : Nat} : ∀ {p : Nat} {l : List E3}, ERis n p l → ∀ e ∈ l, 0 ≤ e.f ∧ e.f ≤ e.t ∧ e.t ≤ n
  | _, [], _, _, h => absurd h List.not_mem_nil
  | p, x :: l, h, e, he => by
    obtain ⟨a, b, h1, h2, h3, h4, h5, h6⟩ := h
    rcases List.mem_cons.1 he with rfl | he
    · omega
    · exact ris_mem h6 e he
theorem ris_drop {n : Nat} : ∀ {p : Nat} {l : List E3} (k : Nat), ERis n p l → ∃ q, ERis n q (l.drop k)
  | p, l, 0, h => ⟨p, h⟩
  | p, [], k + 1, _ => ⟨0, trivial⟩
  | p, x :: l, k + 1, h => by
    obtain ⟨a, b, h1, h2, h3, h4, h5, h6⟩ := h
    exact ris_drop k h6
theorem eth_mem {l : List E3} {k : Nat} (h : k < l.length) : eth l k ∈ l := by
  have : eth l k = l[k] := by simp [eth, List.getD, h]
  rw [this]; exact List.getElem_mem h
theorem egrow_take {l : List E3} {j : Nat} (h : j < l.length) : egrow (l.take (j + 1)) = egrow (l.take j) + egro (eth l j) := by
  rw [eth_take h]; simp [egrow]
theorem egrow_bd {K : Int} (hK : 0 ≤ K) : ∀ {l : List E3}, (∀ e ∈ l, -K ≤ egro e ∧ egro e ≤ K) → -(K * l.length) ≤ egrow l ∧ egrow l ≤ K * l.length
  | [], _ => by simp [egrow]
  | x :: l, h => by
    have ih := egrow_bd hK (fun e he => h e (List.mem_cons_of_mem _ he))
    have hx := h x (List.mem_cons_self ..)
    rw [egrow_cons, List.length_cons, show ((l.length + 1 : Nat) : Int) = (l.length : Int) + 1 from by omega, Int.mul_add, Int.mul_one]
    omega
theorem egro_bd {n p : Nat} {l : List E3} (h : ERis n p l) (hn : n ≤ 100000) (hs : ∀ e ∈ l, e.x.size ≤ 1000000000) : ∀ e ∈ l, -2000000000 ≤ egro e ∧ egro e ≤ 2000000000 := fun e he => by
  have h1 := ris_mem h e he
  have h2 := dec_len e.x
  have h3 := hs e he
  unfold egro
  omega
theorem egrow_small {n p : Nat} {l : List E3} (h : ERis n p l) (hn : n ≤ 100000) (hm : l.length ≤ 64) (hs : ∀ e ∈ l, e.x.size ≤ 1000000000) (j : Nat) : -128000000000 ≤ egrow (l.take j) ∧ egrow (l.take j) ≤ 128000000000 := by
  have h1 := egrow_bd (K := 2000000000) (by decide) (l := l.take j) (fun e he => egro_bd h hn hs e (List.mem_of_mem_take he))
  have h2 : (l.take j).length ≤ 64 := by rw [List.length_take]; omega
  omega
set_option maxHeartbeats 4000000 in
set_option maxRecDepth 100000 in
theorem bsize_any (n0 p0 : Nat) (A : Option Addr) (m c : Nat) (l : List E3) (w : World) (hA : EdsAt w A l) (hl : l.length = m) (hr : ERis n0 p0 l) (hn0 : n0 ≤ 100000) (hm : m ≤ 64) (hs : ∀ e ∈ l, e.x.size ≤ 1000000000) :
    Calls Try.prog 26 #[.slice A m c] w fun e w' => e = .returned (.int .i64 (egrow l)) ∧ Below w.heap.size w w' := by
  have hgb := fun j => egrow_small hr hn0 (by omega) hs j
  have hmb : ∀ j, j < l.length → (0 ≤ (eth l j).f ∧ (eth l j).f ≤ (eth l j).t ∧ (eth l j).t ≤ n0) ∧ (eth l j).x.size ≤ 1000000000 := fun j hj => ⟨ris_mem hr _ (eth_mem hj), hs _ (eth_mem hj)⟩
  have HGB := Lib.hid hgb
  have HMB := Lib.hid hmb
  have HA := Lib.hid hA
  have HL := Lib.hid hl
  clear hA hl hr hs hgb hmb
  obtain ⟨R, hR⟩ : ∃ R, R = egrow l := ⟨_, rfl⟩
  rw [← hR]
  have HR := Lib.hid hR; clear hR
  go_enter Try.func26, Try.ntmps26
  go_wp2_with fail
  go_loopg [3, 8] m (fun g z i wr => ∃ (j : Nat), i = .int .i64 j ∧ j ≤ m ∧ m - j ≤ g ∧ Below w.heap.size w wr ∧ Hid (z = .int .i64 (egrow (l.take j))))
  case atStart => exact ⟨0, rfl, by omega, by omega, Below.refl _ _, Lib.hid (by simp [egrow])⟩
  case round =>
    obtain ⟨j, rfl, h1, h2, hb, hz⟩ := hrel
    have hz := hz.out
    obtain ⟨zv, hzv⟩ : ∃ zv, zv = egrow (l.take j) := ⟨_, rfl⟩
    rw [← hzv] at hz
    subst hz
    have hzb := HGB.out j
    rw [← hzv] at hzb
    have HZ := Lib.hid hzv
    clear hzv
    by_cases hlt : j < m
    · have hjl : j < l.length := by rw [HL.out]; exact hlt
      obtain ⟨bA, off, rfl, hbA, d0, d1, d2⟩ := (HA.out.below hb).drop1 hjl
      obtain ⟨⟨m1, m2, m3⟩, m4⟩ := HMB.out j hjl
      have hst := Lib.hid (egrow_take hjl)
      have hzb2 := HGB.out (j + 1)
      have HEG : Hid (egro (eth l j) = ((dec (eth l j).x).length : Int) - ((eth l j).t - (eth l j).f)) := rfl
      generalize eth l j = x at *
      have hdl := dec_len x.x
      have CC := Lib.hid fun W => count_any x.x W (by omega)
      obtain ⟨cn, hcn⟩ : ∃ cn : Int, cn = ((dec x.x).length : Int) := ⟨_, rfl⟩
      rw [← hcn] at CC
      have HEG2 : Hid (egro x = cn - (x.t - x.f)) := Lib.hid (by rw [hcn]; exact HEG.out)
      have hcn0 : 0 ≤ cn ∧ cn ≤ 1000000000 := by omega
      clear hcn HEG
      obtain ⟨hcn1, hcn2⟩ := hcn0
      obtain ⟨hzb3, hzb4⟩ := hzb
      have i1 : (0 : Int) ≤ j := by omega
      have i2 : (j : Int) < m := by omega
      have x3 : Below wr.heap.size wr (wr.alloc (.cells #[.int .i64 x.f, .int .i64 x.t, .string x.x] 43)) := (Below.refl _ _).alloc (Nat.le_refl _) _
      have R3 : RawAt 43 (wr.alloc (.cells #[.int .i64 x.f, .int .i64 x.t, .string x.x] 43)) wr.heap.size #[.int .i64 x.f, .int .i64 x.t, .string x.x] := heap_alloc_new wr _
      have HR3 := Lib.hid R3
      have a3 := hb.trans (x3.mono hb.size)
      obtain ⟨sb, hsb⟩ : ∃ sb, sb = wr.heap.size := ⟨_, rfl⟩
      rw [← hsb] at HR3
      have HSB := Lib.hid hsb
      clear hsb R3 hzb2
      have w1 : IntKind.i64.wrap (x.t - x.f) = x.t - x.f := IntWalk.i64_in _ (by omega)
      have w2 : IntKind.i64.wrap (cn - (x.t - x.f)) = cn - (x.t - x.f) := IntWalk.i64_in _ (by omega)
      have w3 : IntKind.i64.wrap (zv + (cn - (x.t - x.f))) = zv + (cn - (x.t - x.f)) := IntWalk.i64_in _ (by omega)
      clear hdl
      go_wp2_with fail
      rw [← HSB.out]
      generalize wr.alloc (.cells #[.int .i64 x.f, .int .i64 x.t, .string x.x] 43) = W3 at *
      have MK : Hid (∀ W : World, Below W3.heap.size W3 W → (fun W => W.cell? ⟨sb, 0, none⟩ = some (.int .i64 x.f) ∧ W.cell? ⟨sb, 1, none⟩ = some (.int .i64 x.t) ∧ W.cell? ⟨sb, 2, none⟩ = some (.string x.x) ∧ Below W3.heap.size W3 W) W) := fun W hW => ⟨RawAt.cell (RawAt.below HR3.out hW (RawAt.lt HR3.out)) 0, RawAt.cell (RawAt.below HR3.out hW (RawAt.lt HR3.out)) 1, RawAt.cell (RawAt.below HR3.out hW (RawAt.lt HR3.out)) 2, hW⟩
      have hW2 : Below W3.heap.size W3 W3.drew := (Below.refl _ _).drew
      refine wp_region_noPanic ?_
      refine wp_region_held_drew (S := (fun W => W.cell? ⟨sb, 0, none⟩ = some (.int .i64 x.f) ∧ W.cell? ⟨sb, 1, none⟩ = some (.int .i64 x.t) ∧ W.cell? ⟨sb, 2, none⟩ = some (.string x.x) ∧ Below W3.heap.size W3 W)) (by kernel_rfl) (MK.out _ hW2) (fun hHeld => ?_)
      refine wpAnyH_take (i := 0) (v := ?_) rfl (by kernel_rfl) (by kernel_rfl) (by kernel_rfl) (fun _ _ _ h => h) (Or.inl ⟨by rfl, ?_⟩) hHeld ?_
      rotate_left
      · intro w hSw
        (try dsimp only at hSw)
        go_simp
        try with_reducible rfl
      go_simp
      refine wpAnyH_take (i := 1) (v := ?_) rfl (by kernel_rfl) (by kernel_rfl) (by kernel_rfl) (fun _ _ _ h => h) (Or.inl ⟨by rfl, ?_⟩) hHeld ?_
      rotate_left
      · intro w hSw
        (try dsimp only at hSw)
        go_simp
        try with_reducible rfl
      go_simp
      refine wpAnyH_take (i := 2) (v := ?_) rfl (by kernel_rfl) (by kernel_rfl) (by kernel_rfl) (fun _ _ _ h => h) (Or.inl ⟨by rfl, ?_⟩) hHeld ?_
      rotate_left
      · intro w hSw
        (try dsimp only at hSw)
        go_simp
        try with_reducible rfl
      go_simp
      refine wpAnyH_take (i := 4) (v := ?_) rfl (by kernel_rfl) (by kernel_rfl) (by kernel_rfl) (fun _ _ _ h => h) (Or.inl ⟨by rfl, ?_⟩) hHeld ?_
      rotate_left
      · intro w hSw
        (try dsimp only at hSw)
        go_simp
        try with_reducible rfl
      go_simp
      refine wpAnyH_take (i := 5) (v := ?_) rfl (by kernel_rfl) (by kernel_rfl) (by kernel_rfl) (fun _ _ _ h => h) (Or.inl ⟨by rfl, ?_⟩) hHeld ?_
      rotate_left
      · intro w hSw
        (try dsimp only at hSw)
        go_simp
        try with_reducible rfl
      go_simp
      refine wpAnyH_take (i := 6) (v := ?_) rfl (by kernel_rfl) (by kernel_rfl) (by kernel_rfl) (fun _ _ _ h => h) (Or.inl ⟨by rfl, ?_⟩) hHeld ?_
      rotate_left
      · intro w hSw
        (try dsimp only at hSw)
        go_simp
        try with_reducible rfl
      go_simp
      refine wpAnyH_take (i := 7) (v := ?_) rfl (by kernel_rfl) (by kernel_rfl) (by kernel_rfl) (fun _ _ _ h => h) (Or.inl ⟨by rfl, ?_⟩) hHeld ?_
      rotate_left
      · intro w hSw
        (try dsimp only at hSw)
        go_simp
        try with_reducible rfl
      go_simp
      refine wpAnyH_take (i := 8) (v := ?_) rfl (by kernel_rfl) (by kernel_rfl) (by kernel_rfl) (fun _ _ _ h => h) (Or.inl ⟨by rfl, ?_⟩) hHeld ?_
      rotate_left
      · intro w hSw
        (try dsimp only at hSw)
        go_simp
        try with_reducible rfl
      go_simp
      refine wpAnyH_ready (rs := [3]) (by kernel_rfl) (by simp) ?_
      refine AllReadyH.cons rfl (fun K hK => ?_) ?_
      rotate_left
      · exact AllReadyH.nil
      go_simp
      go_wp2_with (first | (go_at_call 37; ((with_reducible refine (CC.out _).mono ?_); rintro e w8 ⟨rfl, hb8⟩); have hW2 := hW2.trans (hb8.mono hW2.size)))
      refine hK.out _ _ (MK.out _ hW2) (fun hHeld => ?_)
      clear hK K
      go_simp
      refine wpAnyH_take (i := 9) (v := ?_) rfl (by kernel_rfl) (by kernel_rfl) (by kernel_rfl) (fun _ _ _ h => h) (Or.inl ⟨by rfl, ?_⟩) hHeld ?_
      rotate_left
      · intro w hSw
        (try dsimp only at hSw)
        go_simp
        try with_reducible rfl
      go_simp
      refine wpAnyH_take (i := 10) (v := ?_) rfl (by kernel_rfl) (by kernel_rfl) (by kernel_rfl) (fun _ _ _ h => h) (Or.inl ⟨by rfl, ?_⟩) hHeld ?_
      rotate_left
      · intro w hSw
        (try dsimp only at hSw)
        go_simp
        try with_reducible rfl
      go_simp
      refine wpAnyH_take (i := 11) (v := ?_) rfl (by kernel_rfl) (by kernel_rfl) (by kernel_rfl) (fun _ _ _ h => h) (Or.inl ⟨by rfl, ?_⟩) hHeld ?_
      rotate_left
      · intro w hSw
        (try dsimp only at hSw)
        go_simp
        try with_reducible rfl
      go_simp
      refine wpAnyH_done (by kernel_rfl) ?_ _
      refine NoPanic.normal ?_
      go_wp2
      go_roundg (gk - 1)
      case measure => omega
      case rel => exact ⟨j + 1, by go_num, by omega, by omega, a3.trans (hW2.mono a3.size), Lib.hid (by rw [hst.out, HEG2.out, ← HZ.out])⟩
    · have hj : j = m := by omega
      have hzz : zv = R := by rw [HZ.out, HR.out, List.take_of_length_le (by rw [HL.out]; omega)]
      subst hzz
      go_wp2
      go_ret
      exact ⟨rfl, hb⟩
/-- Why a batch can't be applied to a text of n runes. -/
def bflt (n : Int) (l : List E3) : Int := if bchk n l = 0 then (if 20000 < n + egrow l then 5 else 0) else bchk n l
section
variable {p : Option Addr} {ps : List (List Int)} {h : Nat} {w : World}
set_option maxHeartbeats 4000000 in
set_option maxRecDepth 100000 in
theorem bfault_any (hr : RP w p ps h) (A : Option Addr) (m c : Nat) (l : List E3) (hA : EdsAt w A l) (hl : l.length = m) (hs : ∀ e ∈ l, e.x.size ≤ 1000000000) :
    Calls Try.prog 28 #[.pointer p, .slice A m c] w fun e w' => e = .returned (.int .i64 (bflt ps.flatten.length l)) ∧ Below w.heap.size w w' := by
  have hmost := hr.1.most
  have CR := Lib.hid fun (W : World) (hW : Below w.heap.size w W) => rrunes_any (hr.below hW)
  have CK := Lib.hid fun (W : World) (hW : Below w.heap.size w W) => btCheck_any (ps.flatten.length : Int) A m c l W (hA.below hW) hl
  have CZ := Lib.hid fun (W : World) (hW : Below w.heap.size w W) (h1 : ERis ps.flatten.length 0 l) (h2 : m ≤ 64) => bsize_any ps.flatten.length 0 A m c l W (hA.below hW) hl h1 (by omega) h2 hs
  have HB := Lib.hid (show bchk ps.flatten.length l = 0 → ERis ps.flatten.length 0 l ∧ m ≤ 64 ∧ -128000000000 ≤ egrow l ∧ egrow l ≤ 128000000000 from fun h => by
    unfold bchk at h
    split at h
    · exact absurd h (by decide)
    · have h1 := (echk_ris (n := ps.flatten.length) (p := 0) (l := l)).1 h
      have h2 := egrow_small h1 (by omega) (by omega) hs l.length
      rw [List.take_of_length_le (Nat.le_refl _)] at h2
      exact ⟨h1, by omega, h2⟩)
  have HDef := Lib.hid (show bflt ps.flatten.length l = if bchk ps.flatten.length l = 0 then (if 20000 < (ps.flatten.length : Int) + egrow l then 5 else 0) else bchk ps.flatten.length l from rfl)
  clear hr hA hl hs
  obtain ⟨R, hR⟩ : ∃ R, R = bflt ps.flatten.length l := ⟨_, rfl⟩
  rw [← hR]
  rw [← hR] at HDef
  clear hR
  have hn0 : (0 : Int) ≤ (ps.flatten.length : Int) := by omega
  have hn1 : (ps.flatten.length : Int) ≤ 20000 := by omega
  clear hmost
  generalize hbc : bchk ps.flatten.length l = bc at *
  clear hbc
  generalize hgr : egrow l = gr at *
  clear hgr
  have CZ2 := Lib.hid fun (W : World) (hW : Below w.heap.size w W) (h : bc = 0) => CZ.out W hW (HB.out h).1 (HB.out h).2.1
  have HB2 := Lib.hid fun (h : bc = 0) => (HB.out h).2.2
  clear CZ HB
  generalize (ps.flatten.length : Int) = N at *
  go_enter Try.func28, Try.ntmps28
  go_wp2_with fail
  refine (CR.out _ (Below.refl _ _)).mono ?_
  rintro e w1 ⟨rfl, hb1⟩
  go_wp2_with fail
  refine (CK.out _ hb1).mono ?_
  rintro e w2 ⟨rfl, hb2⟩
  have a2 := hb1.trans (hb2.mono hb1.size)
  by_cases h0 : bc = 0
  · have CZ3 := Lib.hid fun (W : World) (hW : Below w.heap.size w W) => CZ2.out W hW h0
    obtain ⟨g1, g2⟩ := HB2.out h0
    have hd := HDef.out
    rw [if_pos h0] at hd
    have hw : IntKind.i64.wrap (N + gr) = N + gr := IntWalk.i64_in _ (by omega)
    have HD2 := Lib.hid hd
    subst h0
    clear CZ2 HB2 HDef hd
    go_wp2_with fail
    refine (CR.out _ a2).mono ?_
    rintro e w3 ⟨rfl, hb3⟩
    have a3 := a2.trans (hb3.mono a2.size)
    go_wp2_with fail
    refine (CZ3.out _ a3).mono ?_
    rintro e w4 ⟨rfl, hb4⟩
    have a4 := a3.trans (hb4.mono a3.size)
    by_cases hf : 20000 < N + gr
    · have hd := HD2.out
      rw [if_pos hf] at hd
      subst hd
      go_wp2
      go_ret
      exact ⟨rfl, a4⟩
    · have hd := HD2.out
      rw [if_neg hf] at hd
      subst hd
      go_wp2
      go_ret
      exact ⟨rfl, a4⟩
  · have hd := HDef.out
    rw [if_neg h0] at hd
    subst hd
    have hbe : (R == 0) = false := by simpa using h0
    clear CZ2 HB2 HDef h0
    go_wp2
    go_ret
    exact ⟨rfl, a2⟩
set_option maxHeartbeats 4000000 in
set_option maxRecDepth 100000 in
theorem breach_nil (c : Nat) (A : Option Addr) (w : World) :
    Calls Try.prog 29 #[.slice A 0 c] w fun e w' => e = .returned (.agg #[.int .i64 0, .int .i64 0]) ∧ Below w.heap.size w w' := by
  have x1 : Below w.heap.size w (w.alloc (.cells #[.int .i64 0, .int .i64 0] 50)) := (Below.refl _ _).alloc (Nat.le_refl _) _
  have R0 : RawAt 50 (w.alloc (.cells #[.int .i64 0, .int .i64 0] 50)) w.heap.size #[.int .i64 0, .int .i64 0] := heap_alloc_new w _
  have f0 := RawAt.free R0 0
  have f1 := RawAt.free R0 1
  have p0 := RawAt.cell R0 0
  have p1 := RawAt.cell R0 1
  simp at p0 p1
  clear R0
  go_enter Try.func29, Try.ntmps29
  go_wp2
  refine bodyPost_ret (v := .agg #[.int .i64 0, .int .i64 0]) (by simp [results, Try.results29, go_sem]) rfl ⟨rfl, ?_⟩
  (repeat' (first | (with_reducible exact x1) | (with_reducible refine Below.setCell ?_ ?_ _) | (with_reducible refine Below.drew ?_))) <;> (simp; done)
set_option maxHeartbeats 4000000 in
set_option maxRecDepth 100000 in
theorem bcutter_any (_hr : RP w p ps h) : Calls Try.prog 30 #[.pointer p] w fun e w' => ∃ pb, e = .returned (.func (.func 53) #[] #[.pointer (some ⟨pb, 0, none⟩)]) ∧ RawAt 23 w' pb #[.pointer p] ∧ Below w.heap.size w w' := by
  have hmf : ∀ (fn : Fn) (first cap : Array Value) (w : World), (Instr.makeFunc fn first cap).run Try.prog w = .ok (.func fn first cap) w := fun _ _ _ _ => rfl
  have x1 : Below w.heap.size w (w.alloc (.cells #[.pointer p] 23)) := (Below.refl _ _).alloc (Nat.le_refl _) _
  have R0 := Lib.hid (show RawAt 23 (w.alloc (.cells #[.pointer p] 23)) w.heap.size #[.pointer p] from heap_alloc_new w _)
  go_enter Try.func30, Try.ntmps30
  go_wp2
  go_ret
  exact ⟨w.heap.size, rfl, R0.out, x1⟩
set_option maxHeartbeats 4000000 in
set_option maxRecDepth 100000 in
theorem bcut_any (hr : RP w p ps h) (pb : Nat) (hp : RawAt 23 w pb #[.pointer p]) (x y : Nat) (hxy : x ≤ y) (hy : y ≤ ps.flatten.length) :
    Calls Try.prog 53 #[.int .i64 x, .int .i64 y, .pointer (some ⟨pb, 0, none⟩)] w fun e w' => e = .returned (.string (txt ((ps.flatten.take y).drop x))) ∧ Below w.heap.size w w' := by
  have CS := Lib.hid (rslice_any hr x y hxy hy)
  have e0 := RawAt.cell hp 0
  simp at e0
  clear hr hp
  generalize txt ((ps.flatten.take y).drop x) = tl at *
  go_enter Try.func53, Try.ntmps53
  go_wp2_with fail
  refine CS.out.mono ?_
  rintro e w1 ⟨rfl, hb1⟩
  go_wp2
  go_ret
  exact ⟨rfl, hb1⟩
end
set_option maxHeartbeats 4000000 in
set_option maxRecDepth 100000 in
theorem breach_any (A : Option Addr) (m c : Nat) (l : List E3) (w : World) (hA : EdsAt w A l) (hl : l.length = m) (hp : 0 < m) (hm : m ≤ 64) :
    Calls Try.prog 29 #[.slice A m c] w fun e w' => e = .returned (.agg #[.int .i64 (eth l 0).f, .int .i64 (eth l (m - 1)).t]) ∧ Below w.heap.size w w' := by
  obtain ⟨k, rfl⟩ : ∃ k, m = k + 1 := ⟨m - 1, by omega⟩
  rw [Nat.add_sub_cancel]
  obtain ⟨bA, off, rfl, hbA, hcell⟩ := hA (by omega)
  have d0 := (hcell 0 (by omega)).1
  have d1 := (hcell k (by omega)).2.1
  rw [Nat.zero_mul, Nat.add_zero] at d0
  clear hcell hA hl
  generalize (eth l 0).f = f at *
  generalize (eth l k).t = t at *
  have x1 : Below w.heap.size w (w.alloc (.cells #[.int .i64 0, .int .i64 0] 50)) := (Below.refl _ _).alloc (Nat.le_refl _) _
  have R0 : RawAt 50 (w.alloc (.cells #[.int .i64 0, .int .i64 0] 50)) w.heap.size #[.int .i64 0, .int .i64 0] := heap_alloc_new w _
  have HR0 := Lib.hid R0
  clear R0
  have MK : Hid (∀ W : World, Below w.heap.size w W → (fun W => W.cell? ⟨bA, off, none⟩ = some (.int .i64 f) ∧ W.cell? ⟨bA, off + k * 3 + 1, none⟩ = some (.int .i64 t) ∧ Below w.heap.size w W) W) := fun W hW => ⟨((old_cells hW).1 _ _ hbA).trans d0, ((old_cells hW).1 _ _ hbA).trans d1, hW⟩
  have hw : IntKind.i64.wrap (((k + 1 : Nat) : Int) - 1) = (k : Int) := by rw [show ((k + 1 : Nat) : Int) - 1 = (k : Int) from by omega]; exact IntWalk.i64_in _ (by omega)
  have hw' : IntKind.i64.wrap ((k : Int) + 1 - 1) = (k : Int) := by rw [show (k : Int) + 1 - 1 = (k : Int) from by omega]; exact IntWalk.i64_in _ (by omega)
  have hw'' : IntKind.i64.wrap (k : Int) = (k : Int) := IntWalk.i64_in _ (by omega)
  have i0 : (0 : Int) < (k : Int) + 1 := by omega
  have i1 : (k : Int) < (k : Int) + 1 := by omega
  have i2 : (0 : Int) ≤ (k : Int) := by omega
  have i3 : ((k : Int) + 1 == 0) = false := by simp; omega
  go_enter Try.func29, Try.ntmps29
  go_wp2_with fail
  generalize w.alloc (.cells #[.int .i64 0, .int .i64 0] 50) = W1 at *
  have hW2 : Below w.heap.size w W1.drew := x1.drew
  have HF : Hid (RawAt 50 W1.drew w.heap.size #[.int .i64 0, .int .i64 0]) := HR0
  have f0 := RawAt.free HR0.out 0
  have f1 := RawAt.free HR0.out 1
  have p0 := RawAt.cell HR0.out 0
  have p1 := RawAt.cell HR0.out 1
  simp at p0 p1
  refine wp_region_noPanic ?_
  refine wp_region_held_drew (S := (fun W => W.cell? ⟨bA, off, none⟩ = some (.int .i64 f) ∧ W.cell? ⟨bA, off + k * 3 + 1, none⟩ = some (.int .i64 t) ∧ Below w.heap.size w W)) (by kernel_rfl) (MK.out _ hW2) (fun hHeld => ?_)
  refine wpAnyH_take (i := 0) (v := ?_) rfl (by kernel_rfl) (by kernel_rfl) (by kernel_rfl) (fun _ _ _ h => h) (Or.inl ⟨by rfl, ?_⟩) hHeld ?_
  rotate_left
  · intro w hSw
    (try dsimp only at hSw)
    go_simp
    try with_reducible rfl
  go_simp
  refine wpAnyH_take (i := 1) (v := ?_) rfl (by kernel_rfl) (by kernel_rfl) (by kernel_rfl) (fun _ _ _ h => h) (Or.inl ⟨by rfl, ?_⟩) hHeld ?_
  rotate_left
  · intro w hSw
    (try dsimp only at hSw)
    go_simp
    try with_reducible rfl
  go_simp
  refine wpAnyH_take (i := 2) (v := ?_) rfl (by kernel_rfl) (by kernel_rfl) (by kernel_rfl) (fun _ _ _ h => h) (Or.inl ⟨by rfl, ?_⟩) hHeld ?_
  rotate_left
  · intro w hSw
    (try dsimp only at hSw)
    go_simp
    try with_reducible rfl
  go_simp
  refine wpAnyH_take (i := 3) (v := ?_) rfl (by kernel_rfl) (by kernel_rfl) (by kernel_rfl) (fun _ _ _ h => h) (Or.inl ⟨by rfl, ?_⟩) hHeld ?_
  rotate_left
  · intro w hSw
    (try dsimp only at hSw)
    go_simp
    try with_reducible rfl
  go_simp
  refine wpAnyH_take (i := 4) (v := ?_) rfl (by kernel_rfl) (by kernel_rfl) (by kernel_rfl) (fun _ _ _ h => h) (Or.inl ⟨by rfl, ?_⟩) hHeld ?_
  rotate_left
  · intro w hSw
    (try dsimp only at hSw)
    go_simp
    try with_reducible rfl
  go_simp
  refine wpAnyH_take (i := 5) (v := ?_) rfl (by kernel_rfl) (by kernel_rfl) (by kernel_rfl) (fun _ _ _ h => h) (Or.inl ⟨by rfl, ?_⟩) hHeld ?_
  rotate_left
  · intro w hSw
    (try dsimp only at hSw)
    go_simp
    try with_reducible rfl
  go_simp
  refine wpAnyH_take (i := 6) (v := ?_) rfl (by kernel_rfl) (by kernel_rfl) (by kernel_rfl) (fun _ _ _ h => h) (Or.inl ⟨by rfl, ?_⟩) hHeld ?_
  rotate_left
  · intro w hSw
    (try dsimp only at hSw)
    go_simp
    try with_reducible rfl
  go_simp
  refine wpAnyH_take (i := 7) (v := ?_) rfl (by kernel_rfl) (by kernel_rfl) (by kernel_rfl) (fun _ _ _ h => h) (Or.inl ⟨by rfl, ?_⟩) hHeld ?_
  rotate_left
  · intro w hSw
    (try dsimp only at hSw)
    go_simp
    try with_reducible rfl
  go_simp
  refine wpAnyH_take (i := 8) (v := ?_) rfl (by kernel_rfl) (by kernel_rfl) (by kernel_rfl) (fun _ _ _ h => h) (Or.inl ⟨by rfl, ?_⟩) hHeld ?_
  rotate_left
  · intro w hSw
    (try dsimp only at hSw)
    go_simp
    try with_reducible rfl
  go_simp
  refine wpAnyH_take (i := 9) (v := ?_) rfl (by kernel_rfl) (by kernel_rfl) (by kernel_rfl) (fun _ _ _ h => h) (Or.inl ⟨by rfl, ?_⟩) hHeld ?_
  rotate_left
  · intro w hSw
    (try dsimp only at hSw)
    go_simp
    try with_reducible rfl
  go_simp
  refine wpAnyH_take (i := 10) (v := ?_) rfl (by kernel_rfl) (by kernel_rfl) (by kernel_rfl) (fun _ _ _ h => h) (Or.inl ⟨by rfl, ?_⟩) hHeld ?_
  rotate_left
  · intro w hSw
    (try dsimp only at hSw)
    go_simp
    try with_reducible rfl
  go_simp
  refine wpAnyH_take (i := 11) (v := ?_) rfl (by kernel_rfl) (by kernel_rfl) (by kernel_rfl) (fun _ _ _ h => h) (Or.inl ⟨by rfl, ?_⟩) hHeld ?_
  rotate_left
  · intro w hSw
    (try dsimp only at hSw)
    go_simp
    try with_reducible rfl
  go_simp
  refine wpAnyH_ready (rs := [12]) (by kernel_rfl) (by simp) ?_
  refine AllReadyH.cons rfl (fun K hK => ?_) ?_
  rotate_left
  · exact AllReadyH.nil
  go_simp
  go_wp2_with (fail)
  refine hK.out _ _ (MK.out _ ((hW2.setCell (p := ⟨w.heap.size, 0, none⟩) (by simp) _).setCell (p := ⟨w.heap.size, 1, none⟩) (by simp) _)) (fun hHeld => ?_)
  clear hK K
  go_simp
  refine wpAnyH_done (by kernel_rfl) ?_ _
  refine NoPanic.normal ?_
  clear p0 p1
  have hR4 := RawAt.set_ (RawAt.set_ HR0.out 0 (.int .i64 f)) 1 (.int .i64 t)
  have p0 := (RawAt.cell hR4 0).trans (show _ = some (Value.int .i64 f) from rfl)
  have p1 := (RawAt.cell hR4 1).trans (show _ = some (Value.int .i64 t) from rfl)
  go_wp2
  refine bodyPost_ret (v := .agg #[.int .i64 f, .int .i64 t]) (by simp [results, Try.results29, go_sem, p0, p1]) rfl ⟨rfl, ?_⟩
  (repeat' (first | (with_reducible exact x1) | (with_reducible refine Below.setCell ?_ ?_ _) | (with_reducible refine Below.drew ?_))) <;> (simp; done)
end Go.Proofs.Ytglalmhpgdgeeaa
