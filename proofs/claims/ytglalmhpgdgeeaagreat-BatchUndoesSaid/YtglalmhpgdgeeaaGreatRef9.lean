/- Batches: the document's answers: the contracts of bodkinref09.Apply and Invert. -/
import Derived.Test.YtglalmhpgdgeeaaGreatBatA
import Derived.Test.YtglalmhpgdgeeaaGreatEdq
import Derived.Test.YtglalmhpgdgeeaaGreatRDec
import Derived.Test.YtglalmhpgdgeeaaGreatBatC
namespace Go.Proofs.YtglalmhpgdgeeaaGreat
open Go.RowKit
theorem most_any (w : World) : Calls Tryz.prog 57 #[] w fun e w' => e = .returned (.int .i64 20000) ∧ w' = w := by
  go_enter Tryz.func57, Tryz.ntmps57
  go_wp2
  go_ret
  exact ⟨rfl, rfl⟩
/-- What the document tells of a batch that is applied. -/
def refE (n : Int) (l : List E3) : Int := if bchk n l = 0 then (if 20000 < n + egrow l then 5 else 0) else bchk n l
theorem refE_flt (n : Int) (l : List E3) : refE n l = bflt n l := rfl
set_option maxHeartbeats 8000000 in
set_option maxRecDepth 100000 in
theorem rfApply_no (A B : Option Addr) (n c m d : Nat) (l : List E3) (w : World) (hB : EdsAt w B l) (hl : l.length = m) (hne : bchk n l ≠ 0) :
    Calls Tryz.prog 28 #[.slice A n c, .slice B m d] w fun e w' => e = .returned (.tuple #[.slice none 0 0, .int .i64 (bchk n l)]) ∧ Below w.heap.size w w' := by
  have C1 := Lib.hid (rfCheck_any (n : Int) B m d l w hB hl)
  clear hB hl
  generalize bchk n l = R at *
  have hb : (R == 0) = false := by simpa using hne
  clear hne
  go_enter Tryz.func28, Tryz.ntmps28
  go_wp2_with fail
  refine C1.out.mono ?_
  rintro e w1 ⟨rfl, hb1⟩
  go_wp2
  refine bodyPost_ret (v := .tuple #[.slice none 0 0, .int .i64 R]) (by simp [results, Tryz.results28, go_sem]) rfl ⟨rfl, hb1⟩
set_option maxHeartbeats 8000000 in
set_option maxRecDepth 100000 in
theorem rfApply_yes (A B : Option Addr) (n c m d : Nat) (r : List Int) (l : List E3) (w : World) (hA : IntsAt .i32 w A r) (hr : r.length = n) (hc : Caps A n c) (hn : n ≤ 20000) (hB : EdsAt w B l) (hl : l.length = m) (hz : bchk n l = 0) (hs : tsum l ≤ 100000) :
    Calls Tryz.prog 28 #[.slice A n c, .slice B m d] w fun e w' => ∃ (A' : Option Addr) (n' c' : Nat) (o : Int), e = .returned (.tuple #[.slice A' n' c', .int .i64 o]) ∧ o = refE n l ∧ (o = 0 → n' = (eput r l).length ∧ IntsAt .i32 w' A' (eput r l) ∧ Caps A' n' c') ∧ Below w.heap.size w w' := by
  have hE : ERis n 0 l := by
    unfold bchk at hz
    split at hz
    · exact absurd hz (by decide)
    · exact (echk_ris (n := n) (p := 0) (l := l)).1 hz
  have hm64 : m ≤ 64 := by
    unfold bchk at hz
    split at hz
    · exact absurd hz (by decide)
    · omega
  have C1 := Lib.hid (by have := rfCheck_any (n : Int) B m d l w hB hl; rwa [hz] at this : Calls Tryz.prog 35 #[.int .i64 (n : Int), .slice B m d] w fun e w' => e = .returned (.int .i64 0) ∧ Below w.heap.size w w')
  have HRes := Lib.hid (show refE n l = if 20000 < (n : Int) + egrow l then 5 else 0 from by unfold refE; rw [if_pos hz])
  have HLen := Lib.hid (show ((eput r l).length : Int) = (n : Int) + egrow l from by have := eput_len (r := r) (p := 0) (l := l) (Nat.zero_le _) (by rw [hr]; exact hE); rw [hr] at this; exact this)
  have HSuf := Lib.hid (show ∀ k, ∃ q, ERis n q (l.drop k) from fun k => ris_drop k hE)
  have HPl := Lib.hid (show ∀ k, ((eput r (l.drop k)).length : Int) = (n : Int) + egrow (l.drop k) ∧ egrow (l.drop k) ≤ 100000 from fun k => by
    obtain ⟨q, hq⟩ := HSuf.out k
    have h1 := egrow_tsum dec_len hq
    have h2 := tsum_drop l k
    refine ⟨?_, by omega⟩
    cases hk : l.drop k with
    | nil => simp [eput, egrow, hr]
    | cons x t =>
      rw [hk] at hq
      obtain ⟨a, b, e1, e2, e3, e4, e5, e6⟩ := hq
      have := eput_len (r := r) (p := a) (l := x :: t) (by omega) (by rw [hr]; exact ⟨a, b, e1, e2, Nat.le_refl _, e4, e5, e6⟩)
      rw [this, hr])
  have HAt := Lib.hid fun (j : Nat) (hj : j < l.length) => ris_at hE hj
  have HTs := Lib.hid fun (j : Nat) (hj : j < l.length) => (by have := tsum_mem (eth_mem hj); omega : (eth l j).x.size ≤ 100000)
  have HPlace := Lib.hid (show ∀ j, j < l.length → (eth l j).t.toNat ≤ (eput r (l.drop (j + 1))).length from fun j hj => by
    obtain ⟨a, b, k1, k2, k3, k4, k5⟩ := HAt.out j hj
    rw [k2, Int.toNat_natCast]
    obtain ⟨q, hq⟩ := HSuf.out j
    rw [eth_drop hj] at hq
    obtain ⟨a', b', e1, e2, e3, e4, e5, e6⟩ := hq
    obtain rfl : b = b' := by omega
    rw [eput_mid (r := r) (p := b) (by omega) (by rw [hr]; exact e6)]
    simp only [List.length_append, List.length_take]
    omega)
  have HA := Lib.hid hA
  have HB := Lib.hid hB
  have HL := Lib.hid hl
  have HC := Lib.hid hc
  have HR := Lib.hid hr
  clear hA hB hl hc hr hE hz hs HSuf
  generalize refE n l = R at *
  go_enter Tryz.func28, Tryz.ntmps28
  go_wp2_with fail
  refine C1.out.mono ?_
  rintro e w1 ⟨rfl, hb1⟩
  have hA1 := Lib.hid (HA.out.below hb1)
  have z1 : Below w1.heap.size w1 w1 := Below.refl _ _
  have hwm : IntKind.i64.wrap ((m : Int) - 1) = (m : Int) - 1 := IntWalk.i64_in _ (by omega)
  go_wp2_with (at_builtin; refine wpList_append_ints rfl (.tmp 16) (.tmp 17) rfl w1.heap.size _ 0 [] rfl (World.ownsRow_nil _ _ _ _) A n c r rfl hA1.out HC.out HR.out (by omega) (by omega) ?_; intro v4 w4 hown4 hg4; have b4 := z1.grown hg4 (Nat.le_refl _) (fun k hk => by cases hk); obtain ⟨A4, c4, e4, hI4, hl4, hC4⟩ := IntsAt.of_own (l := r) (by simpa using hown4); have HI4 := Lib.hid hI4; have HC4 := Lib.hid hC4; subst e4; clear hown4 hg4 hI4 hC4 hl4)
  have a4 := hb1.trans (b4.mono hb1.size)
  go_loopg [7, 8] (m + 1) (fun g o i wr => ∃ (k n4 c4 : Nat) (A4 : Option Addr), i = .int .i64 ((k : Int) - 1) ∧ k ≤ m ∧ k < g ∧ Below w.heap.size w wr ∧ o = .slice A4 n4 c4 ∧ Hid (n4 = (eput r (l.drop k)).length) ∧ Hid (IntsAt .i32 wr A4 (eput r (l.drop k))) ∧ Hid (Caps A4 n4 c4))
  case atStart =>
    have hd : l.drop m = [] := List.drop_of_length_le (by rw [HL.out]; exact Nat.le_refl _)
    exact ⟨m, n, c4, A4, by go_num, Nat.le_refl _, by omega, a4, by simp, Lib.hid (by rw [hd]; exact HR.out.symm), Lib.hid (by rw [hd]; exact HI4.out), Lib.hid (by simpa using HC4.out)⟩
  case round =>
    obtain ⟨k, n4, c4, A4, rfl, h1, h2, hb, rfl, hn4, hI, hC⟩ := hrel
    rcases Nat.eq_zero_or_pos k with rfl | hk
    · have e0 : ((0 : Nat) : Int) - 1 = -1 := rfl
      have hn5 : (n4 : Int) = (n : Int) + egrow l := by rw [hn4.out, List.drop_zero]; exact HLen.out
      have hn6 := HPl.out 0
      rw [← hn4.out] at hn6
      have hne := hn4.out
      rw [List.drop_zero] at hne hI
      by_cases hbig : 20000 < n4
      · have hR : R = 5 := by rw [HRes.out, if_pos (by omega)]
        subst hR
        have q1 : decide (20000 < n4) = true := decide_eq_true hbig
        clear hn5 hn6 HLen HRes hne
        go_wp2_with fail
        refine (most_any _).mono ?_
        rintro e w5 ⟨rfl, hw5⟩
        have hw5 := hw5.symm
        subst hw5
        go_wp2
        refine bodyPost_ret (v := .tuple #[.slice none 0 0, .int .i64 5]) (by simp [results, Tryz.results28, go_sem]) rfl ⟨none, 0, 0, 5, rfl, rfl, (fun h => absurd h (by decide)), hb⟩
      · have hR : R = 0 := by rw [HRes.out, if_neg (by omega)]
        subst hR
        have q1 : decide (20000 < n4) = false := decide_eq_false hbig
        have q2 : n4 ≤ 20000 := by omega
        have HNE := Lib.hid hne
        clear hn5 hn6 HLen HRes hne hn4
        go_wp2_with fail
        refine (most_any _).mono ?_
        rintro e w5 ⟨rfl, hw5⟩
        have hw5 := hw5.symm
        subst hw5
        go_wp2
        refine bodyPost_ret (v := .tuple #[.slice A4 n4 c4, .int .i64 0]) (by simp [results, Tryz.results28, go_sem]) rfl ⟨A4, n4, c4, 0, rfl, rfl, (fun _ => ⟨HNE.out, hI.out, hC.out⟩), hb⟩
    · obtain ⟨j, rfl⟩ : ∃ j, k = j + 1 := ⟨k - 1, by omega⟩
      have hjl : j < l.length := by rw [HL.out]; omega
      obtain ⟨a, b, k1, k2, k3, k4, k5⟩ := HAt.out j hjl
      have hpl := HPlace.out j hjl
      rw [k2, Int.toNat_natCast, ← hn4.out] at hpl
      obtain ⟨bA, off, rfl, hbA, d0, d1, d2⟩ := (HB.out.below hb).drop1 hjl
      rw [k1] at d0
      rw [k2] at d1
      have hxs := HTs.out j hjl
      have hnp := HPl.out (j + 1)
      rw [← hn4.out] at hnp
      have hdr : eput r (l.drop j) = (eput r (l.drop (j + 1))).take a ++ dec (eth l j).x ++ (eput r (l.drop (j + 1))).drop b := by
        have e : eput r (eth l j :: l.drop (j + 1)) = (eput r (l.drop (j + 1))).take (eth l j).f.toNat ++ dec (eth l j).x ++ (eput r (l.drop (j + 1))).drop (eth l j).t.toNat := rfl
        rw [eth_drop hjl, e, k1, k2, Int.toNat_natCast, Int.toNat_natCast]
      have HDR := Lib.hid hdr
      have HN4 := Lib.hid hn4.out
      clear hdr hn4 k1 k2
      generalize hxx : (eth l j).x = xx at *
      have hdl := dec_len xx
      have CD := Lib.hid fun W => rdecode_any xx W (by omega)
      have CP := Lib.hid fun (W : World) (hW : Below wr.heap.size wr W) (B2 : Option Addr) (d2 : Nat) (hB2 : IntsAt .i32 W B2 (dec xx)) (hC2 : Caps B2 (dec xx).length d2) => put_any A4 B2 n4 c4 (dec xx).length d2 (eput r (l.drop (j + 1))) (dec xx) a b W (hI.out.below hW) HN4.out.symm hC.out hB2 rfl hC2 (by omega) (by omega) k4 hpl
      have i0 : (0 : Int) ≤ (j : Int) := by omega
      have i1 : (j : Int) < (m : Int) := by rw [HL.out] at hjl; omega
      have e1 : ((j + 1 : Nat) : Int) - 1 = (j : Int) := by omega
      have hw1 : IntKind.i64.wrap ((j : Int) - 1) = (j : Int) - 1 := IntWalk.i64_in _ (by omega)
      have MK : Hid (∀ W : World, Below wr.heap.size wr W → (fun W => W.cell? ⟨bA, off + j * 3, none⟩ = some (.int .i64 (a : Int)) ∧ W.cell? ⟨bA, off + j * 3 + 1, none⟩ = some (.int .i64 (b : Int)) ∧ W.cell? ⟨bA, off + j * 3 + 2, none⟩ = some (.string xx) ∧ Below wr.heap.size wr W) W) := fun W hW => ⟨((old_cells hW).1 _ _ hbA).trans d0, ((old_cells hW).1 _ _ hbA).trans d1, ((old_cells hW).1 _ _ hbA).trans d2, hW⟩
      have hW2 : Below wr.heap.size wr wr.drew := (Below.refl _ _).drew
      rw [e1]
      clear d0 d1 d2 hxx hdl e1 hnp hxs
      go_wp2_with fail
      refine wp_region_noPanic ?_
      refine wp_region_held_drew (S := (fun W => W.cell? ⟨bA, off + j * 3, none⟩ = some (.int .i64 (a : Int)) ∧ W.cell? ⟨bA, off + j * 3 + 1, none⟩ = some (.int .i64 (b : Int)) ∧ W.cell? ⟨bA, off + j * 3 + 2, none⟩ = some (.string xx) ∧ Below wr.heap.size wr W)) (by kernel_rfl) (MK.out _ hW2) (fun hHeld => ?_)
      refine wpAnyH_take (i := 0) (v := ?_) rfl (by kernel_rfl) (by kernel_rfl) (by kernel_rfl) (fun _ _ _ h => h) (Or.inl ⟨by rfl, ?_⟩) hHeld ?_
      rotate_left
      · intro w hSw
        (try dsimp only at hSw)
        go_simp
        try with_reducible rfl
      go_simp
      refine wpAnyH_take (i := 1) (v := ?_) rfl (by kernel_rfl) (by kernel_rfl) (by kernel_rfl) (fun _ _ _ h => h) (Or.inl ⟨by rfl, ?_⟩) hHeld ?_
      rotate_left
      · intro w hSw
        (try dsimp only at hSw)
        go_simp
        try with_reducible rfl
      go_simp
      refine wpAnyH_take (i := 2) (v := ?_) rfl (by kernel_rfl) (by kernel_rfl) (by kernel_rfl) (fun _ _ _ h => h) (Or.inl ⟨by rfl, ?_⟩) hHeld ?_
      rotate_left
      · intro w hSw
        (try dsimp only at hSw)
        go_simp
        try with_reducible rfl
      go_simp
      refine wpAnyH_take (i := 3) (v := ?_) rfl (by kernel_rfl) (by kernel_rfl) (by kernel_rfl) (fun _ _ _ h => h) (Or.inl ⟨by rfl, ?_⟩) hHeld ?_
      rotate_left
      · intro w hSw
        (try dsimp only at hSw)
        go_simp
        try with_reducible rfl
      go_simp
      refine wpAnyH_take (i := 4) (v := ?_) rfl (by kernel_rfl) (by kernel_rfl) (by kernel_rfl) (fun _ _ _ h => h) (Or.inl ⟨by rfl, ?_⟩) hHeld ?_
      rotate_left
      · intro w hSw
        (try dsimp only at hSw)
        go_simp
        try with_reducible rfl
      go_simp
      refine wpAnyH_take (i := 5) (v := ?_) rfl (by kernel_rfl) (by kernel_rfl) (by kernel_rfl) (fun _ _ _ h => h) (Or.inl ⟨by rfl, ?_⟩) hHeld ?_
      rotate_left
      · intro w hSw
        (try dsimp only at hSw)
        go_simp
        try with_reducible rfl
      go_simp
      refine wpAnyH_take (i := 6) (v := ?_) rfl (by kernel_rfl) (by kernel_rfl) (by kernel_rfl) (fun _ _ _ h => h) (Or.inl ⟨by rfl, ?_⟩) hHeld ?_
      rotate_left
      · intro w hSw
        (try dsimp only at hSw)
        go_simp
        try with_reducible rfl
      go_simp
      refine wpAnyH_take (i := 7) (v := ?_) rfl (by kernel_rfl) (by kernel_rfl) (by kernel_rfl) (fun _ _ _ h => h) (Or.inl ⟨by rfl, ?_⟩) hHeld ?_
      rotate_left
      · intro w hSw
        (try dsimp only at hSw)
        go_simp
        try with_reducible rfl
      go_simp
      refine wpAnyH_take (i := 8) (v := ?_) rfl (by kernel_rfl) (by kernel_rfl) (by kernel_rfl) (fun _ _ _ h => h) (Or.inl ⟨by rfl, ?_⟩) hHeld ?_
      rotate_left
      · intro w hSw
        (try dsimp only at hSw)
        go_simp
        try with_reducible rfl
      go_simp
      refine wpAnyH_take (i := 9) (v := ?_) rfl (by kernel_rfl) (by kernel_rfl) (by kernel_rfl) (fun _ _ _ h => h) (Or.inl ⟨by rfl, ?_⟩) hHeld ?_
      rotate_left
      · intro w hSw
        (try dsimp only at hSw)
        go_simp
        try with_reducible rfl
      go_simp
      refine wpAnyH_take (i := 10) (v := ?_) rfl (by kernel_rfl) (by kernel_rfl) (by kernel_rfl) (fun _ _ _ h => h) (Or.inl ⟨by rfl, ?_⟩) hHeld ?_
      rotate_left
      · intro w hSw
        (try dsimp only at hSw)
        go_simp
        try with_reducible rfl
      go_simp
      refine wpAnyH_take (i := 11) (v := ?_) rfl (by kernel_rfl) (by kernel_rfl) (by kernel_rfl) (fun _ _ _ h => h) (Or.inl ⟨by rfl, ?_⟩) hHeld ?_
      rotate_left
      · intro w hSw
        (try dsimp only at hSw)
        go_simp
        try with_reducible rfl
      go_simp
      refine wpAnyH_take (i := 12) (v := ?_) rfl (by kernel_rfl) (by kernel_rfl) (by kernel_rfl) (fun _ _ _ h => h) (Or.inl ⟨by rfl, ?_⟩) hHeld ?_
      rotate_left
      · intro w hSw
        (try dsimp only at hSw)
        go_simp
        try with_reducible rfl
      go_simp
      refine wpAnyH_take (i := 13) (v := ?_) rfl (by kernel_rfl) (by kernel_rfl) (by kernel_rfl) (fun _ _ _ h => h) (Or.inl ⟨by rfl, ?_⟩) hHeld ?_
      rotate_left
      · intro w hSw
        (try dsimp only at hSw)
        go_simp
        try with_reducible rfl
      go_simp
      refine wpAnyH_take (i := 14) (v := ?_) rfl (by kernel_rfl) (by kernel_rfl) (by kernel_rfl) (fun _ _ _ h => h) (Or.inl ⟨by rfl, ?_⟩) hHeld ?_
      rotate_left
      · intro w hSw
        (try dsimp only at hSw)
        go_simp
        try with_reducible rfl
      go_simp
      refine wpAnyH_take (i := 15) (v := ?_) rfl (by kernel_rfl) (by kernel_rfl) (by kernel_rfl) (fun _ _ _ h => h) (Or.inl ⟨by rfl, ?_⟩) hHeld ?_
      rotate_left
      · intro w hSw
        (try dsimp only at hSw)
        go_simp
        try with_reducible rfl
      go_simp
      refine wpAnyH_take (i := 16) (v := ?_) rfl (by kernel_rfl) (by kernel_rfl) (by kernel_rfl) (fun _ _ _ h => h) (Or.inl ⟨by rfl, ?_⟩) hHeld ?_
      rotate_left
      · intro w hSw
        (try dsimp only at hSw)
        go_simp
        try with_reducible rfl
      go_simp
      refine wpAnyH_ready (rs := [17]) (by kernel_rfl) (by simp) ?_
      refine AllReadyH.cons rfl (fun K hK => ?_) ?_
      rotate_left
      · exact AllReadyH.nil
      go_simp
      go_wp2_with (first | (go_at_call 12; ((with_reducible refine (CD.out _).mono ?_); rintro e w5 ⟨A5, c5, rfl, hb5, hI5, hC5⟩); have HI5 := Lib.hid hI5; have HC5 := Lib.hid hC5; clear hI5 hC5; have hW2 := hW2.trans (hb5.mono hW2.size)) | (go_at_call 56; ((with_reducible refine (CP.out _ hW2 A5 c5 HI5.out HC5.out).mono ?_); rintro e w6 ⟨A6, c6, rfl, hI6, hC6, hb6⟩); have hW2 := hW2.trans (hb6.mono hW2.size)))
      refine hK.out _ _ (MK.out _ hW2) (fun hHeld => ?_)
      clear hK K
      go_simp
      refine wpAnyH_ready (rs := [18]) (by kernel_rfl) (by simp) ?_
      refine AllReadyH.cons rfl (fun K hK => ?_) ?_
      rotate_left
      · exact AllReadyH.nil
      go_simp
      go_wp2_with (first | (go_at_call 12; ((with_reducible refine (CD.out _).mono ?_); rintro e w5 ⟨A5, c5, rfl, hb5, hI5, hC5⟩); have HI5 := Lib.hid hI5; have HC5 := Lib.hid hC5; clear hI5 hC5; have hW2 := hW2.trans (hb5.mono hW2.size)) | (go_at_call 56; ((with_reducible refine (CP.out _ hW2 A5 c5 HI5.out HC5.out).mono ?_); rintro e w6 ⟨A6, c6, rfl, hI6, hC6, hb6⟩); have hW2 := hW2.trans (hb6.mono hW2.size)))
      refine hK.out _ _ (MK.out _ hW2) (fun hHeld => ?_)
      clear hK K
      go_simp
      refine wpAnyH_take (i := 19) (v := ?_) rfl (by kernel_rfl) (by kernel_rfl) (by kernel_rfl) (fun _ _ _ h => h) (Or.inl ⟨by rfl, ?_⟩) hHeld ?_
      rotate_left
      · intro w hSw
        (try dsimp only at hSw)
        go_simp
        try with_reducible rfl
      go_simp
      refine wpAnyH_done (by kernel_rfl) ?_ _
      refine NoPanic.normal ?_
      have HI6 := Lib.hid hI6
      have HC6 := Lib.hid hC6
      clear hI6 hC6 hHeld MK
      go_wp2
      go_roundg (gk - 1)
      case measure => omega
      case rel =>
        refine ⟨j, _, c6, A6, by go_num, by omega, by omega, hb.trans (hW2.mono hb.size), rfl, Lib.hid ?_, Lib.hid (by rw [HDR.out]; exact HI6.out), HC6⟩
        rw [HDR.out]
        simp only [List.length_append, List.length_take, List.length_drop]
        rw [← HN4.out]
        omega
end Go.Proofs.YtglalmhpgdgeeaaGreat
