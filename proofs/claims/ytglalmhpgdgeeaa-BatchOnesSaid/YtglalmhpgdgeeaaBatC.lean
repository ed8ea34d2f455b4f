/- Batches: the contract of Invert. -/
import Derived.Test.YtglalmhpgdgeeaaBatB
namespace Go.Proofs.Ytglalmhpgdgeeaa
open Go.RowKit
theorem edit_info : (Try.prog.info? 43).map (fun i => (i.zero, i.size, i.bytes)) = some (some (.agg #[.int .i64 0, .int .i64 0, .string ⟨#[]⟩]), 3, 32) := by kernel_rfl
section
variable {p : Option Addr} {ps : List (List Int)} {h : Nat} {w : World}
set_option maxHeartbeats 4000000 in
set_option maxRecDepth 100000 in
theorem binv_no (hr : RP w p ps h) (A : Option Addr) (m c : Nat) (l : List E3) (hA : EdsAt w A l) (hl : l.length = m) (hs : ∀ e ∈ l, e.x.size ≤ 1000000000) (hne : bflt ps.flatten.length l ≠ 0) :
    Calls Try.prog 25 #[.pointer p, .slice A m c] w fun e w' => e = .returned (.tuple #[.slice none 0 0, .int .i64 (bflt ps.flatten.length l)]) ∧ Below w.heap.size w w' := by
  have C1 := Lib.hid (bfault_any hr A m c l hA hl hs)
  clear hr hA hl hs
  generalize bflt ps.flatten.length l = R at *
  have hb : (R == 0) = false := by simpa using hne
  clear hne
  go_enter Try.func25, Try.ntmps25
  go_wp2_with fail
  refine C1.out.mono ?_
  rintro e w1 ⟨rfl, hb1⟩
  go_wp2
  refine bodyPost_ret (v := .tuple #[.slice none 0 0, .int .i64 R]) (by simp [results, Try.results25, go_sem]) rfl ⟨rfl, hb1⟩
set_option maxHeartbeats 8000000 in
set_option maxRecDepth 100000 in
theorem binv_yes (hr : RP w p ps h) (A : Option Addr) (m c : Nat) (l : List E3) (hA : EdsAt w A l) (hl : l.length = m) (hs : ∀ e ∈ l, e.x.size ≤ 1000000000) (hz : bflt ps.flatten.length l = 0) :
    Calls Try.prog 25 #[.pointer p, .slice A m c] w fun e w' => ∃ (A' : Option Addr) (c' : Nat), e = .returned (.tuple #[.slice A' m c', .int .i64 0]) ∧ EdsAt w' A' (einv ps.flatten 0 l) ∧ Caps A' m c' ∧ Below w.heap.size w w' := by
  have hmost := hr.1.most
  obtain ⟨hE, hm64, hfit⟩ := bflt_zero hz
  have hm : m ≤ 64 := by omega
  have C1 := Lib.hid (bfault_any hr A m c l hA hl hs)
  rw [hz] at C1
  have CC := Lib.hid fun (W : World) (hW : Below w.heap.size w W) => bcutter_any (hr.below hW)
  have HCut := Lib.hid fun (W : World) (hW : Below w.heap.size w W) (pb : Nat) (hp : RawAt 23 W pb #[.pointer p]) (x y : Nat) (hxy : x ≤ y) (hy : y ≤ ps.flatten.length) => bcut_any (hr.below hW) pb hp x y hxy hy
  have HAt := Lib.hid fun (j : Nat) (hj : j < l.length) => ris_at hE hj
  have HGB := Lib.hid fun j => egrow_small hE (by omega) hm64 hs j
  have HS := Lib.hid hs
  have HA := Lib.hid hA
  have HL := Lib.hid hl
  have HIL := Lib.hid (einv_len ps.flatten 0 l)
  obtain ⟨i0, hi0, hz0, hz1, hz2⟩ := info_parts edit_info
  clear hr hA hl hs hz hE hfit hm64
  go_enter Try.func25, Try.ntmps25
  go_wp2_with fail
  refine C1.out.mono ?_
  rintro e w1 ⟨rfl, hb1⟩
  go_wp2_with fail
  refine (CC.out _ hb1).mono ?_
  rintro e w3 ⟨pb, rfl, hpb, hb3⟩
  have a3 := hb1.trans (hb3.mono hb1.size)
  have HPB3 := Lib.hid hpb
  clear hpb C1 CC
  go_wp2_with fail
  go_loopg [8, 9, 24] m (fun g fu v i wr => ∃ (j : Nat), i = .int .i64 j ∧ j ≤ m ∧ m - j ≤ g ∧ Below w3.heap.size w3 wr ∧ Hid (fu = .int .i64 (egrow (l.take j))) ∧ Hid (wr.ownsRow w3.heap.size 43 3 v j (eflat ((einv ps.flatten 0 l).take j))))
  case atStart => exact ⟨0, rfl, by omega, by omega, Below.refl _ _, Lib.hid (by simp [egrow]), Lib.hid (World.ownsRow_nil _ _ _ _)⟩
  case round =>
    obtain ⟨j, rfl, h1, h2, hb, hfu, hown⟩ := hrel
    have hfu := hfu.out
    obtain ⟨fv, hfv⟩ : ∃ fv, fv = egrow (l.take j) := ⟨_, rfl⟩
    rw [← hfv] at hfu
    subst hfu
    have hfb := HGB.out j
    rw [← hfv] at hfb
    have HFV := Lib.hid hfv
    clear hfv
    have hlt4 := hown.out.lt
    have awr : Below w.heap.size w wr := a3.trans (hb.mono a3.size)
    have hszw := hb.size
    by_cases hlt : j < m
    · have hjl : j < l.length := by rw [HL.out]; exact hlt
      obtain ⟨a, b, k1, k2, k3, k4, k5⟩ := HAt.out j hjl
      obtain ⟨bA, off, rfl, hbA, d0, d1, d2⟩ := (HA.out.below awr).drop1 hjl
      rw [k1] at d0
      rw [k2] at d1
      have hxs := HS.out _ (eth_mem hjl)
      have hst := Lib.hid (egrow_take hjl)
      have hei := Lib.hid (einv_eth ps.flatten 0 l hjl)
      rw [k1, k2, Int.toNat_natCast, Int.toNat_natCast, ← HFV.out, Int.zero_add] at hei
      have heg : egro (eth l j) = ((dec (eth l j).x).length : Int) - ((b : Int) - (a : Int)) := by unfold egro; rw [k1, k2]
      have HEG := Lib.hid heg
      clear heg k1 k2
      generalize hxx : (eth l j).x = xx at *
      have hdl := dec_len xx
      have CCn := Lib.hid fun W => count_any xx W (by omega)
      obtain ⟨cn, hcn⟩ : ∃ cn : Int, cn = ((dec xx).length : Int) := ⟨_, rfl⟩
      rw [← hcn] at CCn HEG hei
      have hcn0 : 0 ≤ cn := by omega
      have hcn1 : cn ≤ 1000000000 := by omega
      obtain ⟨hfb1, hfb2⟩ := hfb
      have i1 : (0 : Int) ≤ j := by omega
      have i2 : (j : Int) < m := by omega
      have hw1 : IntKind.i64.wrap ((a : Int) + fv) = (a : Int) + fv := IntWalk.i64_in _ (by omega)
      have hw2 : IntKind.i64.wrap ((a : Int) + fv + cn) = (a : Int) + fv + cn := IntWalk.i64_in _ (by omega)
      have hw3 : IntKind.i64.wrap ((b : Int) - (a : Int)) = (b : Int) - (a : Int) := IntWalk.i64_in _ (by omega)
      have hw4 : IntKind.i64.wrap (cn - ((b : Int) - (a : Int))) = cn - ((b : Int) - (a : Int)) := IntWalk.i64_in _ (by omega)
      have hw5 : IntKind.i64.wrap (fv + (cn - ((b : Int) - (a : Int)))) = fv + (cn - ((b : Int) - (a : Int))) := IntWalk.i64_in _ (by omega)
      have x6 : Below wr.heap.size wr (wr.alloc (.cells #[.int .i64 (a : Int), .int .i64 (b : Int), .string xx] 43)) := (Below.refl _ _).alloc (Nat.le_refl _) _
      have R6 : RawAt 43 (wr.alloc (.cells #[.int .i64 (a : Int), .int .i64 (b : Int), .string xx] 43)) wr.heap.size #[.int .i64 (a : Int), .int .i64 (b : Int), .string xx] := heap_alloc_new wr _
      have HR6 := Lib.hid R6
      obtain ⟨xb, hxb⟩ : ∃ xb, xb = wr.heap.size := ⟨_, rfl⟩
      rw [← hxb] at HR6
      have HXB := Lib.hid hxb
      clear hcn hxx hdl hxb R6
      go_wp2_with fail
      rw [← HXB.out]
      generalize wr.alloc (.cells #[.int .i64 (a : Int), .int .i64 (b : Int), .string xx] 43) = W6 at *
      have MK : Hid (∀ W : World, Below W6.heap.size W6 W → (fun W => W.cell? ⟨xb, 0, none⟩ = some (.int .i64 (a : Int)) ∧ W.cell? ⟨xb, 2, none⟩ = some (.string xx) ∧ Below W6.heap.size W6 W) W) := fun W hW => ⟨RawAt.cell (RawAt.below HR6.out hW (RawAt.lt HR6.out)) 0, RawAt.cell (RawAt.below HR6.out hW (RawAt.lt HR6.out)) 2, hW⟩
      have hW2 : Below W6.heap.size W6 W6.drew := (Below.refl _ _).drew
      refine wp_region_noPanic ?_
      refine wp_region_held_drew (S := (fun W => W.cell? ⟨xb, 0, none⟩ = some (.int .i64 (a : Int)) ∧ W.cell? ⟨xb, 2, none⟩ = some (.string xx) ∧ Below W6.heap.size W6 W)) (by kernel_rfl) (MK.out _ hW2) (fun hHeld => ?_)
      refine wpAnyH_take (i := 0) (v := ?_) rfl (by kernel_rfl) (by kernel_rfl) (by kernel_rfl) (fun _ _ _ h => h) (Or.inl ⟨by rfl, ?_⟩) hHeld ?_
      rotate_left
      · intro w hSw
        (try dsimp only at hSw)
        go_simp
        try with_reducible rfl
      go_simp
      refine wpAnyH_take (i := 1) (v := ?_) rfl (by kernel_rfl) (by kernel_rfl) (by kernel_rfl) (fun _ _ _ h => h) (Or.inl ⟨by rfl, ?_⟩) hHeld ?_
      rotate_left
      · intro w hSw
        (try dsimp only at hSw)
        go_simp
        try with_reducible rfl
      go_simp
      refine wpAnyH_take (i := 2) (v := ?_) rfl (by kernel_rfl) (by kernel_rfl) (by kernel_rfl) (fun _ _ _ h => h) (Or.inl ⟨by rfl, ?_⟩) hHeld ?_
      rotate_left
      · intro w hSw
        (try dsimp only at hSw)
        go_simp
        try with_reducible rfl
      go_simp
      refine wpAnyH_take (i := 3) (v := ?_) rfl (by kernel_rfl) (by kernel_rfl) (by kernel_rfl) (fun _ _ _ h => h) (Or.inl ⟨by rfl, ?_⟩) hHeld ?_
      rotate_left
      · intro w hSw
        (try dsimp only at hSw)
        go_simp
        try with_reducible rfl
      go_simp
      refine wpAnyH_take (i := 4) (v := ?_) rfl (by kernel_rfl) (by kernel_rfl) (by kernel_rfl) (fun _ _ _ h => h) (Or.inl ⟨by rfl, ?_⟩) hHeld ?_
      rotate_left
      · intro w hSw
        (try dsimp only at hSw)
        go_simp
        try with_reducible rfl
      go_simp
      refine wpAnyH_take (i := 5) (v := ?_) rfl (by kernel_rfl) (by kernel_rfl) (by kernel_rfl) (fun _ _ _ h => h) (Or.inl ⟨by rfl, ?_⟩) hHeld ?_
      rotate_left
      · intro w hSw
        (try dsimp only at hSw)
        go_simp
        try with_reducible rfl
      go_simp
      refine wpAnyH_ready (rs := [6]) (by kernel_rfl) (by simp) ?_
      refine AllReadyH.cons rfl (fun K hK => ?_) ?_
      rotate_left
      · exact AllReadyH.nil
      go_simp
      go_wp2_with (first | (go_at_call 37; ((with_reducible refine (CCn.out _).mono ?_); rintro e w7 ⟨rfl, hb7⟩); have hW2 := hW2.trans (hb7.mono hW2.size)))
      refine hK.out _ _ (MK.out _ hW2) (fun hHeld => ?_)
      clear hK K
      go_simp
      refine wpAnyH_take (i := 7) (v := ?_) rfl (by kernel_rfl) (by kernel_rfl) (by kernel_rfl) (fun _ _ _ h => h) (Or.inl ⟨by rfl, ?_⟩) hHeld ?_
      rotate_left
      · intro w hSw
        (try dsimp only at hSw)
        go_simp
        try with_reducible rfl
      go_simp
      refine wpAnyH_take (i := 8) (v := ?_) rfl (by kernel_rfl) (by kernel_rfl) (by kernel_rfl) (fun _ _ _ h => h) (Or.inl ⟨by rfl, ?_⟩) hHeld ?_
      rotate_left
      · intro w hSw
        (try dsimp only at hSw)
        go_simp
        try with_reducible rfl
      go_simp
      refine wpAnyH_done (by kernel_rfl) ?_ _
      refine NoPanic.normal ?_
      have x7 := x6.trans (hW2.mono x6.size)
      have HR7 := Lib.hid (RawAt.below HR6.out hW2 (RawAt.lt HR6.out))
      have c7 := hb.trans (x7.mono hszw)
      have aw7 := awr.trans (x7.mono awr.size)
      have CB := Lib.hid (HCut.out _ aw7 pb (RawAt.below HPB3.out c7 (RawAt.lt HPB3.out)) a b k4 k5)
      obtain ⟨sg, hsg⟩ : ∃ sg, sg = txt ((ps.flatten.take b).drop a) := ⟨_, rfl⟩
      rw [← hsg] at CB hei
      clear hsg hHeld MK hW2 hb7
      have t0 := (RawAt.cell HR7.out 0).trans (show _ = some (Value.int .i64 (a : Int)) from rfl)
      have t1 := (RawAt.cell HR7.out 1).trans (show _ = some (Value.int .i64 (b : Int)) from rfl)
      go_wp2_with fail
      refine CB.out.mono ?_
      rintro e w8 ⟨rfl, hb8⟩
      have x8 := x7.trans (hb8.mono x7.size)
      have HR8 := Lib.hid (RawAt.below HR7.out hb8 (RawAt.lt HR7.out))
      have c8 := hb.trans (x8.mono hszw)
      have hown8 := Lib.hid (own_below hown.out x8)
      have hxlt : xb < w8.heap.size := RawAt.lt HR8.out
      have hlt8 := hown8.out.lt
      have hxbr : wr.heap.size ≤ xb := by rw [HXB.out]; exact Nat.le_refl _
      have s8 := c8.size
      have a9 := c8.alloc c8.size (.cells #[.int .i64 ((a : Int) + fv), .int .i64 ((a : Int) + fv + cn), .string sg] 43)
      have hsf := Lib.hid (show eflat ((einv ps.flatten 0 l).take (j + 1)) = eflat ((einv ps.flatten 0 l).take j) ++ [.int .i64 ((a : Int) + fv), .int .i64 ((a : Int) + fv + cn), .string sg] from by
        rw [eth_take (by rw [HIL.out]; exact hjl), eflat_append, hei.out]; rfl)
      clear t0 t1 CB
      go_wp2_with (at_builtin; refine wpList_append_own _ rfl (.tmp 35) (.tmp 47) _ rfl w3.heap.size 43 i0 _ 3 32 Try.underlying36 hi0 hz0 hz1 hz2 rfl (by omega) _ j (eflat ((einv ps.flatten 0 l).take j)) rfl (hown8.out.alloc _) ⟨w8.heap.size, 0, none⟩ 1 1 [.int .i64 ((a : Int) + fv), .int .i64 ((a : Int) + fv + cn), .string sg] rfl rfl (World.news_of_block (cs := #[.int .i64 ((a : Int) + fv), .int .i64 ((a : Int) + fv + cn), .string sg]) (t := 43) (fr := (0, 0)) (heap_alloc_new w8 _)) (by simp [Value.oneCell']) (by simp only [maxLen]; omega) (by omega) (by simp; omega) ?_; intro v9 w9 hown9 hg9 hnil9; clear hnil9; have HR9 := Lib.hid (show RawAt 43 w9 xb _ from (hg9.block xb (by simp; omega) (fun e => by have := (hlt4 xb e.symm).2; omega)).trans (RawAt.below HR8.out ((Below.refl w8.heap.size w8).alloc (Nat.le_refl _) _) hxlt)); have u0 := (RawAt.cell HR9.out 0).trans (show _ = some (Value.int .i64 (a : Int)) from rfl); have u1 := (RawAt.cell HR9.out 1).trans (show _ = some (Value.int .i64 (b : Int)) from rfl))
      have hb9 : Below w3.heap.size w3 w9 := a9.grown hg9 (by simp; omega) (fun k hk => (hlt4 k hk).1)
      have HO9 := Lib.hid hown9
      clear hown9 hg9 a9
      go_roundg (gk - 1)
      case measure => omega
      case rel => exact ⟨j + 1, by go_num, by omega, by omega, hb9, Lib.hid (by rw [hst.out, HEG.out, ← HFV.out]), Lib.hid (by rw [hsf.out]; exact HO9.out)⟩
    · have hj : j = m := by omega
      subst hj
      have hta : (einv ps.flatten 0 l).take j = einv ps.flatten 0 l := List.take_of_length_le (by rw [HIL.out, HL.out]; exact Nat.le_refl _)
      rw [hta] at hown
      obtain ⟨A7, c7, e7, hI7, hl7, hC7⟩ := eds_of_own hown.out
      have HI7 := Lib.hid hI7
      have HC7 := Lib.hid hC7
      subst e7
      clear hown hI7 hC7 hl7 hlt4
      go_wp2
      refine bodyPost_ret (v := .tuple #[.slice A7 j c7, .int .i64 0]) (by simp [results, Try.results25, go_sem]) rfl ⟨A7, c7, rfl, HI7.out, HC7.out, awr⟩
end
end Go.Proofs.Ytglalmhpgdgeeaa
