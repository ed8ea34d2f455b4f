/- Cells: their runes; those of parts: the contracts of runes and of Of. -/
import Derived.Test.YtbalafgoengppaaDoorClD
import Derived.Test.YtbalafgoengppaaDoorStW2
namespace Go.Proofs.YtbalafgoengppaaDoor
open Go.RowKit
set_option linter.unusedVariables false
theorem rune_slt2 : SlT Tryd.prog 22 21 1 4 := rune_slt
set_option maxHeartbeats 4000000 in
set_option maxRecDepth 100000 in
theorem cRunes_any (A : Option Addr) (n c : Nat) (l : List Cl) (w : World) (hA : RowsAt encC 4 w A l) (hl : l.length = n) (hn : n ≤ 1000000) :
    Calls Tryd.prog 41 #[.slice A n c] w fun e w' => ∃ v, e = .returned v ∧ w'.ownsRow w.heap.size 21 1 v n ((l.map (·.r)).map (.int .i32)) ∧ Below w.heap.size w w' := by
  obtain ⟨i0, hi0, hz0, hz1, hz2⟩ := info_parts i32_info
  have HA := Lib.hid hA
  have HL := Lib.hid hl
  clear hA hl
  go_enter Tryd.func41, Tryd.ntmps41
  go_wp2_with (at_make; refine wpList_make_own _ rfl _ _ 22 rfl w.heap.size 21 i0 (.int .i32 0) 1 Tryd.underlying22 hi0 hz0 hz1 .i64 .i64 _ n rfl rfl rfl (by rw [hz2]; omega) (by unfold maxLen; omega) (Nat.le_refl _) ?_; intro w2 hown2 hgrow2)
  have b2 := Lib.hid ((Below.refl w.heap.size w).grown hgrow2 (Nat.le_refl _) (fun k hk => by cases hk))
  have O2 := Lib.hid hown2
  clear hown2 hgrow2
  go_loopg [3, 5, 11] n (fun g a x i wr => ∃ (j : Nat) (u : Value), i = .int .i64 j ∧ j ≤ n ∧ n - j ≤ g ∧ u = a ∧ Hid (Below w.heap.size w wr) ∧ Hid (wr.ownsRow w.heap.size 21 1 u j (((l.take j).map (·.r)).map (.int .i32))))
  case atStart => exact ⟨0, _, rfl, by omega, by omega, rfl, b2, Lib.hid (by simpa using O2.out)⟩
  case round =>
    clear b2 O2
    obtain ⟨j, v, rfl, h1, h2, rfl, hb, hown⟩ := hrel
    by_cases hlt : j < n
    · have hjl : j < l.length := by rw [HL.out]; exact hlt
      obtain ⟨bA, off, rfl, hbA, d0, d1, d2, d3⟩ := (HA.out.below hb.out).cell4 hjl
      have HTK := Lib.hid (List.take_succ_eq_append_getElem hjl)
      generalize l[j] = o at *
      have i1 : (0 : Int) ≤ j := by omega
      have i2 : (j : Int) < n := by omega
      have x3 : Below wr.heap.size wr ((wr.alloc (.cells #[.int .i32 o.r, .int .i64 o.k, .int .i64 o.wd, .int .i64 o.p] 58)).alloc (.cells #[.int .i32 o.r] 21)) := ((Below.refl _ _).alloc (Nat.le_refl _) _).alloc (by simp) _
      have HOW := Lib.hid (own_below hown.out x3)
      have HB3 := Lib.hid (hb.out.trans (x3.mono hb.out.size))
      have HBB := Lib.hid hb.out.size
      have HRW : Hid (RowsAt (encN .i32) 1 ((wr.alloc (.cells #[.int .i32 o.r, .int .i64 o.k, .int .i64 o.wd, .int .i64 o.p] 58)).alloc (.cells #[.int .i32 o.r] 21)) (some ⟨wr.heap.size + 1, 0, none⟩) [o.r]) := Lib.hid (by
        have := row_new (encN_len .i32) (wr.alloc (.cells #[.int .i32 o.r, .int .i64 o.k, .int .i64 o.wd, .int .i64 o.p] 58)) [o.r] #[.int .i32 o.r] 21 rfl
        rwa [show (wr.alloc (.cells #[.int .i32 o.r, .int .i64 o.k, .int .i64 o.wd, .int .i64 o.p] 58)).heap.size = wr.heap.size + 1 from by simp] at this)
      clear hown hb x3
      go_wp2_with (at_builtin; go_loud (refine wpList_appK (enc := encN .i32) rune_slt (encN_len _) (by omega) rfl (.tmp 15) (.tmp 18) rfl rfl HOW.out (some ⟨wr.heap.size + 1, 0, none⟩) 1 1 [o.r] rfl HRW.out ⟨Nat.le_refl _, fun h => by cases h⟩ rfl (kfl_one' (encN_one _) _) (by simp only [maxLen]; omega) (by omega) (by have := HBB.out; simp; omega) ?_; intro v5 w5 hown5 hg5 hn5))
      have HO5 := Lib.hid hown5
      have HB5 := Lib.hid (HB3.out.grown hg5 (by have := HBB.out; simp; omega) (fun k hk => (HOW.out.lt k hk).1))
      clear hown5 hg5 hn5
      go_roundg (gk - 1)
      case measure => omega
      case rel => exact ⟨j + 1, _, by go_num, by omega, by omega, rfl, HB5, Lib.hid (by have := HO5.out; rw [HTK.out, List.map_append, List.map_append]; exact this)⟩
    · obtain rfl : j = n := by omega
      have h5 := hown.out
      rw [List.take_of_length_le (by rw [HL.out]; exact Nat.le_refl _)] at h5
      obtain ⟨A5, c5, rfl⟩ := own_form h5
      have H5 := Lib.hid h5
      clear h5 hown
      go_wp2
      go_ret
      exact ⟨_, rfl, H5.out, hb.out⟩
/-- The cells of parts. -/
def ofL (f : Int → Int) (tab : Int) (l : List Pt) : List Cl := putL (bareL l) (szs f tab 0 ((bareL l).map (·.r)))
theorem putL_len : ∀ (cs : List Cl) (ns : List Int), (∀ x ∈ ns, x ≤ 16) → (putL cs ns).length ≤ 16 * cs.length
  | [], _, _ => by simp [putL]
  | c :: cs, [], _ => by simp [putL]
  | c :: cs, n :: ns, h => by
    have ih := putL_len cs ns (fun x hx => h x (by simp [hx]))
    have hn := h n (by simp)
    have hp : (putC c n).length ≤ 16 := by
      unfold putC
      split
      · rw [List.length_cons, List.length_replicate]; omega
      · simp
    rw [putL, List.length_append, List.length_cons]
    omega
theorem putL_take {cs : List Cl} {ns : List Int} {j : Nat} (hl : cs.length = ns.length) (hj : j < cs.length) : putL (cs.take (j + 1)) (ns.take (j + 1)) = putL (cs.take j) (ns.take j) ++ putC cs[j] (ns[j]'(by omega)) := by
  rw [List.take_succ_eq_append_getElem hj, List.take_succ_eq_append_getElem (show j < ns.length by omega), putL_snoc]
  rw [List.length_take, List.length_take]; omega
def OfRes (w : World) (f : Int → Int) (tab : Int) (l : List PtV) (e : Ending) (w' : World) : Prop :=
  (kok l ∧ ∃ (m : Nat) (v : Value), e = .returned (.tuple #[v, .int .i64 0]) ∧ w'.ownsRow w.heap.size 58 4 v m (kfl encC (ofL f tab (l.map pt)))) ∨ (¬ kok l ∧ e = .returned (.tuple #[.slice none 0 0, .int .i64 4]))
theorem cOf_bad (tv : Value) (A : Option Addr) (n c : Nat) (tab : Int) (w : World) (h : ¬ (1 ≤ tab ∧ tab ≤ 16)) :
    Calls Tryd.prog 25 #[tv, .slice A n c, .int .i64 tab] w fun e w' => e = .returned (.tuple #[.slice none 0 0, .int .i64 1]) ∧ Below w.heap.size w w' := by
  by_cases h1 : tab < 1
  · have k1 : decide (tab < 1) = true := decide_eq_true h1
    go_enter Tryd.func25, Tryd.ntmps25
    go_wp2
    go_ret2
    exact ⟨rfl, Below.refl _ _⟩
  · have k1 : decide (tab < 1) = false := decide_eq_false h1
    have k2 : decide (16 < tab) = true := decide_eq_true (by omega)
    go_enter Tryd.func25, Tryd.ntmps25
    go_wp2
    go_ret2
    exact ⟨rfl, Below.refl _ _⟩
set_option maxHeartbeats 8000000 in
set_option maxRecDepth 100000 in
theorem cOf_any (tv : Value) (f : Int → Int) (A : Option Addr) (n c : Nat) (l : List PtV) (tab : Int) (w : World) (hT : TabV w tv f) (hA : RowsAt ptcs 3 w A l) (hl : l.length = n) (hn : n ≤ 1000) (hok : ∀ s ∈ l, PtOk w s) (hp : ∀ s ∈ l, 0 ≤ s.p ∧ s.p ≤ 1099511627776 ∧ s.n ≤ 1000) (ht : (bareL (l.map pt)).length ≤ 10000) (t1 : 1 ≤ tab) (t2 : tab ≤ 16) :
    Calls Tryd.prog 25 #[tv, .slice A n c, .int .i64 tab] w fun e w' => OfRes w f tab l e w' ∧ Below w.heap.size w w' := by
  obtain ⟨i0, hi0, hz0, hz1, hz2⟩ := info_parts cell_info
  have CB := Lib.hid (cBare_any A n c l w hA hl hn hok hp (by omega))
  have k1 : decide (tab < 1) = false := decide_eq_false (by omega)
  have k2 : decide (16 < tab) = false := decide_eq_false (by omega)
  have HT := Lib.hid hT
  have HTT := Lib.hid ht
  clear hT hA hl hok hp ht
  go_enter Tryd.func25, Tryd.ntmps25
  go_wp2_with fail
  with_reducible refine (CB.out).mono ?_
  rintro e w1 ⟨hres, hb1⟩
  have HB1 := Lib.hid hb1
  rcases hres with ⟨hk, m, v, rfl, ho⟩ | ⟨hk, rfl⟩
  · have HK := Lib.hid hk
    have hlen := own_len encC_len (by omega) ho
    have hm : m ≤ 10000 := by rw [← hlen]; exact HTT.out
    obtain ⟨A1, c1, rfl, hR1, hL1, hC1⟩ := rows_of_own encC_len (by omega) ho
    have HO1 : Hid (ofL f tab (l.map pt) = putL (bareL (l.map pt)) (szs f tab 0 ((bareL (l.map pt)).map (·.r)))) := Lib.hid rfl
    clear hlen ho hk CB k1 k2 HTT
    generalize bareL (l.map pt) = cs at *
    have HR1 := Lib.hid hR1
    have HL1 := Lib.hid hL1
    have CRU := Lib.hid (cRunes_any A1 m c1 cs w1 hR1 hL1 (by omega))
    clear hR1 hL1 hb1
    go_wp2_with fail
    with_reducible refine (CRU.out).mono ?_
    rintro e w2 ⟨v2, rfl, o2, hb2⟩
    obtain ⟨A2, c2, rfl, I2, hl2, _⟩ := IntsAt.of_own o2
    have HB2 := Lib.hid (HB1.out.trans (hb2.mono HB1.out.size))
    have HR2 := Lib.hid (HR1.out.below hb2)
    have CSZ := Lib.hid (sSizes_any tv f A2 m c2 (cs.map (·.r)) tab w2 (HT.out.below HB2.out) I2 hl2 (by omega) t1 t2)
    have hzl := szs_length f tab (cs.map (·.r)) 0
    rw [List.length_map, HL1.out] at hzl
    obtain ⟨hzb, _, _⟩ := szs_bd HT.out.bd t1 t2 (cs.map (·.r)) 0 (by omega)
    have hz9 : ∀ j (hj : j < cs.length), cs[j].r = 9 → 1 ≤ nth (szs f tab 0 (cs.map (·.r))) j := by
      intro j hj h9
      obtain ⟨q1, _⟩ := szs_at f tab (l := cs.map (·.r)) (j := j) (by simpa using hj)
      rw [q1, nth_flat (by simpa using hj), List.getElem_map, h9]
      unfold csz
      rw [if_pos rfl]
      exact (tleft_bd t1 (sum_nn _ (fun y hy => (hzb y (List.mem_of_mem_take hy)).1))).1
    have HZ9 := Lib.hid hz9
    have HZL := Lib.hid hzl
    have HZB := Lib.hid hzb
    clear hz9 hzl hzb o2 hb2 I2 hl2 CRU HR1 HB1
    generalize szs f tab 0 (cs.map (·.r)) = ns at *
    go_wp2_with fail
    with_reducible refine (CSZ.out).mono ?_
    rintro e w3 ⟨v3, rfl, o3, hb3⟩
    obtain ⟨A3, c3, rfl⟩ := own_form o3
    have HB3 := Lib.hid (HB2.out.trans (hb3.mono HB2.out.size))
    have HR3 := Lib.hid (HR2.out.below hb3)
    obtain ⟨A3', c3', he3, I3, _, _⟩ := IntsAt.of_own o3
    injection he3 with he3 _ _
    subst he3
    have HI3 := Lib.hid I3
    clear o3 hb3 I3 CSZ HB2 HR2
    go_wp2_with (at_make; refine wpList_make_own _ rfl _ _ 46 rfl w3.heap.size 58 i0 _ 4 Tryd.underlying46 hi0 hz0 hz1 .i64 .i64 _ m rfl rfl rfl (by rw [hz2]; omega) (by unfold maxLen; omega) (Nat.le_refl _) ?_; intro w4 hown4 hgrow4)
    have B4 := Lib.hid ((Below.refl w3.heap.size w3).grown hgrow4 (Nat.le_refl _) (fun k hk => by cases hk))
    have O4 := Lib.hid hown4
    clear hown4 hgrow4
    go_loopg [11, 12, 13, 44] m (fun g a x y i wr => ∃ (j : Nat) (u : Value) (q : Nat), i = .int .i64 j ∧ j ≤ m ∧ m - j ≤ g ∧ u = a ∧ Hid (Below w3.heap.size w3 wr) ∧ Hid (wr.ownsRow w3.heap.size 58 4 u q (kfl encC (putL (cs.take j) (ns.take j)))))
    case atStart => exact ⟨0, _, 0, rfl, by omega, by omega, rfl, B4, Lib.hid (by simpa [putL, kfl] using O4.out)⟩
    case round =>
      clear B4 O4
      obtain ⟨j, v, q, rfl, h1, h2, rfl, hb, hown⟩ := hrel
      by_cases hlt : j < m
      · have hjl : j < cs.length := by rw [HL1.out]; exact hlt
        have hjn : j < ns.length := by rw [HZL.out]; exact hlt
        obtain ⟨bA, off, rfl, hbA, d0, d1, d2, d3⟩ := (HR3.out.below hb.out).cell4 hjl
        obtain ⟨bN, offN, rfl, hbN, hcN⟩ := (HI3.out.below hb.out) (by omega)
        have HBN : Hid (bN < w3.heap.size) := Lib.hid (by obtain ⟨b', o', e', hb', _⟩ := HI3.out (by omega); injection e' with e'; injection e' with e1; omega)
        have dn := hcN j hjn
        have HPT := Lib.hid (putL_take (by rw [HL1.out, HZL.out]) hjl)
        have hq : q ≤ 1000000 := by
          have a := own_len encC_len (by omega) hown.out
          have b := putL_len (cs.take j) (ns.take j) (fun x hx => (HZB.out x (List.mem_of_mem_take hx)).2)
          rw [List.length_take] at b
          omega
        have H9 := HZ9.out j hjl
        have h16 := (HZB.out ns[j] (List.getElem_mem hjn)).2
        rw [← nth_flat hjn] at HPT h16
        have CP := Lib.hid fun (W : World) (hW : W.ownsRow w3.heap.size 58 4 v q (kfl encC (putL (cs.take j) (ns.take j)))) (hS : w3.heap.size ≤ W.heap.size) => cPut_any w3.heap.size v q (putL (cs.take j) (ns.take j)) cs[j] (nth ns j) W hW hS hq (fun h => ⟨H9 h, h16⟩)
        clear H9 h16 hcN
        generalize cs[j] = o at *
        generalize nth ns j = k at *
        obtain ⟨r, kd, wd, p⟩ := o
        simp only at d0 d1 d2 d3 CP
        have i1 : (0 : Int) ≤ j := by omega
        have i2 : (j : Int) < m := by omega
        have x3 : Below wr.heap.size wr (wr.alloc (.cells #[.int .i32 r, .int .i64 kd, .int .i64 wd, .int .i64 p] 58)) := (Below.refl _ _).alloc (Nat.le_refl _) _
        have HR3' : Hid (RawAt 58 (wr.alloc (.cells #[.int .i32 r, .int .i64 kd, .int .i64 wd, .int .i64 p] 58)) wr.heap.size #[.int .i32 r, .int .i64 kd, .int .i64 wd, .int .i64 p]) := Lib.hid (heap_alloc_new wr _)
        have HDN : Hid ((wr.alloc (.cells #[.int .i32 r, .int .i64 kd, .int .i64 wd, .int .i64 p] 58)).cell? ⟨bN, offN + j, none⟩ = some (.int .i64 k)) := Lib.hid (((old_cells x3).1 _ _ hbN).trans dn)
        have HNN : Hid (bN < (wr.alloc (.cells #[.int .i32 r, .int .i64 kd, .int .i64 wd, .int .i64 p] 58)).heap.size) := Lib.hid (Nat.lt_of_lt_of_le hbN x3.size)
        have HOW := Lib.hid (own_below hown.out x3)
        have HBW := Lib.hid (hb.out.trans (x3.mono hb.out.size))
        have HNV : Hid (v.ownBlock ≠ some wr.heap.size) := Lib.hid fun he => by have := (hown.out.lt _ he).2; omega
        have HNB : Hid (v.ownBlock ≠ some bN) := Lib.hid fun he => by have := (hown.out.lt _ he).1; have := HBN.out; omega
        clear hown hb x3 dn
        go_wp2_with fail
        generalize wr.alloc (.cells #[.int .i32 r, .int .i64 kd, .int .i64 wd, .int .i64 p] 58) = W3 at *
        clear d0 d1 d2 d3 hbA hbN
        generalize wr.heap.size = N at *
        have MK : Hid (∀ W : World, Below W3.heap.size W3 W → (fun W => W.cell? ⟨N, 0, none⟩ = some (.int .i32 r) ∧ W.cell? ⟨N, 1, none⟩ = some (.int .i64 kd) ∧ W.cell? ⟨N, 2, none⟩ = some (.int .i64 wd) ∧ W.cell? ⟨N, 3, none⟩ = some (.int .i64 p) ∧ W.cell? ⟨bN, offN + j, none⟩ = some (.int .i64 k)) W) := fun W hW => ⟨RawAt.cell (HR3'.out.below hW HR3'.out.lt) 0, RawAt.cell (HR3'.out.below hW HR3'.out.lt) 1, RawAt.cell (HR3'.out.below hW HR3'.out.lt) 2, RawAt.cell (HR3'.out.below hW HR3'.out.lt) 3, ((old_cells hW).1 _ _ HNN.out).trans HDN.out⟩
        have hW2 : Below W3.heap.size W3 W3.drew := (Below.refl _ _).drew
        have CP1 := Lib.hid (CP.out W3.drew (own_below HOW.out hW2) HBW.out.size)
        have MX : Hid (∀ (W : World) (u : Value), Grow W3.drew W v u → (fun W => W.cell? ⟨N, 0, none⟩ = some (.int .i32 r) ∧ W.cell? ⟨N, 1, none⟩ = some (.int .i64 kd) ∧ W.cell? ⟨N, 2, none⟩ = some (.int .i64 wd) ∧ W.cell? ⟨N, 3, none⟩ = some (.int .i64 p) ∧ W.cell? ⟨bN, offN + j, none⟩ = some (.int .i64 k)) W) := Lib.hid fun W u hg => ⟨RawAt.cell (hg.raw (w := W3.drew) HR3'.out HNV.out) 0, RawAt.cell (hg.raw (w := W3.drew) HR3'.out HNV.out) 1, RawAt.cell (hg.raw (w := W3.drew) HR3'.out HNV.out) 2, RawAt.cell (hg.raw (w := W3.drew) HR3'.out HNV.out) 3, (World.cell?_of_block (a := ⟨bN, offN + j, none⟩) (hg.keep bN HNN.out HNB.out)).trans HDN.out⟩
        clear CP
        refine wp_region_noPanic ?_
        refine wp_region_held_drew (S := ((fun W => W.cell? ⟨N, 0, none⟩ = some (.int .i32 r) ∧ W.cell? ⟨N, 1, none⟩ = some (.int .i64 kd) ∧ W.cell? ⟨N, 2, none⟩ = some (.int .i64 wd) ∧ W.cell? ⟨N, 3, none⟩ = some (.int .i64 p) ∧ W.cell? ⟨bN, offN + j, none⟩ = some (.int .i64 k)))) (by kernel_rfl) (MK.out _ hW2) (fun hHeld => ?_)
        refine wpAnyH_take (i := 0) (v := ?_) rfl (by kernel_rfl) (by kernel_rfl) (by kernel_rfl) (fun _ _ _ h => h) (Or.inl ⟨by rfl, ?_⟩) hHeld ?_
        rotate_left
        · intro w hSw
          (try dsimp only at hSw)
          go_simp
          try with_reducible rfl
        go_simp
        refine wpAnyH_take (i := 1) (v := ?_) rfl (by kernel_rfl) (by kernel_rfl) (by kernel_rfl) (fun _ _ _ h => h) (Or.inl ⟨by rfl, ?_⟩) hHeld ?_
        rotate_left
        · intro w hSw
          (try dsimp only at hSw)
          go_simp
          try with_reducible rfl
        go_simp
        refine wpAnyH_take (i := 2) (v := ?_) rfl (by kernel_rfl) (by kernel_rfl) (by kernel_rfl) (fun _ _ _ h => h) (Or.inl ⟨by rfl, ?_⟩) hHeld ?_
        rotate_left
        · intro w hSw
          (try dsimp only at hSw)
          go_simp
          try with_reducible rfl
        go_simp
        refine wpAnyH_take (i := 3) (v := ?_) rfl (by kernel_rfl) (by kernel_rfl) (by kernel_rfl) (fun _ _ _ h => h) (Or.inl ⟨by rfl, ?_⟩) hHeld ?_
        rotate_left
        · intro w hSw
          (try dsimp only at hSw)
          go_simp
          try with_reducible rfl
        go_simp
        refine wpAnyH_take (i := 4) (v := ?_) rfl (by kernel_rfl) (by kernel_rfl) (by kernel_rfl) (fun _ _ _ h => h) (Or.inl ⟨by rfl, ?_⟩) hHeld ?_
        rotate_left
        · intro w hSw
          (try dsimp only at hSw)
          go_simp
          try with_reducible rfl
        go_simp
        refine wpAnyH_take (i := 5) (v := ?_) rfl (by kernel_rfl) (by kernel_rfl) (by kernel_rfl) (fun _ _ _ h => h) (Or.inl ⟨by rfl, ?_⟩) hHeld ?_
        rotate_left
        · intro w hSw
          (try dsimp only at hSw)
          go_simp
          try with_reducible rfl
        go_simp
        refine wpAnyH_ready (rs := [6]) (by kernel_rfl) (by simp) ?_
        refine AllReadyH.cons rfl (fun K hK => ?_) ?_
        rotate_left
        · exact AllReadyH.nil
        go_simp
        go_wp2_with ((go_at_call 42; go_loud ((with_reducible refine (CP1.out).mono ?_); rintro e w5 ⟨m5, v5, rfl, ho5, hb5, hg5⟩; have hX5 := MX.out _ _ hg5)))
        refine hK.out _ _ (hX5) (fun hHeld => ?_)
        clear hK K
        go_simp
        refine wpAnyH_take (i := 7) (v := ?_) rfl (by kernel_rfl) (by kernel_rfl) (by kernel_rfl) (fun _ _ _ h => h) (Or.inl ⟨by rfl, ?_⟩) hHeld ?_
        rotate_left
        · intro w hSw
          (try dsimp only at hSw)
          go_simp
          try with_reducible rfl
        go_simp
        refine wpAnyH_done (by kernel_rfl) ?_ _
        refine NoPanic.normal ?_
        have HO5 := Lib.hid ho5
        have HB5 := Lib.hid (HBW.out.drew.trans hb5)
        clear ho5 hb5 hg5 hX5 hHeld hW2
        go_wp2
        go_roundg (gk - 1)
        case measure => omega
        case rel => exact ⟨j + 1, _, _, by go_num, by omega, by omega, rfl, HB5, Lib.hid (by rw [HPT.out]; exact HO5.out)⟩
      · obtain rfl : j = m := by omega
        have h5 := hown.out
        rw [List.take_of_length_le (l := cs) (by rw [HL1.out]; exact Nat.le_refl _), List.take_of_length_le (l := ns) (by rw [HZL.out]; exact Nat.le_refl _), ← HO1.out] at h5
        obtain ⟨A5, c5, rfl⟩ := own_form h5
        have H5 := Lib.hid (own_base h5 HB3.out.size)
        have HB5 := Lib.hid (HB3.out.trans (hb.out.mono HB3.out.size))
        clear h5 hown hb
        go_wp2
        go_ret2
        exact ⟨.inl ⟨HK.out, _, _, rfl, H5.out⟩, HB5.out⟩
  · have HK := Lib.hid hk
    clear hk hb1 CB
    go_wp2
    go_ret2
    exact ⟨.inr ⟨HK.out, rfl⟩, HB1.out⟩
end Go.Proofs.YtbalafgoengppaaDoor
