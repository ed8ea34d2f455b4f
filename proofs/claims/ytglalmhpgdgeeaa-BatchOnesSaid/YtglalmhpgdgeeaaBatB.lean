/- Batches: the contract of Apply. -/
import Derived.Test.YtglalmhpgdgeeaaBatA
import Derived.Test.YtglalmhpgdgeeaaEdq
import Derived.Test.YtglalmhpgdgeeaaRepl
import Derived.Test.YtglalmhpgdgeeaaUClean
namespace Go.Proofs.Ytglalmhpgdgeeaa
open Go.RowKit
theorem bflt_zero {n : Nat} {l : List E3} (h : bflt n l = 0) : ERis n 0 l ∧ l.length ≤ 64 ∧ (n : Int) + egrow l ≤ 20000 := by
  unfold bflt at h
  split at h
  · rename_i h0
    unfold bchk at h0
    split at h0
    · exact absurd h0 (by decide)
    · refine ⟨(echk_ris (n := n) (p := 0) (l := l)).1 h0, by omega, ?_⟩
      split at h
      · exact absurd h (by decide)
      · omega
  · rename_i h0
    exact absurd h h0
theorem bc_add (M S : List Int) : Lib.byteCells (encAll M) ++ Lib.strCells (txt S) = Lib.byteCells (encAll (M ++ S)) := by
  rw [show Lib.strCells (txt S) = Lib.byteCells (txt S).data.toList from rfl, show (txt S).data.toList = encAll S from by simp [txt], ← Lib.byteCells_append, encAll_append]
section
variable {p : Option Addr} {ps : List (List Int)} {h : Nat} {w : World}
set_option maxHeartbeats 4000000 in
set_option maxRecDepth 100000 in
theorem bapply_no (hr : RP w p ps h) (A : Option Addr) (m c : Nat) (l : List E3) (hA : EdsAt w A l) (hl : l.length = m) (hs : ∀ e ∈ l, e.x.size ≤ 1000000000) (hne : bflt ps.flatten.length l ≠ 0) :
    Calls Try.prog 16 #[.pointer p, .slice A m c] w fun e w' => e = .returned (.tuple #[.pointer none, .int .i64 (bflt ps.flatten.length l)]) ∧ Below w.heap.size w w' := by
  have C1 := Lib.hid (bfault_any hr A m c l hA hl hs)
  clear hr hA hl hs
  generalize bflt ps.flatten.length l = R at *
  have hb : (R == 0) = false := by simpa using hne
  clear hne
  go_enter Try.func16, Try.ntmps16
  go_wp2_with fail
  refine C1.out.mono ?_
  rintro e w1 ⟨rfl, hb1⟩
  go_wp2
  refine bodyPost_ret (v := .tuple #[.pointer none, .int .i64 R]) (by simp [results, Try.results16, go_sem]) rfl ⟨rfl, hb1⟩
theorem breach_both {n : Nat} (_hn : n ≤ 20000) (A : Option Addr) (m c : Nat) (l : List E3) (w : World) (hA : EdsAt w A l) (hl : l.length = m) (hm : m ≤ 64) (hE : ERis n 0 l) :
    ∃ p0 : Nat, p0 ≤ n ∧ ERis n p0 l ∧ ∀ W, Below w.heap.size w W → Calls Try.prog 29 #[.slice A m c] W fun e w' => e = .returned (.agg #[.int .i64 (p0 : Int), .int .i64 (elast p0 l : Int)]) ∧ Below W.heap.size W w' := by
  obtain ⟨p0, h1, h2, h3, h4⟩ := ris_first hE
  refine ⟨p0, h1, h2, fun W hW => ?_⟩
  rcases Nat.eq_zero_or_pos m with rfl | hp
  · obtain rfl := List.eq_nil_of_length_eq_zero hl
    obtain rfl := h3 rfl
    exact breach_nil c A W
  · have := breach_any A m c l W (hA.below hW) hl hp hm
    rw [h4 (by omega)] at this
    obtain ⟨a, b, _, e2, _⟩ := ris_at h2 (j := m - 1) (by omega)
    have e3 := elast_end p0 (l := l) (by omega)
    rw [hl, e2, Int.toNat_natCast] at e3
    rw [e3]
    rwa [e2] at this
set_option maxHeartbeats 8000000 in
set_option maxRecDepth 100000 in
theorem bapply_yes (hr : RP w p ps h) (A : Option Addr) (m c : Nat) (l : List E3) (hA : EdsAt w A l) (hl : l.length = m) (hs : ∀ e ∈ l, e.x.size ≤ 100000000) (hz : bflt ps.flatten.length l = 0) :
    Calls Try.prog 16 #[.pointer p, .slice A m c] w fun e w' => ∃ (b : Nat) (ps' : List (List Int)) (h' : Nat), e = .returned (.tuple #[.pointer (some ⟨b, 0, none⟩), .int .i64 0]) ∧ RP w' (some ⟨b, 0, none⟩) ps' h' ∧ ps'.flatten = eput ps.flatten l ∧ Below w.heap.size w w' := by
  have hmost := hr.1.most
  obtain ⟨hE, hm64, hfit⟩ := bflt_zero hz
  have hm : m ≤ 64 := by omega
  have C1 := Lib.hid (bfault_any hr A m c l hA hl (fun e he => by have := hs e he; omega))
  rw [hz] at C1
  obtain ⟨p0, hp0, hE0, hre⟩ := breach_both hmost A m c l w hA hl hm hE
  have C2 := Lib.hid hre
  have CC := Lib.hid fun (W : World) (hW : Below w.heap.size w W) => bcutter_any (hr.below hW)
  obtain ⟨q1, q2⟩ := hE0.last hp0
  have hputlen := eput_len hp0 hE0
  have hmid := eput_mid hp0 hE0
  have hML : (emid ps.flatten p0 l).length ≤ 20000 := by
    have h1 := congrArg List.length hmid
    simp only [List.length_append, List.length_take, List.length_drop] at h1
    omega
  have HCut := Lib.hid fun (W : World) (hW : Below w.heap.size w W) (pb : Nat) (hp : RawAt 23 W pb #[.pointer p]) (x y : Nat) (hxy : x ≤ y) (hy : y ≤ ps.flatten.length) => bcut_any (hr.below hW) pb hp x y hxy hy
  have HRepl := Lib.hid fun (W : World) (hW : Below w.heap.size w W) => (rrepl_any (hr.below hW) p0 (elast p0 l) q1 q2 (txt (emid ps.flatten p0 l)) (by rw [txt_size]; have := encAll_len (emid ps.flatten p0 l); omega) (by
    rw [dec_txt (emid_cln hr.1.cln p0 l)]
    have h1 := congrArg List.length hmid
    simp only [List.length_append, List.length_take, List.length_drop] at h1
    omega)).mono fun e w' ⟨b, ps', h', he, hR, hf, hb⟩ => (by
      rw [dec_txt (emid_cln hr.1.cln p0 l), ← hmid] at hf
      exact ⟨b, ps', h', he, hR, hf, hb⟩ : ∃ (b : Nat) (ps' : List (List Int)) (h' : Nat), e = Ending.returned (.tuple #[.pointer (some ⟨b, 0, none⟩), .int .i64 0]) ∧ RP w' (some ⟨b, 0, none⟩) ps' h' ∧ ps'.flatten = eput ps.flatten l ∧ Below W.heap.size W w')
  have HAt := Lib.hid fun (j : Nat) (hj : j < l.length) => ris_at hE0 hj
  have HPre := Lib.hid fun (j : Nat) => emid_pre ps.flatten p0 l j
  have HS := Lib.hid hs
  have HA := Lib.hid hA
  have HL := Lib.hid hl
  generalize eput ps.flatten l = E at *
  generalize hq0 : elast p0 l = q0 at *
  have HQ0 := Lib.hid hq0
  clear hr hA hl hs hz hre hE hE0 hfit hputlen hmid hm64 hq0
  go_enter Try.func16, Try.ntmps16
  go_wp2_with fail
  refine C1.out.mono ?_
  rintro e w1 ⟨rfl, hb1⟩
  go_wp2_with fail
  refine (C2.out _ hb1).mono ?_
  rintro e w2 ⟨rfl, hb2⟩
  have a2 := hb1.trans (hb2.mono hb1.size)
  go_wp2_with fail
  refine (CC.out _ a2).mono ?_
  rintro e w3 ⟨pb, rfl, hpb, hb3⟩
  have a3 := a2.trans (hb3.mono a2.size)
  have HPB3 := Lib.hid hpb
  clear hpb C1 C2 CC
  have x4 : Below w3.heap.size w3 (w3.alloc (.cells #[.int .i64 (p0 : Int), .int .i64 (q0 : Int)] 50)) := (Below.refl _ _).alloc (Nat.le_refl _) _
  have R4 : RawAt 50 (w3.alloc (.cells #[.int .i64 (p0 : Int), .int .i64 (q0 : Int)] 50)) w3.heap.size #[.int .i64 (p0 : Int), .int .i64 (q0 : Int)] := heap_alloc_new w3 _
  have HR4 := Lib.hid R4
  have HPB4 := Lib.hid (RawAt.below HPB3.out x4 (RawAt.lt HPB3.out))
  have a4 := a3.trans (x4.mono a3.size)
  have z4 : (w3.alloc (.cells #[.int .i64 (p0 : Int), .int .i64 (q0 : Int)] 50)).heap.size = w3.heap.size + 1 := by simp
  have x5 : Below (w3.heap.size + 1) (w3.alloc (.cells #[.int .i64 (p0 : Int), .int .i64 (q0 : Int)] 50)) ((w3.alloc (.cells #[.int .i64 (p0 : Int), .int .i64 (q0 : Int)] 50)).alloc (.cells #[.pointer none, .slice none 0 0] 64)) := by
    rw [← z4]; exact (Below.refl _ _).alloc (Nat.le_refl _) _
  have IB5 := Lib.fresh_isBuilder 64 5 (w3.alloc (.cells #[.int .i64 (p0 : Int), .int .i64 (q0 : Int)] 50))
  rw [z4] at IB5
  have z5 : ((w3.alloc (.cells #[.int .i64 (p0 : Int), .int .i64 (q0 : Int)] 50)).alloc (.cells #[.pointer none, .slice none 0 0] 64)).heap.size = w3.heap.size + 1 + 1 := by simp
  have y0 := RawAt.cell R4 0
  simp at y0
  clear R4
  obtain ⟨ab, hab⟩ : ∃ ab, ab = w3.heap.size := ⟨_, rfl⟩
  rw [← hab] at HR4 x5 IB5 z5 z4
  have HAB := Lib.hid hab
  have habw : w.heap.size ≤ ab := by rw [hab]; exact a3.size
  have hpl : pb < ab := by rw [hab]; exact RawAt.lt HPB3.out
  clear hab
  go_wp2_with fail
  rw [← HAB.out]
  generalize hW5 : ((w3.alloc (.cells #[.int .i64 (p0 : Int), .int .i64 (q0 : Int)] 50)).alloc (.cells #[.pointer none, .slice none 0 0] 64)) = W5 at *
  clear hW5
  generalize hW4 : w3.alloc (.cells #[.int .i64 (p0 : Int), .int .i64 (q0 : Int)] 50) = W4 at *
  clear hW4 y0 x4
  have HIB5 := Lib.hid IB5
  clear IB5
  go_loopg [9, 27] m (fun g en i wr => ∃ (j : Nat), i = .int .i64 j ∧ j ≤ m ∧ m - j ≤ g ∧ Below (ab + 1) W4 wr ∧ ab + 1 < wr.heap.size ∧ Hid (en = .int .i64 (elast p0 (l.take j) : Int)) ∧ Hid (Lib.IsBuilder 64 5 (ab + 1) (ab + 1) (Lib.byteCells (encAll (emid ps.flatten p0 (l.take j)))) wr))
  case atStart => exact ⟨0, rfl, by omega, by omega, x5, by omega, Lib.hid rfl, Lib.hid HIB5.out⟩
  case round =>
    obtain ⟨j, rfl, h1, h2, hb, hsz, hen, hIB⟩ := hrel
    have hen := hen.out
    subst hen
    have awr : Below w.heap.size w wr := a4.trans (hb.mono (by omega))
    by_cases hlt : j < m
    · have hjl : j < l.length := by rw [HL.out]; exact hlt
      obtain ⟨a, b, k1, k2, k3, k4, k5⟩ := HAt.out j hjl
      obtain ⟨bA, off, rfl, hbA, d0, d1, d2⟩ := (HA.out.below awr).drop1 hjl
      rw [k1] at d0
      rw [k2] at d1
      have hxs := HS.out _ (eth_mem hjl)
      have hml := HPre.out (j + 1)
      have hte := Lib.hid (emid_take ps.flatten p0 hjl)
      have hle := Lib.hid (elast_take p0 hjl)
      rw [hte.out] at hml
      rw [k1, Int.toNat_natCast] at hml
      simp only [List.length_append] at hml
      have HK1 := Lib.hid k1
      have HK2 := Lib.hid k2
      generalize elast p0 (l.take j) = pj at *
      have i1 : (0 : Int) ≤ j := by omega
      have i2 : (j : Int) < m := by omega
      have x6 : Below wr.heap.size wr (wr.alloc (.cells #[.int .i64 (a : Int), .int .i64 (b : Int), .string (eth l j).x] 43)) := (Below.refl _ _).alloc (Nat.le_refl _) _
      have R6 : RawAt 43 (wr.alloc (.cells #[.int .i64 (a : Int), .int .i64 (b : Int), .string (eth l j).x] 43)) wr.heap.size #[.int .i64 (a : Int), .int .i64 (b : Int), .string (eth l j).x] := heap_alloc_new wr _
      have HR6 := Lib.hid R6
      have hb6 : Below (ab + 1) W4 (wr.alloc (.cells #[.int .i64 (a : Int), .int .i64 (b : Int), .string (eth l j).x] 43)) := hb.trans (x6.mono (by omega))
      have aw6 := awr.trans (x6.mono awr.size)
      have CB := Lib.hid (HCut.out _ aw6 pb (RawAt.below HPB4.out hb6 (by omega)) pj a k3 (by omega))
      have HI6 := Lib.hid (ib_below hIB.out x6)
      have y0 := RawAt.cell R6 0
      simp at y0
      obtain ⟨xb, hxb⟩ : ∃ xb, xb = wr.heap.size := ⟨_, rfl⟩
      rw [← hxb] at HR6
      have HXB := Lib.hid hxb
      have hxab : ab + 1 < xb := by omega
      clear hxb R6 k1 k2 hIB
      generalize hxx : (eth l j).x = xx at *
      have hdx : (dec xx).length ≤ 20000 := by omega
      have CCl := Lib.hid fun W => clean_any xx W (by omega)
      rw [show (⟨(encAll (dec xx)).toArray⟩ : ByteArray) = txt (dec xx) from rfl] at CCl
      clear hxx
      have hs1 : (txt ((ps.flatten.take a).drop pj)).size ≤ 80000 := by
        rw [txt_size]; have := encAll_len ((ps.flatten.take a).drop pj); omega
      have hs2 : (txt (dec xx)).size ≤ 80000 := by
        rw [txt_size]; have := encAll_len (dec xx); omega
      have hs3 : (encAll (emid ps.flatten p0 (l.take j))).length ≤ 80000 := by
        have := encAll_len (emid ps.flatten p0 (l.take j)); omega
      have HBC1 := Lib.hid (bc_add (emid ps.flatten p0 (l.take j)) ((ps.flatten.take a).drop pj))
      have HBC2 := Lib.hid (bc_add (emid ps.flatten p0 (l.take j) ++ (ps.flatten.take a).drop pj) (dec xx))
      have hs4 : (encAll (emid ps.flatten p0 (l.take j) ++ (ps.flatten.take a).drop pj)).length ≤ 160000 := by
        have := encAll_len (emid ps.flatten p0 (l.take j) ++ (ps.flatten.take a).drop pj); rw [List.length_append] at this; omega
      go_wp2_with fail
      rw [← HXB.out]
      generalize wr.alloc (.cells #[.int .i64 (a : Int), .int .i64 (b : Int), .string xx] 43) = W6 at *
      clear y0
      refine CB.out.mono ?_
      rintro e w7 ⟨rfl, hb7⟩
      have HI7 := Lib.hid (ib_below HI6.out hb7)
      have HR7 := Lib.hid (RawAt.below HR6.out hb7 (RawAt.lt HR6.out))
      have hz6 : ab + 1 ≤ W6.heap.size := by have := x6.size; omega
      have hb7' := hb6.trans (hb7.mono hz6)
      have hz7 : ab + 1 ≤ w7.heap.size := by have := hb7.size; omega
      have CW1 := Lib.hid (writeString_any (ab + 1) (ab + 1) _ (txt ((ps.flatten.take a).drop pj)) w7 HI7.out (by rw [Lib.byteCells_length]; omega) hz7)
      rw [HBC1.out] at CW1
      clear CB HI6
      go_wp2_with fail
      refine CW1.out.mono ?_
      rintro e w8 ⟨rfl, hI8, hb8, ho8⟩
      have HI8 := Lib.hid (show Lib.IsBuilder 64 5 (ab + 1) (ab + 1) _ w8 from .inr hI8)
      have HR8 := Lib.hid (show RawAt 43 w8 xb _ from ho8 _ xb _ (by decide) (by omega) HR7.out)
      have hb8' := hb7'.trans hb8
      clear hI8 ho8 CW1 HI7
      have t2 := (RawAt.cell HR8.out 2).trans (show _ = some (Value.string xx) from rfl)
      go_wp2_with fail
      refine (CCl.out _).mono ?_
      rintro e w9 ⟨rfl, hb9⟩
      have hz8 : ab + 1 ≤ w8.heap.size := by have := hb8.size; omega
      have HI9 := Lib.hid (ib_below HI8.out hb9)
      have HR9 := Lib.hid (RawAt.below HR8.out hb9 (RawAt.lt HR8.out))
      have hb9' := hb8'.trans (hb9.mono hz8)
      have hz9 : ab + 1 ≤ w9.heap.size := by have := hb9.size; omega
      have CW2 := Lib.hid (writeString_any (ab + 1) (ab + 1) _ (txt (dec xx)) w9 HI9.out (by rw [Lib.byteCells_length]; omega) hz9)
      rw [HBC2.out] at CW2
      clear t2 HI8
      go_wp2_with fail
      refine CW2.out.mono ?_
      rintro e w10 ⟨rfl, hI10, hb10, ho10⟩
      have HI10 := Lib.hid (show Lib.IsBuilder 64 5 (ab + 1) (ab + 1) _ w10 from .inr hI10)
      have HR10 := Lib.hid (show RawAt 43 w10 xb _ from ho10 _ xb _ (by decide) (by omega) HR9.out)
      have hb10' := hb9'.trans hb10
      have hz10 : ab + 1 < w10.heap.size := by have := RawAt.lt HR10.out; omega
      clear hI10 ho10 CW2 HI9
      have t1 := (RawAt.cell HR10.out 1).trans (show _ = some (Value.int .i64 (b : Int)) from rfl)
      go_wp2
      go_roundg (gk - 1)
      case measure => omega
      case rel =>
        refine ⟨j + 1, by go_num, by omega, by omega, hb10', hz10, Lib.hid (by rw [hle.out, HK2.out, Int.toNat_natCast]), Lib.hid ?_⟩
        rw [hte.out, HK1.out, Int.toNat_natCast, ← List.append_assoc]
        exact HI10.out
    · have hj : j = m := by omega
      have hta : l.take j = l := List.take_of_length_le (by rw [HL.out]; omega)
      rw [hta] at hIB
      have HRA := Lib.hid (RawAt.below HR4.out hb (by omega))
      have hW2 : Below (ab + 1) wr wr.drew := (Below.refl _ _).drew
      have CSt := Lib.hid (Try.Builder_String_any (ab + 1) (ab + 1) (encAll (emid ps.flatten p0 l)) wr.drew (ib_below hIB.out ((Below.refl _ _).drew)) (Nat.le_of_lt hsz))
      rw [show (⟨(encAll (emid ps.flatten p0 l)).toArray⟩ : ByteArray) = txt (emid ps.flatten p0 l) from rfl] at CSt
      have CR := Lib.hid fun (W : World) (hW : Below (ab + 1) wr W) => HRepl.out W (awr.trans (hW.mono (by omega)))
      have AX := Lib.hid fun (W : World) (hW : Below (ab + 1) wr W) => (awr.trans (hW.mono (by omega)))
      generalize txt (emid ps.flatten p0 l) = tl at *
      have MK : Hid (∀ W : World, Below (ab + 1) wr W → (fun W => W.cell? ⟨ab, 0, none⟩ = some (.int .i64 (p0 : Int)) ∧ W.cell? ⟨ab, 1, none⟩ = some (.int .i64 (q0 : Int)) ∧ Below (ab + 1) wr W) W) := fun W hW => ⟨RawAt.cell (RawAt.below HRA.out hW (by omega)) 0, RawAt.cell (RawAt.below HRA.out hW (by omega)) 1, hW⟩
      clear hIB HRepl hta hlt
      go_wp2_with fail
      refine wp_region_noPanic ?_
      refine wp_region_held_drew (S := (fun W => W.cell? ⟨ab, 0, none⟩ = some (.int .i64 (p0 : Int)) ∧ W.cell? ⟨ab, 1, none⟩ = some (.int .i64 (q0 : Int)) ∧ Below (ab + 1) wr W)) (by kernel_rfl) (MK.out _ hW2) (fun hHeld => ?_)
      refine wpAnyH_take (i := 0) (v := ?_) rfl (by kernel_rfl) (by kernel_rfl) (by kernel_rfl) (fun _ _ _ h => h) (Or.inl ⟨by rfl, ?_⟩) hHeld ?_
      rotate_left
      · intro w hSw
        (try dsimp only at hSw)
        go_simp
        try with_reducible rfl
      go_simp
      refine wpAnyH_take (i := 1) (v := ?_) rfl (by kernel_rfl) (by kernel_rfl) (by kernel_rfl) (fun _ _ _ h => h) (Or.inl ⟨by rfl, ?_⟩) hHeld ?_
      rotate_left
      · intro w hSw
        (try dsimp only at hSw)
        go_simp
        try with_reducible rfl
      go_simp
      refine wpAnyH_take (i := 2) (v := ?_) rfl (by kernel_rfl) (by kernel_rfl) (by kernel_rfl) (fun _ _ _ h => h) (Or.inl ⟨by rfl, ?_⟩) hHeld ?_
      rotate_left
      · intro w hSw
        (try dsimp only at hSw)
        go_simp
        try with_reducible rfl
      go_simp
      refine wpAnyH_take (i := 3) (v := ?_) rfl (by kernel_rfl) (by kernel_rfl) (by kernel_rfl) (fun _ _ _ h => h) (Or.inl ⟨by rfl, ?_⟩) hHeld ?_
      rotate_left
      · intro w hSw
        (try dsimp only at hSw)
        go_simp
        try with_reducible rfl
      go_simp
      refine wpAnyH_take (i := 4) (v := ?_) rfl (by kernel_rfl) (by kernel_rfl) (by kernel_rfl) (fun _ _ _ h => h) (Or.inl ⟨by rfl, ?_⟩) hHeld ?_
      rotate_left
      · intro w hSw
        (try dsimp only at hSw)
        go_simp
        try with_reducible rfl
      go_simp
      refine wpAnyH_ready (rs := [5]) (by kernel_rfl) (by simp) ?_
      refine AllReadyH.cons rfl (fun K hK => ?_) ?_
      rotate_left
      · exact AllReadyH.nil
      go_simp
      go_wp2_with (first | (go_at_call 33; ((with_reducible refine CSt.out.mono ?_); rintro e w8 ⟨rfl, hb8⟩); have hW2 := hW2.trans hb8) | (go_at_call 19; ((with_reducible refine (CR.out _ hW2).mono ?_); rintro e w9 ⟨b9, ps9, h9, rfl, hR9, hf9, hb9⟩); have hW2 := hW2.trans (hb9.mono (by have := hW2.size; omega))))
      refine hK.out _ _ (MK.out _ hW2) (fun hHeld => ?_)
      clear hK K
      go_simp
      refine wpAnyH_ready (rs := [6]) (by kernel_rfl) (by simp) ?_
      refine AllReadyH.cons rfl (fun K hK => ?_) ?_
      rotate_left
      · exact AllReadyH.nil
      go_simp
      go_wp2_with (first | (go_at_call 33; ((with_reducible refine CSt.out.mono ?_); rintro e w8 ⟨rfl, hb8⟩); have hW2 := hW2.trans hb8) | (go_at_call 19; ((with_reducible refine (CR.out _ hW2).mono ?_); rintro e w9 ⟨b9, ps9, h9, rfl, hR9, hf9, hb9⟩); have hW2 := hW2.trans (hb9.mono (by have := hW2.size; omega))))
      refine hK.out _ _ (MK.out _ hW2) (fun hHeld => ?_)
      clear hK K
      go_simp
      refine wpAnyH_take (i := 7) (v := ?_) rfl (by kernel_rfl) (by kernel_rfl) (by kernel_rfl) (fun _ _ _ h => h) (Or.inl ⟨by rfl, ?_⟩) hHeld ?_
      rotate_left
      · intro w hSw
        (try dsimp only at hSw)
        go_simp
        try with_reducible rfl
      go_simp
      refine wpAnyH_take (i := 8) (v := ?_) rfl (by kernel_rfl) (by kernel_rfl) (by kernel_rfl) (fun _ _ _ h => h) (Or.inl ⟨by rfl, ?_⟩) hHeld ?_
      rotate_left
      · intro w hSw
        (try dsimp only at hSw)
        go_simp
        try with_reducible rfl
      go_simp
      refine wpAnyH_take (i := 9) (v := ?_) rfl (by kernel_rfl) (by kernel_rfl) (by kernel_rfl) (fun _ _ _ h => h) (Or.inl ⟨by rfl, ?_⟩) hHeld ?_
      rotate_left
      · intro w hSw
        (try dsimp only at hSw)
        go_simp
        try with_reducible rfl
      go_simp
      refine wpAnyH_take (i := 10) (v := ?_) rfl (by kernel_rfl) (by kernel_rfl) (by kernel_rfl) (fun _ _ _ h => h) (Or.inl ⟨by rfl, ?_⟩) hHeld ?_
      rotate_left
      · intro w hSw
        (try dsimp only at hSw)
        go_simp
        try with_reducible rfl
      go_simp
      refine wpAnyH_done (by kernel_rfl) ?_ _
      refine NoPanic.normal ?_
      have HR9 := Lib.hid hR9
      have HF9 := Lib.hid hf9
      clear hR9 hf9
      go_wp2
      refine bodyPost_ret (v := .tuple #[.pointer (some ⟨b9, 0, none⟩), .int .i64 0]) (by simp [results, Try.results16, go_sem]) rfl ⟨b9, ps9, h9, rfl, HR9.out, HF9.out, AX.out _ hW2⟩
end
end Go.Proofs.Ytglalmhpgdgeeaa
