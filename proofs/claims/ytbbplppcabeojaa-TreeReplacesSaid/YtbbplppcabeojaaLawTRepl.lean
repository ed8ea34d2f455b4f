/- The walk of the law on replacing in trees, over any tree's contracts. -/
import Derived.Test.YtbbplppcabeojaaRight5
import Derived.Test.YtbbplppcabeojaaRefRepl
import Derived.Test.YtbbplppcabeojaaReplOpens
import Derived.Deep.RegionHeld3
import Derived.WalkMore
namespace Go.Proofs.Ytbbplppcabeojaa
open Go.RowKit
/-- What the law asks of a tree besides. -/
structure TreeR (T : World → Addr → List I7 → Nat → Prop) : Prop where
  span : ∀ (w : World) (a : Addr) (l : List I7) (h : Nat) (x y : Int) (A : Option Addr) (n c : Nat), T w a l h → ¬ (0 ≤ x ∧ x ≤ y ∧ y ≤ l.length) → Calls Try.prog 15 #[.pointer (some a), .int .i64 x, .int .i64 y, .slice A n c] w fun e w' => e = .returned (.tuple #[.pointer none, .int .i64 1]) ∧ Below w.heap.size w w'
  bad : ∀ (w : World) (a : Addr) (l m : List I7) (h x y : Nat) (A : Option Addr) (n c : Nat), T w a l h → x ≤ y → y ≤ l.length → ItsAt w A m → m.length = n → n ≤ 30000 → ¬ Okl m → Calls Try.prog 15 #[.pointer (some a), .int .i64 x, .int .i64 y, .slice A n c] w fun e w' => e = .returned (.tuple #[.pointer none, .int .i64 1]) ∧ Below w.heap.size w w'
  any : ∀ (w : World) (a : Addr) (l m : List I7) (h x y : Nat) (A : Option Addr) (n c : Nat), T w a l h → x ≤ y → y ≤ l.length → ItsAt w A m → m.length = n → Caps A n c → l.length - (y - x) + n ≤ 30000 → Okl m → Calls Try.prog 15 #[.pointer (some a), .int .i64 x, .int .i64 y, .slice A n c] w fun e w' => ∃ a' h', e = .returned (.tuple #[.pointer (some a'), .int .i64 0]) ∧ T w' a' (l.take x ++ m ++ l.drop y) h' ∧ Below w.heap.size w w'
section
variable {T : World → Addr → List I7 → Nat → Prop}
set_option maxHeartbeats 4000000 in
set_option maxRecDepth 100000 in
theorem treeRepl_any (K : TreeC T) (R : TreeR T) (A0 : Option Addr) (n0 c0 : Nat) (l0 : List I7) (B : Option Addr) (m d : Nat) (ss : List RS) (w : World) (hA0 : ItsAt w A0 l0) (hl0 : l0.length = n0) (hn0 : n0 ≤ maxLen) (hC0 : Caps A0 n0 c0)
    (hB : RSAt w B ss) (hs : ss.length = m) (hm : m ≤ maxLen) (hd : Caps B m d) :
    Calls Try.prog 3 #[.slice A0 n0 c0, .slice B m d] w fun e w' => e = .returned (.bool true) ∧ Below w.heap.size w w' := by
  have HA := Lib.hid hA0; clear hA0
  have HL := Lib.hid hl0; clear hl0
  have HC := Lib.hid hC0; clear hC0
  have HB := Lib.hid hB; clear hB
  have HS := Lib.hid hs; clear hs
  have hm' := hm
  unfold maxLen at hm'
  have T3 := Lib.hid fun (W : World) => three_yes K W
  by_cases k0 : n0 ≤ 600 ∧ Okl l0
  rotate_left
  · have R := Lib.hid (right5_no A0 n0 c0 l0 w HA.out HL.out hn0 k0)
    clear k0
    go_enter Try.func3, Try.ntmps3
    go_wp2_with fail
    refine R.out.mono ?_
    rintro e w1 ⟨rfl, hb1⟩
    go_wp2_with fail
    refine (T3.out _).mono ?_
    rintro e w2 ⟨rfl, hb2⟩
    go_wp2_with fail
    go_ret
    exact ⟨rfl, hb1.trans (hb2.mono hb1.size)⟩
  obtain ⟨k1, k2⟩ := k0
  have R1 := Lib.hid (right5_yes A0 n0 c0 l0 w HA.out HL.out hn0 ⟨k1, k2⟩)
  have N := Lib.hid fun (W : World) (hW : Below w.heap.size w W) => K.new A0 n0 c0 l0 W (HA.out.below hW) HL.out HC.out (by omega) k2
  have HK := Lib.hid k2; clear k2
  by_cases h20 : 20 < m
  · go_enter Try.func3, Try.ntmps3
    go_wp2_with fail
    refine R1.out.mono ?_
    rintro e w1 ⟨rfl, hb1⟩
    go_wp2_with fail
    refine (T3.out _).mono ?_
    rintro e w2 ⟨rfl, hb2⟩
    go_wp2_with fail
    go_ret
    exact ⟨rfl, hb1.trans (hb2.mono hb1.size)⟩
  go_enter Try.func3, Try.ntmps3
  go_wp2_with fail
  refine R1.out.mono ?_
  rintro e w1 ⟨rfl, hb1⟩
  go_wp2_with fail
  refine (N.out _ hb1).mono ?_
  rintro e w2 ⟨a, h, rfl, hT, hb2⟩
  have a2 := hb1.trans (hb2.mono hb1.size)
  have HT := Lib.hid hT; clear hT
  go_wp2_with fail
  refine (refs5_any A0 n0 c0 l0 _ (HA.out.below a2) HL.out (by omega)).mono ?_
  rintro e w3 ⟨A3, c3, rfl, hb3, hI3, hC3⟩
  have a3 := a2.trans (hb3.mono a2.size)
  have HT3 := Lib.hid (K.below HT.out hb3)
  have HI3 := Lib.hid hI3; clear hI3
  have HC3 := Lib.hid hC3; clear hC3
  go_wp2
  go_loopg [5, 7, 37] m (fun g tv nv iv wr => ∃ (j : Nat) (a : Addr) (h : Nat) (A2 : Option Addr) (n2 c2 : Nat) (cur : List I7), tv = .pointer (some a) ∧ nv = .slice A2 n2 c2 ∧ iv = .int .i64 j ∧ j ≤ m ∧ m - j ≤ g ∧ Below w.heap.size w wr ∧ Hid (T wr a cur h) ∧ Hid (ItsAt wr A2 cur) ∧ Hid (Caps A2 n2 c2) ∧ Hid (Okl cur) ∧ Hid (cur.length = n2) ∧ n2 ≤ 600 + 100 * j)
  case atStart => exact ⟨0, a, h, A3, n0, c3, l0, rfl, rfl, rfl, by omega, by omega, a3, HT3, HI3, HC3, HK, HL, by omega⟩
  case round =>
    clear HT HT3 HI3 HC3 N R1
    obtain ⟨j, a, h, A2, n2, c2, cur, rfl, rfl, rfl, j1, j2, hb, hT, hI, hC, hO, hN, hn2⟩ := hrel
    by_cases hlt : j < m
    · have hj : j < ss.length := by rw [HS.out]; exact hlt
      obtain ⟨b, off, rfl, hbs, hc⟩ := HB.out (by omega)
      obtain ⟨e0, e1, e2, hs⟩ := hc j hj
      clear hc
      obtain ⟨H1, H2⟩ := old_cells hb
      generalize rth ss j = s at *
      obtain ⟨x, y, A, n, c, l⟩ := s
      obtain ⟨s1, s2, s3, s4⟩ := hs
      simp only at e0 e1 e2 s1 s2 s3 s4
      have a1 := hb.alloc hb.size (.cells #[.int .i64 x, .int .i64 y, .slice A n c] 33)
      have q1 : Below wr.heap.size wr (wr.alloc (.cells #[.int .i64 x, .int .i64 y, .slice A n c] 33)) := (Below.refl _ _).alloc (Nat.le_refl _) _
      have X1 := Lib.hid (show RawAt 33 (wr.alloc (.cells #[.int .i64 x, .int .i64 y, .slice A n c] 33)) wr.heap.size #[.int .i64 x, .int .i64 y, .slice A n c] from heap_alloc_new wr _)
      have hT1 := Lib.hid (K.below hT.out q1)
      have hI1 := Lib.hid (hI.out.below q1)
      have HS1 := Lib.hid s1
      have HS3 := Lib.hid s3
      have HS4 := Lib.hid fun (W : World) (hW : Below w.heap.size w W) => s4.below hW
      have hnm := s2
      unfold maxLen at hnm
      clear s1 s3 s4 hT hI
      by_cases hn100 : 100 < n
      · go_wp2_with fail
        refine (T3.out _).mono ?_
        rintro e w2 ⟨rfl, hb2⟩
        go_wp2_with fail
        go_ret
        exact ⟨rfl, a1.trans (hb2.mono a1.size)⟩
      · by_cases hsp : 0 ≤ x ∧ x ≤ y ∧ y ≤ (n2 : Int)
        rotate_left
        · have CS := Lib.hid (R.span _ a cur h x y A n c hT1.out (by rw [hN.out]; exact hsp))
          by_cases g1 : x < 0
          · clear hsp
            go_wp2_with fail
            refine (CS.out).mono ?_
            rintro e w2 ⟨rfl, hb2⟩
            have a2 := a1.trans (hb2.mono a1.size)
            have b2 := q1.trans (hb2.mono q1.size)
            have X2 := RawAt.below X1.out hb2 (RawAt.lt X1.out)
            have HT2 := Lib.hid (K.below hT1.out hb2)
            have HI2 := Lib.hid (hI1.out.below hb2)
            have x0 : w2.cell? ⟨wr.heap.size, 0, none⟩ = some (.int .i64 x) := RawAt.cell X2 0
            have x1 : w2.cell? ⟨wr.heap.size, 1, none⟩ = some (.int .i64 y) := RawAt.cell X2 1
            have x2 : w2.cell? ⟨wr.heap.size, 2, none⟩ = some (.slice A n c) := RawAt.cell X2 2
            clear X2 hT1 hI1
            go_wp2
            go_roundg (gk - 1)
            case measure => omega
            case rel => exact ⟨j + 1, a, h, A2, n2, c2, cur, rfl, rfl, by go_num, by omega, by omega, a2, HT2, HI2, hC, hO, hN, by omega⟩
          · by_cases g2 : y < x
            · clear hsp
              go_wp2_with fail
              refine (CS.out).mono ?_
              rintro e w2 ⟨rfl, hb2⟩
              have a2 := a1.trans (hb2.mono a1.size)
              have b2 := q1.trans (hb2.mono q1.size)
              have X2 := RawAt.below X1.out hb2 (RawAt.lt X1.out)
              have HT2 := Lib.hid (K.below hT1.out hb2)
              have HI2 := Lib.hid (hI1.out.below hb2)
              have x0 : w2.cell? ⟨wr.heap.size, 0, none⟩ = some (.int .i64 x) := RawAt.cell X2 0
              have x1 : w2.cell? ⟨wr.heap.size, 1, none⟩ = some (.int .i64 y) := RawAt.cell X2 1
              have x2 : w2.cell? ⟨wr.heap.size, 2, none⟩ = some (.slice A n c) := RawAt.cell X2 2
              clear X2 hT1 hI1
              go_wp2
              go_roundg (gk - 1)
              case measure => omega
              case rel => exact ⟨j + 1, a, h, A2, n2, c2, cur, rfl, rfl, by go_num, by omega, by omega, a2, HT2, HI2, hC, hO, hN, by omega⟩
            · have g3 : (n2 : Int) < y := by omega
              clear hsp
              go_wp2_with fail
              refine (CS.out).mono ?_
              rintro e w2 ⟨rfl, hb2⟩
              have a2 := a1.trans (hb2.mono a1.size)
              have b2 := q1.trans (hb2.mono q1.size)
              have X2 := RawAt.below X1.out hb2 (RawAt.lt X1.out)
              have HT2 := Lib.hid (K.below hT1.out hb2)
              have HI2 := Lib.hid (hI1.out.below hb2)
              have x0 : w2.cell? ⟨wr.heap.size, 0, none⟩ = some (.int .i64 x) := RawAt.cell X2 0
              have x1 : w2.cell? ⟨wr.heap.size, 1, none⟩ = some (.int .i64 y) := RawAt.cell X2 1
              have x2 : w2.cell? ⟨wr.heap.size, 2, none⟩ = some (.slice A n c) := RawAt.cell X2 2
              clear X2 hT1 hI1
              go_wp2
              go_roundg (gk - 1)
              case measure => omega
              case rel => exact ⟨j + 1, a, h, A2, n2, c2, cur, rfl, rfl, by go_num, by omega, by omega, a2, HT2, HI2, hC, hO, hN, by omega⟩
        obtain ⟨g1, g2, g3⟩ := hsp
        obtain ⟨x, rfl⟩ : ∃ k : Nat, x = (k : Int) := ⟨x.toNat, by omega⟩
        obtain ⟨y, rfl⟩ : ∃ k : Nat, y = (k : Int) := ⟨y.toNat, by omega⟩
        have hxy : x ≤ y := by omega
        have hyn : y ≤ n2 := by omega
        by_cases hol : Okl l
        · have CS := Lib.hid (R.any _ a cur l h x y A n c hT1.out hxy (by rw [hN.out]; exact hyn) (HS4.out _ a1) HS1.out HS3.out (by have := hN.out; omega) hol)
          have CR := Lib.hid fun (W : World) (hW : Below w.heap.size w W) => right5_yes A n c l W (HS4.out W hW) HS1.out s2 ⟨by omega, hol⟩
          have HOL := Lib.hid hol; clear hol
          go_wp2_with fail
          refine CS.out.mono ?_
          rintro e w2 ⟨a', h', rfl, hT', hb2⟩
          have a2 := a1.trans (hb2.mono a1.size)
          have X2 := RawAt.below X1.out hb2 (RawAt.lt X1.out)
          have HT2 := Lib.hid (K.below hT1.out hb2)
          have HI2 := Lib.hid (hI1.out.below hb2)
          have HT' := Lib.hid hT'
          have x0 : w2.cell? ⟨wr.heap.size, 0, none⟩ = some (.int .i64 x) := RawAt.cell X2 0
          have x1 : w2.cell? ⟨wr.heap.size, 1, none⟩ = some (.int .i64 y) := RawAt.cell X2 1
          have x2 : w2.cell? ⟨wr.heap.size, 2, none⟩ = some (.slice A n c) := RawAt.cell X2 2
          have HX2 := Lib.hid X2
          clear X2 hT1 hI1 hT'
          go_wp2_with fail
          refine (CR.out _ a2).mono ?_
          rintro e w3 ⟨rfl, hb3⟩
          have a3 := a2.trans (hb3.mono a2.size)
          have HT3 := Lib.hid (K.below HT2.out hb3)
          have HI3 := Lib.hid (HI2.out.below hb3)
          have HU3 := Lib.hid (K.below HT'.out hb3)
          have X3 := RawAt.below HX2.out hb3 (RawAt.lt HX2.out)
          clear x0 x1 x2
          have x0 : w3.cell? ⟨wr.heap.size, 0, none⟩ = some (.int .i64 x) := RawAt.cell X3 0
          have x1 : w3.cell? ⟨wr.heap.size, 1, none⟩ = some (.int .i64 y) := RawAt.cell X3 1
          have x2 : w3.cell? ⟨wr.heap.size, 2, none⟩ = some (.slice A n c) := RawAt.cell X3 2
          have HX3 := Lib.hid X3
          clear X3
          go_wp2_with fail
          have MK : Hid (∀ W, Below w3.heap.size w3 W → W.cell? ⟨wr.heap.size, 0, none⟩ = some (.int .i64 x) ∧ W.cell? ⟨wr.heap.size, 1, none⟩ = some (.int .i64 y) ∧ W.cell? ⟨wr.heap.size, 2, none⟩ = some (.slice A n c) ∧ Below w3.heap.size w3 W) := fun W hW => by
            have X4 := RawAt.below HX3.out hW (RawAt.lt HX3.out)
            exact ⟨RawAt.cell X4 0, RawAt.cell X4 1, RawAt.cell X4 2, hW⟩
          have CF := Lib.hid fun (W : World) (hW : Below w3.heap.size w3 W) => refs5_any A n c l W (HS4.out W (a3.trans (hW.mono a3.size))) HS1.out (by omega)
          have CP : Hid (∀ (W W' : World) (A4 : Option Addr) (c4 : Nat), Below w3.heap.size w3 W → Below W.heap.size W W' → ItsAt W' A4 l → Caps A4 n c4 → Calls Try.prog 16 #[.slice A2 n2 c2, .agg #[.int .i64 x, .int .i64 y], .slice A4 n c4] W' fun e w' => ∃ A' c', e = .returned (.slice A' (x + n + (n2 - y)) c') ∧ Below w3.heap.size w3 w' ∧ ItsAt w' A' (cur.take x ++ l ++ cur.drop y) ∧ Caps A' (x + n + (n2 - y)) c') := fun W W' A4 c4 hW hb hI4 hC4 => by
            refine (rrepl_any A2 n2 c2 cur x y A4 n c4 l W' (HI3.out.below (hW.trans (hb.mono hW.size))) hN.out hC.out (by omega) hI4 HS1.out hC4 (by omega) hxy hyn).mono ?_
            rintro e w' ⟨A', c', he, hb', hI', hC'⟩
            have a0 := hW.trans (hb.mono hW.size)
            exact ⟨A', c', he, a0.trans (hb'.mono a0.size), hI', hC'⟩
          have hW2 : Below w3.heap.size w3 w3.drew := (Below.refl _ _).drew
          go_region_held3 (fun W => W.cell? ⟨wr.heap.size, 0, none⟩ = some (.int .i64 x) ∧ W.cell? ⟨wr.heap.size, 1, none⟩ = some (.int .i64 y) ∧ W.cell? ⟨wr.heap.size, 2, none⟩ = some (.slice A n c) ∧ Below w3.heap.size w3 W) (first | (with_reducible exact MK.out _ hW2) | (with_reducible exact MK.out _ (Below.refl _ _)) | go_keep)
            (first
            | (go_at_call 14; ((with_reducible refine (CF.out _ hW2).mono ?_); rintro e w4 ⟨A4, c4, rfl, hb4, hI4, hC4⟩); have hW0 := hW2; have hW2 := hW2.trans (hb4.mono hW2.size))
            | (go_at_call 16; ((with_reducible refine (CP.out _ _ _ _ hW0 hb4 hI4 hC4).mono ?_); rintro e w5 ⟨A5, c5, rfl, hW5, hI5, hC5⟩); have hW2 := hW5))
          all_goals
            have HN5 : Hid ((cur.take x ++ l ++ cur.drop y).length = x + n + (n2 - y)) := by show _ = _; rw [List.length_append, List.length_append, List.length_take, List.length_drop, HS1.out, hN.out]; omega
            have HI5 := Lib.hid hI5
            have HC5 := Lib.hid hC5
            have HO5 := Lib.hid (show Okl (cur.take x ++ l ++ cur.drop y) from ((hO.out.take_ x).append_ HOL.out).append_ (fun i hi => hO.out i (List.mem_of_mem_drop hi)))
            have HT5 := Lib.hid (K.below HT3.out hW5)
            have HU5 := Lib.hid (K.below HU3.out hW5)
            have HJ5 := Lib.hid (HI3.out.below hW5)
            have a5 := a3.trans (hW5.mono a3.size)
            have hn5 : x + n + (n2 - y) ≤ 600 + 100 * (j + 1) := by omega
            clear hI5 hC5 hb4 hI4 hC4 hW0 hW2 MK CF CP x0 x1 x2
            generalize x + n + (n2 - y) = n5 at *
            generalize cur.take x ++ l ++ cur.drop y = L at *
            have IS1 := Lib.hid (is_yes K a' L h' A5 n5 c5 w5 HU5.out HI5.out HN5.out)
            have IS2 := Lib.hid fun (W : World) (hW : Below w5.heap.size w5 W) => is_yes K a cur h A2 n2 c2 W (K.below HT5.out hW) (HJ5.out.below hW) hN.out
            go_wp2_with fail
            refine IS1.out.mono ?_
            rintro e w6 ⟨rfl, hb6⟩
            go_wp2_with fail
            refine (IS2.out _ hb6).mono ?_
            rintro e w7 ⟨rfl, hb7⟩
            have b7 := hb6.trans (hb7.mono hb6.size)
            have a7 := a5.trans (b7.mono a5.size)
            have HT7 := Lib.hid (K.below HU5.out b7)
            have HI7 := Lib.hid (HI5.out.below b7)
            go_wp2
            go_roundg (gk - 1)
            case measure => omega
            case rel => exact ⟨j + 1, a', h', A5, n5, c5, L, rfl, rfl, by go_num, by omega, by omega, a7, HT7, HI7, HC5, HO5, HN5, hn5⟩
        · have CS := Lib.hid (R.bad _ a cur l h x y A n c hT1.out hxy (by rw [hN.out]; exact hyn) (HS4.out _ a1) HS1.out (by omega) hol)
          have CR := Lib.hid fun (W : World) (hW : Below w.heap.size w W) => right5_no A n c l W (HS4.out W hW) HS1.out s2 (fun hh => hol hh.2)
          clear hol
          go_wp2_with fail
          refine (CS.out).mono ?_
          rintro e w2 ⟨rfl, hb2⟩
          have a2 := a1.trans (hb2.mono a1.size)
          have b2 := q1.trans (hb2.mono q1.size)
          have X2 := RawAt.below X1.out hb2 (RawAt.lt X1.out)
          have HT2 := Lib.hid (K.below hT1.out hb2)
          have HI2 := Lib.hid (hI1.out.below hb2)
          have x0 : w2.cell? ⟨wr.heap.size, 0, none⟩ = some (.int .i64 x) := RawAt.cell X2 0
          have x1 : w2.cell? ⟨wr.heap.size, 1, none⟩ = some (.int .i64 y) := RawAt.cell X2 1
          have x2 : w2.cell? ⟨wr.heap.size, 2, none⟩ = some (.slice A n c) := RawAt.cell X2 2
          clear X2 hT1 hI1
          go_wp2_with fail
          refine (CR.out _ a2).mono ?_
          rintro e w3 ⟨rfl, hb3⟩
          have a3 := a2.trans (hb3.mono a2.size)
          have HT2 := Lib.hid (K.below HT2.out hb3)
          have HI2 := Lib.hid (HI2.out.below hb3)
          clear x0 x1 x2
          have a2 := a3
          go_wp2
          go_roundg (gk - 1)
          case measure => omega
          case rel => exact ⟨j + 1, a, h, A2, n2, c2, cur, rfl, rfl, by go_num, by omega, by omega, a2, HT2, HI2, hC, hO, hN, by omega⟩
    · go_wp2_with fail
      refine (T3.out _).mono ?_
      rintro e w2 ⟨rfl, hb2⟩
      go_wp2_with fail
      go_ret
      exact ⟨rfl, hb.trans (hb2.mono hb.size)⟩
end
end Go.Proofs.Ytbbplppcabeojaa
