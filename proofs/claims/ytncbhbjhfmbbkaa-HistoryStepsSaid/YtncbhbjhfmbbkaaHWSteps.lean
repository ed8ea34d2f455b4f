/- The walk of the law on histories, operation by operation. -/
import Derived.Test.YtncbhbjhfmbbkaaHsR
import Derived.Test.YtncbhbjhfmbbkaaHsO
import Derived.Test.YtncbhbjhfmbbkaaPlE
namespace Go.Proofs.Ytncbhbjhfmbbkaa
open Go.RowKit
set_option linter.unusedVariables false
/-- What the document's history holds of a step: the arguments' own slices. -/
def AOk (w : World) (p : Value × Value) (y : S2) : Prop := ∃ A c A' c', p = (.slice A y.b.length c, .slice A' y.f.length c') ∧ EdsAt w A y.b ∧ EdsAt w A' y.f ∧ y.b.length ≤ 70 ∧ y.f.length ≤ 70
def ArgsAt (w : World) (s : List (Value × Value)) (x : List S2) : Prop := s.length = x.length ∧ ∀ (k : Nat) (y : S2), x[k]? = some y → ∃ p, s[k]? = some p ∧ AOk w p y
theorem args_nil (w : World) : ArgsAt w [] [] := ⟨rfl, fun k y h => by simp at h⟩
theorem args_push {w : World} {s : List (Value × Value)} {d u : List S2} (h : ArgsAt w s (d ++ u.reverse)) (hd : d.length ≤ 100) {fn : Nat} (hfn : fn = if d.length = 100 then 1 else 0) {p : Value × Value} {y : S2} (hp : AOk w p y) :
    ArgsAt w ((s.drop fn).take (d.length - fn) ++ [p]) (hpush d y ++ ([] : List S2).reverse) ∧ (hpush d y).length = d.length - fn + 1 := by
  obtain ⟨hl, hx⟩ := h
  rw [List.length_append, List.length_reverse] at hl
  have hpd : hpush d y = d.drop fn ++ [y] := by
    unfold hpush
    by_cases h100 : d.length = 100
    · rw [if_pos h100] at hfn
      rw [if_neg (by omega), hfn, List.drop_append_of_le_length (by omega)]
    · rw [if_neg h100] at hfn
      rw [if_pos (by omega), hfn]
      rfl
  have hfl : fn ≤ d.length := by rw [hfn]; split <;> omega
  have hln : ((s.drop fn).take (d.length - fn)).length = d.length - fn := by rw [List.length_take, List.length_drop]; omega
  have hln2 : (d.drop fn).length = d.length - fn := by rw [List.length_drop]
  rw [List.reverse_nil, List.append_nil, hpd]
  refine ⟨⟨by rw [List.length_append, List.length_append, hln, hln2]; rfl, fun k z hz => ?_⟩, by rw [List.length_append, hln2]; rfl⟩
  rcases Nat.lt_or_ge k (d.length - fn) with hk | hk
  · rw [List.getElem?_append_left (by omega), List.getElem?_drop] at hz
    obtain ⟨q, hq1, hq2⟩ := hx (fn + k) z (by rw [List.getElem?_append_left (by omega)]; exact hz)
    exact ⟨q, by rw [List.getElem?_append_left (by omega), List.getElem?_take, if_pos hk, List.getElem?_drop]; exact hq1, hq2⟩
  · rw [List.getElem?_append_right (by omega), hln2] at hz
    have hk0 : k - (d.length - fn) = 0 := by
      rcases Nat.eq_zero_or_pos (k - (d.length - fn)) with h0 | h0
      · exact h0
      · rw [List.getElem?_eq_none (by show 1 ≤ _; omega)] at hz; cases hz
    rw [hk0] at hz
    obtain rfl : y = z := by simpa using hz
    exact ⟨p, by rw [List.getElem?_append_right (by omega), hln, hk0]; rfl, hp⟩
theorem hpush_le {d : List S2} (h : d.length ≤ 100) (y : S2) : (hpush d y).length ≤ 100 := by
  unfold hpush
  split
  · rw [List.length_append]; simp; omega
  · rw [List.length_drop, List.length_append]; simp; omega
theorem rev_move (d u : List S2) (y : S2) : (d ++ [y]) ++ u.reverse = d ++ (u ++ [y]).reverse := by simp
theorem getmid (d u : List S2) (y : S2) : (d ++ [y] ++ u)[d.length]? = some y := by
  rw [List.append_assoc, List.getElem?_append_right (Nat.le_refl _), Nat.sub_self]; rfl
set_option maxHeartbeats 40000000 in
set_option maxRecDepth 100000 in
theorem historySteps_walk (A : Option Addr) (n c : Nat) (l : List HO) (w : World) (hI : RowsAt hocs 3 w A l) (hl : l.length = n) (_hn : n ≤ maxLen) (_hc : Caps A n c) (hO : ∀ s ∈ l, HOok w s) :
    Calls Try.prog 8 #[.slice A n c] w fun e w' => e = .returned (.bool true) ∧ Below w.heap.size w w' := by
  have CN := Lib.hid (hNew_any w)
  have CA := Lib.hid fun W => hAgain_any W
  clear _hn _hc
  by_cases g0 : 300 < n
  · have k1 : decide (300 < n) = true := decide_eq_true g0
    have k2 : decide ((300 : Int) < (n : Int)) = true := decide_eq_true (by omega)
    clear hI hO hl
    go_enter Try.func8, Try.ntmps8
    go_wp2_with fail
    with_reducible refine (CN.out).mono ?_
    rintro e1 w1 ⟨rfl, h1, b1⟩
    clear h1
    go_wp2_with fail
    with_reducible refine (CA.out _).mono ?_
    rintro e2 w2 ⟨rfl, h2⟩
    have q := b1.trans (h2.mono b1.size)
    go_wp2
    go_ret
    exact ⟨rfl, q⟩
  · have k1 : decide (300 < n) = false := decide_eq_false g0
    have k2 : decide ((300 : Int) < (n : Int)) = false := decide_eq_false (by omega)
    have HI := Lib.hid hI
    have HL := Lib.hid hl
    have HO' := Lib.hid hO
    clear hI hl hO
    go_enter Try.func8, Try.ntmps8
    go_wp2_with fail
    with_reducible refine (CN.out).mono ?_
    rintro e1 w1 ⟨rfl, h1, b1⟩
    have x1 : Below w1.heap.size w1 (w1.alloc (.cells #[.slice none 0 0, .int .i64 0] 63)) := (Below.refl _ _).alloc (Nat.le_refl _) _
    have HH0 := Lib.hid (HAt.below h1 x1)
    have HR0 : Hid (RfAt w.heap.size (w1.alloc (.cells #[.slice none 0 0, .int .i64 0] 63)) w1.heap.size [] 0) := Lib.hid ⟨⟨_, heap_alloc_new w1 _, World.ownsRow_nil _ _ _ _⟩, b1.size, fun p hp => by simp at hp⟩
    have HB0 := Lib.hid (b1.trans (x1.mono b1.size))
    have HA0 := Lib.hid (args_nil w)
    clear h1 b1 x1 CN
    go_wp2_with fail
    generalize w1.heap.size = rb at *
    go_loopg [34] n (fun g i wr => ∃ (k : Nat) (d u : List S2) (s : List (Value × Value)), i = .int .i64 k ∧ k ≤ n ∧ n - k ≤ g ∧ d.length + u.length ≤ 100 ∧ Hid (Below w.heap.size w wr) ∧ Hid (HAt w.heap.size wr w.heap.size d u) ∧ Hid (RfAt w.heap.size wr rb s d.length) ∧ Hid (ArgsAt w s (d ++ u.reverse)))
    case atStart => exact ⟨0, [], [], [], rfl, by omega, by omega, by simp, HB0, HH0, HR0, HA0⟩
    case round =>
      obtain ⟨k, d, u, s, rfl, h1, h2, hdu, hb, hH, hR, hA⟩ := hrel
      clear HB0 HH0 HR0 HA0
      by_cases hlt : k < n
      · have hkl : k < l.length := by rw [HL.out]; exact hlt
        obtain ⟨bA, off, rfl, hbA, hce⟩ := (HI.out.below hb.out).at1 hkl
        have hok := HO'.out _ (List.getElem_mem hkl)
        have f0 := hce 0 (by omega)
        have f1 := hce 1 (by omega)
        have f2 := hce 2 (by omega)
        rw [Nat.add_zero] at f0
        generalize l[k] = o at *
        clear hce
        obtain ⟨a, oA, on, oc, ol, oA', on', oc', ol'⟩ := o
        obtain ⟨⟨h5, ho1⟩, h6, ho2⟩ := hok
        simp only at h5 h6 ho1 ho2
        subst h5
        subst h6
        simp [hocs] at f0 f1 f2
        have E1 := Lib.hid ho1
        have E2 := Lib.hid ho2
        have i1 : (0 : Int) ≤ k := by omega
        have i2 : (k : Int) < n := by omega
        have x3 : Below wr.heap.size wr (wr.alloc (.cells #[.int .i64 a, .slice oA ol.length oc, .slice oA' ol'.length oc'] 66)) := (Below.refl _ _).alloc (Nat.le_refl _) _
        have R3 : RawAt 66 (wr.alloc (.cells #[.int .i64 a, .slice oA ol.length oc, .slice oA' ol'.length oc'] 66)) wr.heap.size #[.int .i64 a, .slice oA ol.length oc, .slice oA' ol'.length oc'] := heap_alloc_new wr _
        have e0 := RawAt.cell R3 0
        have e1 := RawAt.cell R3 1
        have e2 := RawAt.cell R3 2
        simp at e0 e1 e2
        have HR3 := Lib.hid R3
        have HB3 := Lib.hid (hb.out.trans (x3.mono hb.out.size))
        have HH3 := Lib.hid (HAt.below hH.out x3)
        have HF3 := Lib.hid (RfAt.below hR.out x3)
        have HA3 := hA
        have hbs := hb.out.size
        clear ho1 ho2 R3 hb hH hR hA
        by_cases g1 : 70 < ol.length
        · have k3 : decide (70 < ol.length) = true := decide_eq_true g1
          have k4 : decide ((70 : Int) < (ol.length : Int)) = true := decide_eq_true (by omega)
          go_wp2_with fail
          with_reducible refine (CA.out _).mono ?_
          rintro e5 w5 ⟨rfl, b5⟩
          have q5 := Lib.hid (HB3.out.trans (b5.mono HB3.out.size))
          go_wp2
          go_ret
          exact ⟨rfl, q5.out⟩
        · have k3 : decide (70 < ol.length) = false := decide_eq_false g1
          have k4 : decide ((70 : Int) < (ol.length : Int)) = false := decide_eq_false (by omega)
          by_cases g2 : 70 < ol'.length
          · have k5 : decide (70 < ol'.length) = true := decide_eq_true g2
            have k6 : decide ((70 : Int) < (ol'.length : Int)) = true := decide_eq_true (by omega)
            go_wp2_with fail
            with_reducible refine (CA.out _).mono ?_
            rintro e5 w5 ⟨rfl, b5⟩
            have q5 := Lib.hid (HB3.out.trans (b5.mono HB3.out.size))
            go_wp2
            go_ret
            exact ⟨rfl, q5.out⟩
          · have k5 : decide (70 < ol'.length) = false := decide_eq_false g2
            have k6 : decide ((70 : Int) < (ol'.length : Int)) = false := decide_eq_false (by omega)
            by_cases g10 : a = 0
            · have ga := g10
              clear g10
              subst ga
              have PP := Lib.hid (hPush_any HH3.out (Nat.le_trans hbs x3.size) (by omega) oA oA' ol.length oc ol'.length oc' ⟨ol, ol'⟩ (E1.out.below HB3.out) rfl (by omega) (E2.out.below HB3.out) rfl (by omega))
              go_wp2_with fail
              with_reducible refine (PP.out).mono ?_
              rintro e4 w4 ⟨rfl, h4, t4, b4⟩
              have B4 := HB3.out.trans b4
              obtain ⟨fn, hfn⟩ : ∃ fn, fn = if d.length = 100 then 1 else 0 := ⟨_, rfl⟩
              have hF4 := RfAt.onT HF3.out t4 (by decide) (by decide)
              have hln := HA3.out.1
              rw [List.length_append, List.length_reverse] at hln
              have R4 := Lib.hid (rPush_any hF4 (by omega) (by omega) B4.size oA oA' ol.length oc ol'.length oc' fn hfn)
              obtain ⟨ha1, ha2⟩ := args_push HA3.out (by omega) hfn (p := (.slice oA ol.length oc, .slice oA' ol'.length oc')) (y := ⟨ol, ol'⟩) ⟨oA, oc, oA', oc', rfl, E1.out, E2.out, by simp only; omega, by simp only; omega⟩
              have H4 := Lib.hid h4
              have HA1 := Lib.hid ha1
              have HPL := Lib.hid (hpush_le (d := d) (by omega) ⟨ol, ol'⟩)
              have HLN := Lib.hid ha2
              have Q4 := Lib.hid B4
              have R4' := t4 _ _ _ (by decide) HR3.out
              have e0' := RawAt.cell R4' 0
              have e1' := RawAt.cell R4' 1
              have e2' := RawAt.cell R4' 2
              simp at e0' e1' e2'
              clear h4 b4 B4 hF4 ha1 ha2 hfn hln R4' PP t4
              go_wp2_with fail
              with_reducible refine (R4.out).mono ?_
              rintro e6 w6 ⟨rfl, h6, t6, b6⟩
              have H6 := Lib.hid (HAt.onT H4.out t6 (by decide) (by decide) (by decide))
              have F6 := Lib.hid h6
              have B6 := Lib.hid (Q4.out.trans b6)
              rw [← HLN.out] at F6
              clear h6 t6 b6 R4 H4 Q4
              obtain ⟨d1, u1, s1, hsum1, HBt, HHt, HFt, HAt1⟩ : ∃ (d1 u1 : List S2) (s1 : List (Value × Value)), d1.length + u1.length ≤ 100 ∧ Hid (Below w.heap.size w w6) ∧ Hid (HAt w.heap.size w6 w.heap.size d1 u1) ∧ Hid (RfAt w.heap.size w6 rb s1 d1.length) ∧ Hid (ArgsAt w s1 (d1 ++ u1.reverse)) := ⟨_, _, _, by simp; exact HPL.out, B6, H6, F6, HA1⟩
              clear B6 H6 F6 HA1 HPL HLN
              have CS := Lib.hid (hSizes_any HHt.out)
              go_wp2_with fail
              with_reducible refine (CS.out).mono ?_
              rintro e8 w8 ⟨rfl, b8⟩
              have HHn := Lib.hid (HAt.below HHt.out b8)
              have HFn := Lib.hid (RfAt.below HFt.out b8)
              have HBn := Lib.hid (HBt.out.trans (b8.mono HBt.out.size))
              have hsl : s1.length = d1.length + u1.length := by have := HAt1.out.1; rw [List.length_append, List.length_reverse] at this; exact this
              obtain ⟨⟨v9, r9, o9⟩, _, _⟩ := HFn.out
              obtain ⟨A9, c9, rfl⟩ := own_form o9
              have p0 := RawAt.cell r9 0
              have p1 := RawAt.cell r9 1
              simp at p0 p1
              rw [hsl] at p0
              have hr9 := r9.lt
              clear r9 o9 CS hsl HHt HFt HBt
              have HDL := Lib.hid (show d1.length = d1.length from rfl)
              generalize hdl : d1.length = dl at *
              generalize hul : u1.length = ul at *
              have HD1 := Lib.hid hdl
              have HU1 := Lib.hid hul
              clear hdl hul HDL
              have z1 : IntKind.i64.wrap (((dl + ul : Nat) : Int) - (dl : Int)) = (ul : Int) := by rw [show ((dl + ul : Nat) : Int) - (dl : Int) = (ul : Int) by omega]; exact IntWalk.i64_in _ (by omega)
              have z3 : IntKind.i64.wrap ((dl : Int) + (ul : Int) - (dl : Int)) = (ul : Int) := by rw [show (dl : Int) + (ul : Int) - (dl : Int) = (ul : Int) by omega]; exact IntWalk.i64_in _ (by omega)
              have z2 : (dl : Int) + (ul : Int) - (dl : Int) = (ul : Int) := by omega
              have z4 : IntKind.i64.wrap (ul : Int) = (ul : Int) := IntWalk.i64_in _ (by omega)
              have MK : Hid (∀ W : World, Below w8.heap.size w8 W → (fun W : World => W.cell? ⟨rb, 0, none⟩ = some (.slice A9 (dl + ul) c9) ∧ W.cell? ⟨rb, 1, none⟩ = some (.int .i64 (dl : Int))) W) := fun W hW => ⟨(hW.cell (p := ⟨rb, 0, none⟩) hr9).trans p0, (hW.cell (p := ⟨rb, 1, none⟩) hr9).trans p1⟩
              go_wp2_with fail
              refine wp_region_noPanic ?_
              refine wp_region_held_drew (S := (fun W => W.cell? ⟨rb, 0, none⟩ = some (.slice A9 (dl + ul) c9) ∧ W.cell? ⟨rb, 1, none⟩ = some (.int .i64 (dl : Int)))) (by kernel_rfl) (MK.out _ (Below.refl _ _).drew) (fun hHeld => ?_)
              refine wpAnyH_take (i := 0) (v := ?_) rfl (by kernel_rfl) (by kernel_rfl) (by kernel_rfl) (fun _ _ _ h => h) (Or.inl ⟨by rfl, ?_⟩) hHeld ?_
              rotate_left
              · intro w hSw
                (try dsimp only at hSw)
                go_simp
                try with_reducible rfl
              go_simp
              refine wpAnyH_take (i := 1) (v := ?_) rfl (by kernel_rfl) (by kernel_rfl) (by kernel_rfl) (fun _ _ _ h => h) (Or.inl ⟨by rfl, ?_⟩) hHeld ?_
              rotate_left
              · intro w hSw
                (try dsimp only at hSw)
                go_simp
                try with_reducible rfl
              go_simp
              refine wpAnyH_take (i := 2) (v := ?_) rfl (by kernel_rfl) (by kernel_rfl) (by kernel_rfl) (fun _ _ _ h => h) (Or.inl ⟨by rfl, ?_⟩) hHeld ?_
              rotate_left
              · intro w hSw
                (try dsimp only at hSw)
                go_simp
                try with_reducible rfl
              go_simp
              refine wpAnyH_take (i := 3) (v := ?_) rfl (by kernel_rfl) (by kernel_rfl) (by kernel_rfl) (fun _ _ _ h => h) (Or.inl ⟨by rfl, ?_⟩) hHeld ?_
              rotate_left
              · intro w hSw
                (try dsimp only at hSw)
                go_simp
                try with_reducible rfl
              go_simp
              refine wpAnyH_take (i := 4) (v := ?_) rfl (by kernel_rfl) (by kernel_rfl) (by kernel_rfl) (fun _ _ _ h => h) (Or.inl ⟨by rfl, ?_⟩) hHeld ?_
              rotate_left
              · intro w hSw
                (try dsimp only at hSw)
                go_simp
                try with_reducible rfl
              go_simp
              refine wpAnyH_take (i := 5) (v := ?_) rfl (by kernel_rfl) (by kernel_rfl) (by kernel_rfl) (fun _ _ _ h => h) (Or.inl ⟨by rfl, ?_⟩) hHeld ?_
              rotate_left
              · intro w hSw
                (try dsimp only at hSw)
                go_simp
                try with_reducible rfl
              go_simp
              refine wpAnyH_take (i := 6) (v := ?_) rfl (by kernel_rfl) (by kernel_rfl) (by kernel_rfl) (fun _ _ _ h => h) (Or.inl ⟨by rfl, ?_⟩) hHeld ?_
              rotate_left
              · intro w hSw
                (try dsimp only at hSw)
                go_simp
                try with_reducible rfl
              go_simp
              refine wpAnyH_take (i := 7) (v := ?_) rfl (by kernel_rfl) (by kernel_rfl) (by kernel_rfl) (fun _ _ _ h => h) (Or.inl ⟨by rfl, ?_⟩) hHeld ?_
              rotate_left
              · intro w hSw
                (try dsimp only at hSw)
                go_simp
                try with_reducible rfl
              go_simp
              refine wpAnyH_take (i := 8) (v := ?_) rfl (by kernel_rfl) (by kernel_rfl) (by kernel_rfl) (fun _ _ _ h => h) (Or.inl ⟨by rfl, ?_⟩) hHeld ?_
              rotate_left
              · intro w hSw
                (try dsimp only at hSw)
                go_simp
                try with_reducible rfl
              go_simp
              refine wpAnyH_take (i := 9) (v := ?_) rfl (by kernel_rfl) (by kernel_rfl) (by kernel_rfl) (fun _ _ _ h => h) (Or.inl ⟨by rfl, ?_⟩) hHeld ?_
              rotate_left
              · intro w hSw
                (try dsimp only at hSw)
                go_simp
                try with_reducible rfl
              go_simp
              refine wpAnyH_take (i := 10) (v := ?_) rfl (by kernel_rfl) (by kernel_rfl) (by kernel_rfl) (fun _ _ _ h => h) (Or.inl ⟨by rfl, ?_⟩) hHeld ?_
              rotate_left
              · intro w hSw
                (try dsimp only at hSw)
                go_simp
                try with_reducible rfl
              go_simp
              refine wpAnyH_take (i := 11) (v := ?_) rfl (by kernel_rfl) (by kernel_rfl) (by kernel_rfl) (fun _ _ _ h => h) (Or.inl ⟨by rfl, ?_⟩) hHeld ?_
              rotate_left
              · intro w hSw
                (try dsimp only at hSw)
                go_simp
                try with_reducible rfl
              go_simp
              refine wpAnyH_take (i := 12) (v := ?_) rfl (by kernel_rfl) (by kernel_rfl) (by kernel_rfl) (fun _ _ _ h => h) (Or.inl ⟨by rfl, ?_⟩) hHeld ?_
              rotate_left
              · intro w hSw
                (try dsimp only at hSw)
                go_simp
                try with_reducible rfl
              go_simp
              refine wpAnyH_take (i := 13) (v := ?_) rfl (by kernel_rfl) (by kernel_rfl) (by kernel_rfl) (fun _ _ _ h => h) (Or.inl ⟨by rfl, ?_⟩) hHeld ?_
              rotate_left
              · intro w hSw
                (try dsimp only at hSw)
                go_simp
                try with_reducible rfl
              go_simp
              refine wpAnyH_take (i := 14) (v := ?_) rfl (by kernel_rfl) (by kernel_rfl) (by kernel_rfl) (fun _ _ _ h => h) (Or.inl ⟨by rfl, ?_⟩) hHeld ?_
              rotate_left
              · intro w hSw
                (try dsimp only at hSw)
                go_simp
                try with_reducible rfl
              go_simp
              refine wpAnyH_take (i := 15) (v := ?_) rfl (by kernel_rfl) (by kernel_rfl) (by kernel_rfl) (fun _ _ _ h => h) (Or.inl ⟨by rfl, ?_⟩) hHeld ?_
              rotate_left
              · intro w hSw
                (try dsimp only at hSw)
                go_simp
                try with_reducible rfl
              go_simp
              refine wpAnyH_take (i := 16) (v := ?_) rfl (by kernel_rfl) (by kernel_rfl) (by kernel_rfl) (fun _ _ _ h => h) (Or.inl ⟨by rfl, ?_⟩) hHeld ?_
              rotate_left
              · intro w hSw
                (try dsimp only at hSw)
                go_simp
                try with_reducible rfl
              go_simp
              refine wpAnyH_take (i := 17) (v := ?_) rfl (by kernel_rfl) (by kernel_rfl) (by kernel_rfl) (fun _ _ _ h => h) (Or.inl ⟨by rfl, ?_⟩) hHeld ?_
              rotate_left
              · intro w hSw
                (try dsimp only at hSw)
                go_simp
                try with_reducible rfl
              go_simp
              refine wpAnyH_take (i := 18) (v := ?_) rfl (by kernel_rfl) (by kernel_rfl) (by kernel_rfl) (fun _ _ _ h => h) (Or.inl ⟨by rfl, ?_⟩) hHeld ?_
              rotate_left
              · intro w hSw
                (try dsimp only at hSw)
                go_simp
                try with_reducible rfl
              go_simp
              refine wpAnyH_take (i := 19) (v := ?_) rfl (by kernel_rfl) (by kernel_rfl) (by kernel_rfl) (fun _ _ _ h => h) (Or.inl ⟨by rfl, ?_⟩) hHeld ?_
              rotate_left
              · intro w hSw
                (try dsimp only at hSw)
                go_simp
                try with_reducible rfl
              go_simp
              refine wpAnyH_done (by kernel_rfl) ?_ _
              refine NoPanic.normal ?_
              go_wp2
              go_roundg (gk - 1)
              case measure => omega
              case rel => exact ⟨k + 1, d1, u1, s1, by go_num, by omega, by omega, by rw [HD1.out, HU1.out]; exact hsum1, Lib.hid HBn.out.drew, Lib.hid (HAt.below HHn.out (Below.refl _ _).drew), Lib.hid (by rw [HD1.out]; exact RfAt.below HFn.out (Below.refl _ _).drew), HAt1⟩
            · skip
              by_cases g11 : a = 1
              · have ga := g11
                clear g11
                subst ga
                have PP := Lib.hid (hPush_any HH3.out (Nat.le_trans hbs x3.size) (by omega) oA oA' ol.length oc ol'.length oc' ⟨ol, ol'⟩ (E1.out.below HB3.out) rfl (by omega) (E2.out.below HB3.out) rfl (by omega))
                go_wp2_with fail
                with_reducible refine (PP.out).mono ?_
                rintro e4 w4 ⟨rfl, h4, t4, b4⟩
                have B4 := HB3.out.trans b4
                obtain ⟨fn, hfn⟩ : ∃ fn, fn = if d.length = 100 then 1 else 0 := ⟨_, rfl⟩
                have hF4 := RfAt.onT HF3.out t4 (by decide) (by decide)
                have hln := HA3.out.1
                rw [List.length_append, List.length_reverse] at hln
                have R4 := Lib.hid (rPush_any hF4 (by omega) (by omega) B4.size oA oA' ol.length oc ol'.length oc' fn hfn)
                obtain ⟨ha1, ha2⟩ := args_push HA3.out (by omega) hfn (p := (.slice oA ol.length oc, .slice oA' ol'.length oc')) (y := ⟨ol, ol'⟩) ⟨oA, oc, oA', oc', rfl, E1.out, E2.out, by simp only; omega, by simp only; omega⟩
                have H4 := Lib.hid h4
                have HA1 := Lib.hid ha1
                have HPL := Lib.hid (hpush_le (d := d) (by omega) ⟨ol, ol'⟩)
                have HLN := Lib.hid ha2
                have Q4 := Lib.hid B4
                have R4' := t4 _ _ _ (by decide) HR3.out
                have e0' := RawAt.cell R4' 0
                have e1' := RawAt.cell R4' 1
                have e2' := RawAt.cell R4' 2
                simp at e0' e1' e2'
                clear h4 b4 B4 hF4 ha1 ha2 hfn hln R4' PP t4
                go_wp2_with fail
                with_reducible refine (R4.out).mono ?_
                rintro e6 w6 ⟨rfl, h6, t6, b6⟩
                have H6 := Lib.hid (HAt.onT H4.out t6 (by decide) (by decide) (by decide))
                have F6 := Lib.hid h6
                have B6 := Lib.hid (Q4.out.trans b6)
                rw [← HLN.out] at F6
                clear h6 t6 b6 R4 H4 Q4
                obtain ⟨d1, u1, s1, hsum1, HBt, HHt, HFt, HAt1⟩ : ∃ (d1 u1 : List S2) (s1 : List (Value × Value)), d1.length + u1.length ≤ 100 ∧ Hid (Below w.heap.size w w6) ∧ Hid (HAt w.heap.size w6 w.heap.size d1 u1) ∧ Hid (RfAt w.heap.size w6 rb s1 d1.length) ∧ Hid (ArgsAt w s1 (d1 ++ u1.reverse)) := ⟨_, _, _, by simp; exact HPL.out, B6, H6, F6, HA1⟩
                clear B6 H6 F6 HA1 HPL HLN
                have CS := Lib.hid (hSizes_any HHt.out)
                go_wp2_with fail
                with_reducible refine (CS.out).mono ?_
                rintro e8 w8 ⟨rfl, b8⟩
                have HHn := Lib.hid (HAt.below HHt.out b8)
                have HFn := Lib.hid (RfAt.below HFt.out b8)
                have HBn := Lib.hid (HBt.out.trans (b8.mono HBt.out.size))
                have hsl : s1.length = d1.length + u1.length := by have := HAt1.out.1; rw [List.length_append, List.length_reverse] at this; exact this
                obtain ⟨⟨v9, r9, o9⟩, _, _⟩ := HFn.out
                obtain ⟨A9, c9, rfl⟩ := own_form o9
                have p0 := RawAt.cell r9 0
                have p1 := RawAt.cell r9 1
                simp at p0 p1
                rw [hsl] at p0
                have hr9 := r9.lt
                clear r9 o9 CS hsl HHt HFt HBt
                have HDL := Lib.hid (show d1.length = d1.length from rfl)
                generalize hdl : d1.length = dl at *
                generalize hul : u1.length = ul at *
                have HD1 := Lib.hid hdl
                have HU1 := Lib.hid hul
                clear hdl hul HDL
                have z1 : IntKind.i64.wrap (((dl + ul : Nat) : Int) - (dl : Int)) = (ul : Int) := by rw [show ((dl + ul : Nat) : Int) - (dl : Int) = (ul : Int) by omega]; exact IntWalk.i64_in _ (by omega)
                have z3 : IntKind.i64.wrap ((dl : Int) + (ul : Int) - (dl : Int)) = (ul : Int) := by rw [show (dl : Int) + (ul : Int) - (dl : Int) = (ul : Int) by omega]; exact IntWalk.i64_in _ (by omega)
                have z2 : (dl : Int) + (ul : Int) - (dl : Int) = (ul : Int) := by omega
                have z4 : IntKind.i64.wrap (ul : Int) = (ul : Int) := IntWalk.i64_in _ (by omega)
                have MK : Hid (∀ W : World, Below w8.heap.size w8 W → (fun W : World => W.cell? ⟨rb, 0, none⟩ = some (.slice A9 (dl + ul) c9) ∧ W.cell? ⟨rb, 1, none⟩ = some (.int .i64 (dl : Int))) W) := fun W hW => ⟨(hW.cell (p := ⟨rb, 0, none⟩) hr9).trans p0, (hW.cell (p := ⟨rb, 1, none⟩) hr9).trans p1⟩
                go_wp2_with fail
                refine wp_region_noPanic ?_
                refine wp_region_held_drew (S := (fun W => W.cell? ⟨rb, 0, none⟩ = some (.slice A9 (dl + ul) c9) ∧ W.cell? ⟨rb, 1, none⟩ = some (.int .i64 (dl : Int)))) (by kernel_rfl) (MK.out _ (Below.refl _ _).drew) (fun hHeld => ?_)
                refine wpAnyH_take (i := 0) (v := ?_) rfl (by kernel_rfl) (by kernel_rfl) (by kernel_rfl) (fun _ _ _ h => h) (Or.inl ⟨by rfl, ?_⟩) hHeld ?_
                rotate_left
                · intro w hSw
                  (try dsimp only at hSw)
                  go_simp
                  try with_reducible rfl
                go_simp
                refine wpAnyH_take (i := 1) (v := ?_) rfl (by kernel_rfl) (by kernel_rfl) (by kernel_rfl) (fun _ _ _ h => h) (Or.inl ⟨by rfl, ?_⟩) hHeld ?_
                rotate_left
                · intro w hSw
                  (try dsimp only at hSw)
                  go_simp
                  try with_reducible rfl
                go_simp
                refine wpAnyH_take (i := 2) (v := ?_) rfl (by kernel_rfl) (by kernel_rfl) (by kernel_rfl) (fun _ _ _ h => h) (Or.inl ⟨by rfl, ?_⟩) hHeld ?_
                rotate_left
                · intro w hSw
                  (try dsimp only at hSw)
                  go_simp
                  try with_reducible rfl
                go_simp
                refine wpAnyH_take (i := 3) (v := ?_) rfl (by kernel_rfl) (by kernel_rfl) (by kernel_rfl) (fun _ _ _ h => h) (Or.inl ⟨by rfl, ?_⟩) hHeld ?_
                rotate_left
                · intro w hSw
                  (try dsimp only at hSw)
                  go_simp
                  try with_reducible rfl
                go_simp
                refine wpAnyH_take (i := 4) (v := ?_) rfl (by kernel_rfl) (by kernel_rfl) (by kernel_rfl) (fun _ _ _ h => h) (Or.inl ⟨by rfl, ?_⟩) hHeld ?_
                rotate_left
                · intro w hSw
                  (try dsimp only at hSw)
                  go_simp
                  try with_reducible rfl
                go_simp
                refine wpAnyH_take (i := 5) (v := ?_) rfl (by kernel_rfl) (by kernel_rfl) (by kernel_rfl) (fun _ _ _ h => h) (Or.inl ⟨by rfl, ?_⟩) hHeld ?_
                rotate_left
                · intro w hSw
                  (try dsimp only at hSw)
                  go_simp
                  try with_reducible rfl
                go_simp
                refine wpAnyH_take (i := 6) (v := ?_) rfl (by kernel_rfl) (by kernel_rfl) (by kernel_rfl) (fun _ _ _ h => h) (Or.inl ⟨by rfl, ?_⟩) hHeld ?_
                rotate_left
                · intro w hSw
                  (try dsimp only at hSw)
                  go_simp
                  try with_reducible rfl
                go_simp
                refine wpAnyH_take (i := 7) (v := ?_) rfl (by kernel_rfl) (by kernel_rfl) (by kernel_rfl) (fun _ _ _ h => h) (Or.inl ⟨by rfl, ?_⟩) hHeld ?_
                rotate_left
                · intro w hSw
                  (try dsimp only at hSw)
                  go_simp
                  try with_reducible rfl
                go_simp
                refine wpAnyH_take (i := 8) (v := ?_) rfl (by kernel_rfl) (by kernel_rfl) (by kernel_rfl) (fun _ _ _ h => h) (Or.inl ⟨by rfl, ?_⟩) hHeld ?_
                rotate_left
                · intro w hSw
                  (try dsimp only at hSw)
                  go_simp
                  try with_reducible rfl
                go_simp
                refine wpAnyH_take (i := 9) (v := ?_) rfl (by kernel_rfl) (by kernel_rfl) (by kernel_rfl) (fun _ _ _ h => h) (Or.inl ⟨by rfl, ?_⟩) hHeld ?_
                rotate_left
                · intro w hSw
                  (try dsimp only at hSw)
                  go_simp
                  try with_reducible rfl
                go_simp
                refine wpAnyH_take (i := 10) (v := ?_) rfl (by kernel_rfl) (by kernel_rfl) (by kernel_rfl) (fun _ _ _ h => h) (Or.inl ⟨by rfl, ?_⟩) hHeld ?_
                rotate_left
                · intro w hSw
                  (try dsimp only at hSw)
                  go_simp
                  try with_reducible rfl
                go_simp
                refine wpAnyH_take (i := 11) (v := ?_) rfl (by kernel_rfl) (by kernel_rfl) (by kernel_rfl) (fun _ _ _ h => h) (Or.inl ⟨by rfl, ?_⟩) hHeld ?_
                rotate_left
                · intro w hSw
                  (try dsimp only at hSw)
                  go_simp
                  try with_reducible rfl
                go_simp
                refine wpAnyH_take (i := 12) (v := ?_) rfl (by kernel_rfl) (by kernel_rfl) (by kernel_rfl) (fun _ _ _ h => h) (Or.inl ⟨by rfl, ?_⟩) hHeld ?_
                rotate_left
                · intro w hSw
                  (try dsimp only at hSw)
                  go_simp
                  try with_reducible rfl
                go_simp
                refine wpAnyH_take (i := 13) (v := ?_) rfl (by kernel_rfl) (by kernel_rfl) (by kernel_rfl) (fun _ _ _ h => h) (Or.inl ⟨by rfl, ?_⟩) hHeld ?_
                rotate_left
                · intro w hSw
                  (try dsimp only at hSw)
                  go_simp
                  try with_reducible rfl
                go_simp
                refine wpAnyH_take (i := 14) (v := ?_) rfl (by kernel_rfl) (by kernel_rfl) (by kernel_rfl) (fun _ _ _ h => h) (Or.inl ⟨by rfl, ?_⟩) hHeld ?_
                rotate_left
                · intro w hSw
                  (try dsimp only at hSw)
                  go_simp
                  try with_reducible rfl
                go_simp
                refine wpAnyH_take (i := 15) (v := ?_) rfl (by kernel_rfl) (by kernel_rfl) (by kernel_rfl) (fun _ _ _ h => h) (Or.inl ⟨by rfl, ?_⟩) hHeld ?_
                rotate_left
                · intro w hSw
                  (try dsimp only at hSw)
                  go_simp
                  try with_reducible rfl
                go_simp
                refine wpAnyH_take (i := 16) (v := ?_) rfl (by kernel_rfl) (by kernel_rfl) (by kernel_rfl) (fun _ _ _ h => h) (Or.inl ⟨by rfl, ?_⟩) hHeld ?_
                rotate_left
                · intro w hSw
                  (try dsimp only at hSw)
                  go_simp
                  try with_reducible rfl
                go_simp
                refine wpAnyH_take (i := 17) (v := ?_) rfl (by kernel_rfl) (by kernel_rfl) (by kernel_rfl) (fun _ _ _ h => h) (Or.inl ⟨by rfl, ?_⟩) hHeld ?_
                rotate_left
                · intro w hSw
                  (try dsimp only at hSw)
                  go_simp
                  try with_reducible rfl
                go_simp
                refine wpAnyH_take (i := 18) (v := ?_) rfl (by kernel_rfl) (by kernel_rfl) (by kernel_rfl) (fun _ _ _ h => h) (Or.inl ⟨by rfl, ?_⟩) hHeld ?_
                rotate_left
                · intro w hSw
                  (try dsimp only at hSw)
                  go_simp
                  try with_reducible rfl
                go_simp
                refine wpAnyH_take (i := 19) (v := ?_) rfl (by kernel_rfl) (by kernel_rfl) (by kernel_rfl) (fun _ _ _ h => h) (Or.inl ⟨by rfl, ?_⟩) hHeld ?_
                rotate_left
                · intro w hSw
                  (try dsimp only at hSw)
                  go_simp
                  try with_reducible rfl
                go_simp
                refine wpAnyH_done (by kernel_rfl) ?_ _
                refine NoPanic.normal ?_
                go_wp2
                go_roundg (gk - 1)
                case measure => omega
                case rel => exact ⟨k + 1, d1, u1, s1, by go_num, by omega, by omega, by rw [HD1.out, HU1.out]; exact hsum1, Lib.hid HBn.out.drew, Lib.hid (HAt.below HHn.out (Below.refl _ _).drew), Lib.hid (by rw [HD1.out]; exact RfAt.below HFn.out (Below.refl _ _).drew), HAt1⟩
              · skip
                by_cases g12 : a = 2
                · have ga := g12
                  clear g12
                  subst ga
                  rcases List.eq_nil_or_concat d with hd | ⟨d', y, hd⟩
                  · subst hd
                    have PU := Lib.hid (hUndo_none HH3.out)
                    go_wp2_with fail
                    with_reducible refine (PU.out).mono ?_
                    rintro e4 w4 ⟨v4, rfl, o4, b4⟩
                    obtain ⟨A4, c4, rfl⟩ : ∃ A c, v4 = .slice A 0 c := own_form o4
                    have RU := Lib.hid (rUndo_none (RfAt.below HF3.out b4) rfl)
                    have H4 := Lib.hid (HAt.below HH3.out b4)
                    have F4 := Lib.hid (RfAt.below HF3.out b4)
                    have B4 := Lib.hid (HB3.out.trans (b4.mono HB3.out.size))
                    clear o4 b4 PU HH3 HF3
                    go_wp2_with fail
                    with_reducible refine (RU.out).mono ?_
                    rintro e5 w5 ⟨rfl, b5⟩
                    have PE := Lib.hid (pledits_any A4 none 0 c4 0 [] w5 (fun h => absurd h (by simp)) (fun h => absurd h (by simp)) rfl (by omega))
                    go_wp2_with fail
                    with_reducible refine (PE.out).mono ?_
                    rintro e6 w6 ⟨rfl, b6⟩
                    have q6 := b5.trans (b6.mono b5.size)
                    have H6 := Lib.hid (HAt.below H4.out q6)
                    have F6 := Lib.hid (RfAt.below F4.out q6)
                    have B6 := Lib.hid (B4.out.trans (q6.mono B4.out.size))
                    clear b5 b6 q6 H4 F4 B4 RU PE
                    obtain ⟨d1, u1, s1, hsum1, HBt, HHt, HFt, HAt1⟩ : ∃ (d1 u1 : List S2) (s1 : List (Value × Value)), d1.length + u1.length ≤ 100 ∧ Hid (Below w.heap.size w w6) ∧ Hid (HAt w.heap.size w6 w.heap.size d1 u1) ∧ Hid (RfAt w.heap.size w6 rb s1 d1.length) ∧ Hid (ArgsAt w s1 (d1 ++ u1.reverse)) := ⟨[], u, s, hdu, B6, H6, F6, HA3⟩
                    clear B6 H6 F6
                    have CS := Lib.hid (hSizes_any HHt.out)
                    go_wp2_with fail
                    with_reducible refine (CS.out).mono ?_
                    rintro e8 w8 ⟨rfl, b8⟩
                    have HHn := Lib.hid (HAt.below HHt.out b8)
                    have HFn := Lib.hid (RfAt.below HFt.out b8)
                    have HBn := Lib.hid (HBt.out.trans (b8.mono HBt.out.size))
                    have hsl : s1.length = d1.length + u1.length := by have := HAt1.out.1; rw [List.length_append, List.length_reverse] at this; exact this
                    obtain ⟨⟨v9, r9, o9⟩, _, _⟩ := HFn.out
                    obtain ⟨A9, c9, rfl⟩ := own_form o9
                    have p0 := RawAt.cell r9 0
                    have p1 := RawAt.cell r9 1
                    simp at p0 p1
                    rw [hsl] at p0
                    have hr9 := r9.lt
                    clear r9 o9 CS hsl HHt HFt HBt
                    have HDL := Lib.hid (show d1.length = d1.length from rfl)
                    generalize hdl : d1.length = dl at *
                    generalize hul : u1.length = ul at *
                    have HD1 := Lib.hid hdl
                    have HU1 := Lib.hid hul
                    clear hdl hul HDL
                    have z1 : IntKind.i64.wrap (((dl + ul : Nat) : Int) - (dl : Int)) = (ul : Int) := by rw [show ((dl + ul : Nat) : Int) - (dl : Int) = (ul : Int) by omega]; exact IntWalk.i64_in _ (by omega)
                    have z3 : IntKind.i64.wrap ((dl : Int) + (ul : Int) - (dl : Int)) = (ul : Int) := by rw [show (dl : Int) + (ul : Int) - (dl : Int) = (ul : Int) by omega]; exact IntWalk.i64_in _ (by omega)
                    have z2 : (dl : Int) + (ul : Int) - (dl : Int) = (ul : Int) := by omega
                    have z4 : IntKind.i64.wrap (ul : Int) = (ul : Int) := IntWalk.i64_in _ (by omega)
                    have MK : Hid (∀ W : World, Below w8.heap.size w8 W → (fun W : World => W.cell? ⟨rb, 0, none⟩ = some (.slice A9 (dl + ul) c9) ∧ W.cell? ⟨rb, 1, none⟩ = some (.int .i64 (dl : Int))) W) := fun W hW => ⟨(hW.cell (p := ⟨rb, 0, none⟩) hr9).trans p0, (hW.cell (p := ⟨rb, 1, none⟩) hr9).trans p1⟩
                    go_wp2_with fail
                    refine wp_region_noPanic ?_
                    refine wp_region_held_drew (S := (fun W => W.cell? ⟨rb, 0, none⟩ = some (.slice A9 (dl + ul) c9) ∧ W.cell? ⟨rb, 1, none⟩ = some (.int .i64 (dl : Int)))) (by kernel_rfl) (MK.out _ (Below.refl _ _).drew) (fun hHeld => ?_)
                    refine wpAnyH_take (i := 0) (v := ?_) rfl (by kernel_rfl) (by kernel_rfl) (by kernel_rfl) (fun _ _ _ h => h) (Or.inl ⟨by rfl, ?_⟩) hHeld ?_
                    rotate_left
                    · intro w hSw
                      (try dsimp only at hSw)
                      go_simp
                      try with_reducible rfl
                    go_simp
                    refine wpAnyH_take (i := 1) (v := ?_) rfl (by kernel_rfl) (by kernel_rfl) (by kernel_rfl) (fun _ _ _ h => h) (Or.inl ⟨by rfl, ?_⟩) hHeld ?_
                    rotate_left
                    · intro w hSw
                      (try dsimp only at hSw)
                      go_simp
                      try with_reducible rfl
                    go_simp
                    refine wpAnyH_take (i := 2) (v := ?_) rfl (by kernel_rfl) (by kernel_rfl) (by kernel_rfl) (fun _ _ _ h => h) (Or.inl ⟨by rfl, ?_⟩) hHeld ?_
                    rotate_left
                    · intro w hSw
                      (try dsimp only at hSw)
                      go_simp
                      try with_reducible rfl
                    go_simp
                    refine wpAnyH_take (i := 3) (v := ?_) rfl (by kernel_rfl) (by kernel_rfl) (by kernel_rfl) (fun _ _ _ h => h) (Or.inl ⟨by rfl, ?_⟩) hHeld ?_
                    rotate_left
                    · intro w hSw
                      (try dsimp only at hSw)
                      go_simp
                      try with_reducible rfl
                    go_simp
                    refine wpAnyH_take (i := 4) (v := ?_) rfl (by kernel_rfl) (by kernel_rfl) (by kernel_rfl) (fun _ _ _ h => h) (Or.inl ⟨by rfl, ?_⟩) hHeld ?_
                    rotate_left
                    · intro w hSw
                      (try dsimp only at hSw)
                      go_simp
                      try with_reducible rfl
                    go_simp
                    refine wpAnyH_take (i := 5) (v := ?_) rfl (by kernel_rfl) (by kernel_rfl) (by kernel_rfl) (fun _ _ _ h => h) (Or.inl ⟨by rfl, ?_⟩) hHeld ?_
                    rotate_left
                    · intro w hSw
                      (try dsimp only at hSw)
                      go_simp
                      try with_reducible rfl
                    go_simp
                    refine wpAnyH_take (i := 6) (v := ?_) rfl (by kernel_rfl) (by kernel_rfl) (by kernel_rfl) (fun _ _ _ h => h) (Or.inl ⟨by rfl, ?_⟩) hHeld ?_
                    rotate_left
                    · intro w hSw
                      (try dsimp only at hSw)
                      go_simp
                      try with_reducible rfl
                    go_simp
                    refine wpAnyH_take (i := 7) (v := ?_) rfl (by kernel_rfl) (by kernel_rfl) (by kernel_rfl) (fun _ _ _ h => h) (Or.inl ⟨by rfl, ?_⟩) hHeld ?_
                    rotate_left
                    · intro w hSw
                      (try dsimp only at hSw)
                      go_simp
                      try with_reducible rfl
                    go_simp
                    refine wpAnyH_take (i := 8) (v := ?_) rfl (by kernel_rfl) (by kernel_rfl) (by kernel_rfl) (fun _ _ _ h => h) (Or.inl ⟨by rfl, ?_⟩) hHeld ?_
                    rotate_left
                    · intro w hSw
                      (try dsimp only at hSw)
                      go_simp
                      try with_reducible rfl
                    go_simp
                    refine wpAnyH_take (i := 9) (v := ?_) rfl (by kernel_rfl) (by kernel_rfl) (by kernel_rfl) (fun _ _ _ h => h) (Or.inl ⟨by rfl, ?_⟩) hHeld ?_
                    rotate_left
                    · intro w hSw
                      (try dsimp only at hSw)
                      go_simp
                      try with_reducible rfl
                    go_simp
                    refine wpAnyH_take (i := 10) (v := ?_) rfl (by kernel_rfl) (by kernel_rfl) (by kernel_rfl) (fun _ _ _ h => h) (Or.inl ⟨by rfl, ?_⟩) hHeld ?_
                    rotate_left
                    · intro w hSw
                      (try dsimp only at hSw)
                      go_simp
                      try with_reducible rfl
                    go_simp
                    refine wpAnyH_take (i := 11) (v := ?_) rfl (by kernel_rfl) (by kernel_rfl) (by kernel_rfl) (fun _ _ _ h => h) (Or.inl ⟨by rfl, ?_⟩) hHeld ?_
                    rotate_left
                    · intro w hSw
                      (try dsimp only at hSw)
                      go_simp
                      try with_reducible rfl
                    go_simp
                    refine wpAnyH_take (i := 12) (v := ?_) rfl (by kernel_rfl) (by kernel_rfl) (by kernel_rfl) (fun _ _ _ h => h) (Or.inl ⟨by rfl, ?_⟩) hHeld ?_
                    rotate_left
                    · intro w hSw
                      (try dsimp only at hSw)
                      go_simp
                      try with_reducible rfl
                    go_simp
                    refine wpAnyH_take (i := 13) (v := ?_) rfl (by kernel_rfl) (by kernel_rfl) (by kernel_rfl) (fun _ _ _ h => h) (Or.inl ⟨by rfl, ?_⟩) hHeld ?_
                    rotate_left
                    · intro w hSw
                      (try dsimp only at hSw)
                      go_simp
                      try with_reducible rfl
                    go_simp
                    refine wpAnyH_take (i := 14) (v := ?_) rfl (by kernel_rfl) (by kernel_rfl) (by kernel_rfl) (fun _ _ _ h => h) (Or.inl ⟨by rfl, ?_⟩) hHeld ?_
                    rotate_left
                    · intro w hSw
                      (try dsimp only at hSw)
                      go_simp
                      try with_reducible rfl
                    go_simp
                    refine wpAnyH_take (i := 15) (v := ?_) rfl (by kernel_rfl) (by kernel_rfl) (by kernel_rfl) (fun _ _ _ h => h) (Or.inl ⟨by rfl, ?_⟩) hHeld ?_
                    rotate_left
                    · intro w hSw
                      (try dsimp only at hSw)
                      go_simp
                      try with_reducible rfl
                    go_simp
                    refine wpAnyH_take (i := 16) (v := ?_) rfl (by kernel_rfl) (by kernel_rfl) (by kernel_rfl) (fun _ _ _ h => h) (Or.inl ⟨by rfl, ?_⟩) hHeld ?_
                    rotate_left
                    · intro w hSw
                      (try dsimp only at hSw)
                      go_simp
                      try with_reducible rfl
                    go_simp
                    refine wpAnyH_take (i := 17) (v := ?_) rfl (by kernel_rfl) (by kernel_rfl) (by kernel_rfl) (fun _ _ _ h => h) (Or.inl ⟨by rfl, ?_⟩) hHeld ?_
                    rotate_left
                    · intro w hSw
                      (try dsimp only at hSw)
                      go_simp
                      try with_reducible rfl
                    go_simp
                    refine wpAnyH_take (i := 18) (v := ?_) rfl (by kernel_rfl) (by kernel_rfl) (by kernel_rfl) (fun _ _ _ h => h) (Or.inl ⟨by rfl, ?_⟩) hHeld ?_
                    rotate_left
                    · intro w hSw
                      (try dsimp only at hSw)
                      go_simp
                      try with_reducible rfl
                    go_simp
                    refine wpAnyH_take (i := 19) (v := ?_) rfl (by kernel_rfl) (by kernel_rfl) (by kernel_rfl) (fun _ _ _ h => h) (Or.inl ⟨by rfl, ?_⟩) hHeld ?_
                    rotate_left
                    · intro w hSw
                      (try dsimp only at hSw)
                      go_simp
                      try with_reducible rfl
                    go_simp
                    refine wpAnyH_done (by kernel_rfl) ?_ _
                    refine NoPanic.normal ?_
                    go_wp2
                    go_roundg (gk - 1)
                    case measure => omega
                    case rel => exact ⟨k + 1, d1, u1, s1, by go_num, by omega, by omega, by rw [HD1.out, HU1.out]; exact hsum1, Lib.hid HBn.out.drew, Lib.hid (HAt.below HHn.out (Below.refl _ _).drew), Lib.hid (by rw [HD1.out]; exact RfAt.below HFn.out (Below.refl _ _).drew), HAt1⟩
                  · skip
                    rw [List.concat_eq_append] at hd
                    subst hd
                    obtain ⟨p, hp1, A1, c1, A2, c2, rfl, ea, eb, l1, l2⟩ := HA3.out.2 d'.length y (getmid d' u.reverse y)
                    have hln := HA3.out.1
                    rw [List.length_append, List.length_reverse] at hln
                    (try simp only [List.length_append, List.length_cons, List.length_nil] at hdu)
                    (try simp only [List.length_append, List.length_cons, List.length_nil] at hln)
                    have PU := Lib.hid (hUndo_any HH3.out (Nat.le_trans hbs x3.size) (by omega) (by omega) (by omega))
                    have EX := Lib.hid ea
                    have HP1 := Lib.hid hp1
                    have LX : y.b.length ≤ 70 := by omega
                    clear ea eb hp1
                    go_wp2_with fail
                    with_reducible refine (PU.out).mono ?_
                    rintro e4 w4 ⟨v4, rfl, o4, h4, t4, b4⟩
                    obtain ⟨A4, c4, rfl⟩ := own_form o4
                    have B4 := Lib.hid (HB3.out.trans b4)
                    have RU := Lib.hid (rUndo_any (RfAt.onT HF3.out t4 (by decide) (by decide)) (by omega) B4.out.size (m := d'.length) (by simp) HP1.out)
                    have H4 := Lib.hid h4
                    have O4 := Lib.hid o4
                    clear h4 o4 t4 b4 PU HH3 HF3
                    go_wp2_with fail
                    with_reducible refine (RU.out).mono ?_
                    rintro e5 w5 ⟨rfl, f5, t5, b5⟩
                    have B5 := Lib.hid (B4.out.trans b5)
                    have H5 := Lib.hid (HAt.onT H4.out t5 (by decide) (by decide) (by decide))
                    have F5 := Lib.hid f5
                    obtain ⟨A5, c5, hv, hE, _, _⟩ := eds_of_own (own_onT O4.out t5 (by decide))
                    injection hv with hv1 _ hv2
                    subst hv1
                    clear hv2
                    have PE := Lib.hid (pledits_any A4 A1 y.b.length c4 c1 y.b w5 hE (EX.out.below B5.out) rfl (by omega))
                    clear hE f5 t5 b5 RU H4 B4 O4
                    go_wp2_with fail
                    with_reducible refine (PE.out).mono ?_
                    rintro e6 w6 ⟨rfl, b6⟩
                    have H6 := Lib.hid (HAt.below H5.out b6)
                    have F6 := Lib.hid (RfAt.below F5.out b6)
                    have B6 := Lib.hid (B5.out.trans (b6.mono B5.out.size))
                    clear b6 H5 F5 B5 PE EX
                    obtain ⟨d1, u1, s1, hsum1, HBt, HHt, HFt, HAt1⟩ : ∃ (d1 u1 : List S2) (s1 : List (Value × Value)), d1.length + u1.length ≤ 100 ∧ Hid (Below w.heap.size w w6) ∧ Hid (HAt w.heap.size w6 w.heap.size d1 u1) ∧ Hid (RfAt w.heap.size w6 rb s1 d1.length) ∧ Hid (ArgsAt w s1 (d1 ++ u1.reverse)) := ⟨d', u ++ [y], s, by rw [List.length_append]; simp; omega, B6, H6, F6, Lib.hid (by rw [← rev_move]; exact HA3.out)⟩
                    clear B6 H6 F6
                    have CS := Lib.hid (hSizes_any HHt.out)
                    go_wp2_with fail
                    with_reducible refine (CS.out).mono ?_
                    rintro e8 w8 ⟨rfl, b8⟩
                    have HHn := Lib.hid (HAt.below HHt.out b8)
                    have HFn := Lib.hid (RfAt.below HFt.out b8)
                    have HBn := Lib.hid (HBt.out.trans (b8.mono HBt.out.size))
                    have hsl : s1.length = d1.length + u1.length := by have := HAt1.out.1; rw [List.length_append, List.length_reverse] at this; exact this
                    obtain ⟨⟨v9, r9, o9⟩, _, _⟩ := HFn.out
                    obtain ⟨A9, c9, rfl⟩ := own_form o9
                    have p0 := RawAt.cell r9 0
                    have p1 := RawAt.cell r9 1
                    simp at p0 p1
                    rw [hsl] at p0
                    have hr9 := r9.lt
                    clear r9 o9 CS hsl HHt HFt HBt
                    have HDL := Lib.hid (show d1.length = d1.length from rfl)
                    generalize hdl : d1.length = dl at *
                    generalize hul : u1.length = ul at *
                    have HD1 := Lib.hid hdl
                    have HU1 := Lib.hid hul
                    clear hdl hul HDL
                    have z1 : IntKind.i64.wrap (((dl + ul : Nat) : Int) - (dl : Int)) = (ul : Int) := by rw [show ((dl + ul : Nat) : Int) - (dl : Int) = (ul : Int) by omega]; exact IntWalk.i64_in _ (by omega)
                    have z3 : IntKind.i64.wrap ((dl : Int) + (ul : Int) - (dl : Int)) = (ul : Int) := by rw [show (dl : Int) + (ul : Int) - (dl : Int) = (ul : Int) by omega]; exact IntWalk.i64_in _ (by omega)
                    have z2 : (dl : Int) + (ul : Int) - (dl : Int) = (ul : Int) := by omega
                    have z4 : IntKind.i64.wrap (ul : Int) = (ul : Int) := IntWalk.i64_in _ (by omega)
                    have MK : Hid (∀ W : World, Below w8.heap.size w8 W → (fun W : World => W.cell? ⟨rb, 0, none⟩ = some (.slice A9 (dl + ul) c9) ∧ W.cell? ⟨rb, 1, none⟩ = some (.int .i64 (dl : Int))) W) := fun W hW => ⟨(hW.cell (p := ⟨rb, 0, none⟩) hr9).trans p0, (hW.cell (p := ⟨rb, 1, none⟩) hr9).trans p1⟩
                    go_wp2_with fail
                    refine wp_region_noPanic ?_
                    refine wp_region_held_drew (S := (fun W => W.cell? ⟨rb, 0, none⟩ = some (.slice A9 (dl + ul) c9) ∧ W.cell? ⟨rb, 1, none⟩ = some (.int .i64 (dl : Int)))) (by kernel_rfl) (MK.out _ (Below.refl _ _).drew) (fun hHeld => ?_)
                    refine wpAnyH_take (i := 0) (v := ?_) rfl (by kernel_rfl) (by kernel_rfl) (by kernel_rfl) (fun _ _ _ h => h) (Or.inl ⟨by rfl, ?_⟩) hHeld ?_
                    rotate_left
                    · intro w hSw
                      (try dsimp only at hSw)
                      go_simp
                      try with_reducible rfl
                    go_simp
                    refine wpAnyH_take (i := 1) (v := ?_) rfl (by kernel_rfl) (by kernel_rfl) (by kernel_rfl) (fun _ _ _ h => h) (Or.inl ⟨by rfl, ?_⟩) hHeld ?_
                    rotate_left
                    · intro w hSw
                      (try dsimp only at hSw)
                      go_simp
                      try with_reducible rfl
                    go_simp
                    refine wpAnyH_take (i := 2) (v := ?_) rfl (by kernel_rfl) (by kernel_rfl) (by kernel_rfl) (fun _ _ _ h => h) (Or.inl ⟨by rfl, ?_⟩) hHeld ?_
                    rotate_left
                    · intro w hSw
                      (try dsimp only at hSw)
                      go_simp
                      try with_reducible rfl
                    go_simp
                    refine wpAnyH_take (i := 3) (v := ?_) rfl (by kernel_rfl) (by kernel_rfl) (by kernel_rfl) (fun _ _ _ h => h) (Or.inl ⟨by rfl, ?_⟩) hHeld ?_
                    rotate_left
                    · intro w hSw
                      (try dsimp only at hSw)
                      go_simp
                      try with_reducible rfl
                    go_simp
                    refine wpAnyH_take (i := 4) (v := ?_) rfl (by kernel_rfl) (by kernel_rfl) (by kernel_rfl) (fun _ _ _ h => h) (Or.inl ⟨by rfl, ?_⟩) hHeld ?_
                    rotate_left
                    · intro w hSw
                      (try dsimp only at hSw)
                      go_simp
                      try with_reducible rfl
                    go_simp
                    refine wpAnyH_take (i := 5) (v := ?_) rfl (by kernel_rfl) (by kernel_rfl) (by kernel_rfl) (fun _ _ _ h => h) (Or.inl ⟨by rfl, ?_⟩) hHeld ?_
                    rotate_left
                    · intro w hSw
                      (try dsimp only at hSw)
                      go_simp
                      try with_reducible rfl
                    go_simp
                    refine wpAnyH_take (i := 6) (v := ?_) rfl (by kernel_rfl) (by kernel_rfl) (by kernel_rfl) (fun _ _ _ h => h) (Or.inl ⟨by rfl, ?_⟩) hHeld ?_
                    rotate_left
                    · intro w hSw
                      (try dsimp only at hSw)
                      go_simp
                      try with_reducible rfl
                    go_simp
                    refine wpAnyH_take (i := 7) (v := ?_) rfl (by kernel_rfl) (by kernel_rfl) (by kernel_rfl) (fun _ _ _ h => h) (Or.inl ⟨by rfl, ?_⟩) hHeld ?_
                    rotate_left
                    · intro w hSw
                      (try dsimp only at hSw)
                      go_simp
                      try with_reducible rfl
                    go_simp
                    refine wpAnyH_take (i := 8) (v := ?_) rfl (by kernel_rfl) (by kernel_rfl) (by kernel_rfl) (fun _ _ _ h => h) (Or.inl ⟨by rfl, ?_⟩) hHeld ?_
                    rotate_left
                    · intro w hSw
                      (try dsimp only at hSw)
                      go_simp
                      try with_reducible rfl
                    go_simp
                    refine wpAnyH_take (i := 9) (v := ?_) rfl (by kernel_rfl) (by kernel_rfl) (by kernel_rfl) (fun _ _ _ h => h) (Or.inl ⟨by rfl, ?_⟩) hHeld ?_
                    rotate_left
                    · intro w hSw
                      (try dsimp only at hSw)
                      go_simp
                      try with_reducible rfl
                    go_simp
                    refine wpAnyH_take (i := 10) (v := ?_) rfl (by kernel_rfl) (by kernel_rfl) (by kernel_rfl) (fun _ _ _ h => h) (Or.inl ⟨by rfl, ?_⟩) hHeld ?_
                    rotate_left
                    · intro w hSw
                      (try dsimp only at hSw)
                      go_simp
                      try with_reducible rfl
                    go_simp
                    refine wpAnyH_take (i := 11) (v := ?_) rfl (by kernel_rfl) (by kernel_rfl) (by kernel_rfl) (fun _ _ _ h => h) (Or.inl ⟨by rfl, ?_⟩) hHeld ?_
                    rotate_left
                    · intro w hSw
                      (try dsimp only at hSw)
                      go_simp
                      try with_reducible rfl
                    go_simp
                    refine wpAnyH_take (i := 12) (v := ?_) rfl (by kernel_rfl) (by kernel_rfl) (by kernel_rfl) (fun _ _ _ h => h) (Or.inl ⟨by rfl, ?_⟩) hHeld ?_
                    rotate_left
                    · intro w hSw
                      (try dsimp only at hSw)
                      go_simp
                      try with_reducible rfl
                    go_simp
                    refine wpAnyH_take (i := 13) (v := ?_) rfl (by kernel_rfl) (by kernel_rfl) (by kernel_rfl) (fun _ _ _ h => h) (Or.inl ⟨by rfl, ?_⟩) hHeld ?_
                    rotate_left
                    · intro w hSw
                      (try dsimp only at hSw)
                      go_simp
                      try with_reducible rfl
                    go_simp
                    refine wpAnyH_take (i := 14) (v := ?_) rfl (by kernel_rfl) (by kernel_rfl) (by kernel_rfl) (fun _ _ _ h => h) (Or.inl ⟨by rfl, ?_⟩) hHeld ?_
                    rotate_left
                    · intro w hSw
                      (try dsimp only at hSw)
                      go_simp
                      try with_reducible rfl
                    go_simp
                    refine wpAnyH_take (i := 15) (v := ?_) rfl (by kernel_rfl) (by kernel_rfl) (by kernel_rfl) (fun _ _ _ h => h) (Or.inl ⟨by rfl, ?_⟩) hHeld ?_
                    rotate_left
                    · intro w hSw
                      (try dsimp only at hSw)
                      go_simp
                      try with_reducible rfl
                    go_simp
                    refine wpAnyH_take (i := 16) (v := ?_) rfl (by kernel_rfl) (by kernel_rfl) (by kernel_rfl) (fun _ _ _ h => h) (Or.inl ⟨by rfl, ?_⟩) hHeld ?_
                    rotate_left
                    · intro w hSw
                      (try dsimp only at hSw)
                      go_simp
                      try with_reducible rfl
                    go_simp
                    refine wpAnyH_take (i := 17) (v := ?_) rfl (by kernel_rfl) (by kernel_rfl) (by kernel_rfl) (fun _ _ _ h => h) (Or.inl ⟨by rfl, ?_⟩) hHeld ?_
                    rotate_left
                    · intro w hSw
                      (try dsimp only at hSw)
                      go_simp
                      try with_reducible rfl
                    go_simp
                    refine wpAnyH_take (i := 18) (v := ?_) rfl (by kernel_rfl) (by kernel_rfl) (by kernel_rfl) (fun _ _ _ h => h) (Or.inl ⟨by rfl, ?_⟩) hHeld ?_
                    rotate_left
                    · intro w hSw
                      (try dsimp only at hSw)
                      go_simp
                      try with_reducible rfl
                    go_simp
                    refine wpAnyH_take (i := 19) (v := ?_) rfl (by kernel_rfl) (by kernel_rfl) (by kernel_rfl) (fun _ _ _ h => h) (Or.inl ⟨by rfl, ?_⟩) hHeld ?_
                    rotate_left
                    · intro w hSw
                      (try dsimp only at hSw)
                      go_simp
                      try with_reducible rfl
                    go_simp
                    refine wpAnyH_done (by kernel_rfl) ?_ _
                    refine NoPanic.normal ?_
                    go_wp2
                    go_roundg (gk - 1)
                    case measure => omega
                    case rel => exact ⟨k + 1, d1, u1, s1, by go_num, by omega, by omega, by rw [HD1.out, HU1.out]; exact hsum1, Lib.hid HBn.out.drew, Lib.hid (HAt.below HHn.out (Below.refl _ _).drew), Lib.hid (by rw [HD1.out]; exact RfAt.below HFn.out (Below.refl _ _).drew), HAt1⟩
                · skip
                  by_cases g13 : a = 3
                  · have ga := g13
                    clear g13
                    subst ga
                    rcases List.eq_nil_or_concat d with hd | ⟨d', y, hd⟩
                    · subst hd
                      have PU := Lib.hid (hUndo_none HH3.out)
                      go_wp2_with fail
                      with_reducible refine (PU.out).mono ?_
                      rintro e4 w4 ⟨v4, rfl, o4, b4⟩
                      obtain ⟨A4, c4, rfl⟩ : ∃ A c, v4 = .slice A 0 c := own_form o4
                      have RU := Lib.hid (rUndo_none (RfAt.below HF3.out b4) rfl)
                      have H4 := Lib.hid (HAt.below HH3.out b4)
                      have F4 := Lib.hid (RfAt.below HF3.out b4)
                      have B4 := Lib.hid (HB3.out.trans (b4.mono HB3.out.size))
                      clear o4 b4 PU HH3 HF3
                      go_wp2_with fail
                      with_reducible refine (RU.out).mono ?_
                      rintro e5 w5 ⟨rfl, b5⟩
                      have PE := Lib.hid (pledits_any A4 none 0 c4 0 [] w5 (fun h => absurd h (by simp)) (fun h => absurd h (by simp)) rfl (by omega))
                      go_wp2_with fail
                      with_reducible refine (PE.out).mono ?_
                      rintro e6 w6 ⟨rfl, b6⟩
                      have q6 := b5.trans (b6.mono b5.size)
                      have H6 := Lib.hid (HAt.below H4.out q6)
                      have F6 := Lib.hid (RfAt.below F4.out q6)
                      have B6 := Lib.hid (B4.out.trans (q6.mono B4.out.size))
                      clear b5 b6 q6 H4 F4 B4 RU PE
                      obtain ⟨d1, u1, s1, hsum1, HBt, HHt, HFt, HAt1⟩ : ∃ (d1 u1 : List S2) (s1 : List (Value × Value)), d1.length + u1.length ≤ 100 ∧ Hid (Below w.heap.size w w6) ∧ Hid (HAt w.heap.size w6 w.heap.size d1 u1) ∧ Hid (RfAt w.heap.size w6 rb s1 d1.length) ∧ Hid (ArgsAt w s1 (d1 ++ u1.reverse)) := ⟨[], u, s, hdu, B6, H6, F6, HA3⟩
                      clear B6 H6 F6
                      have CS := Lib.hid (hSizes_any HHt.out)
                      go_wp2_with fail
                      with_reducible refine (CS.out).mono ?_
                      rintro e8 w8 ⟨rfl, b8⟩
                      have HHn := Lib.hid (HAt.below HHt.out b8)
                      have HFn := Lib.hid (RfAt.below HFt.out b8)
                      have HBn := Lib.hid (HBt.out.trans (b8.mono HBt.out.size))
                      have hsl : s1.length = d1.length + u1.length := by have := HAt1.out.1; rw [List.length_append, List.length_reverse] at this; exact this
                      obtain ⟨⟨v9, r9, o9⟩, _, _⟩ := HFn.out
                      obtain ⟨A9, c9, rfl⟩ := own_form o9
                      have p0 := RawAt.cell r9 0
                      have p1 := RawAt.cell r9 1
                      simp at p0 p1
                      rw [hsl] at p0
                      have hr9 := r9.lt
                      clear r9 o9 CS hsl HHt HFt HBt
                      have HDL := Lib.hid (show d1.length = d1.length from rfl)
                      generalize hdl : d1.length = dl at *
                      generalize hul : u1.length = ul at *
                      have HD1 := Lib.hid hdl
                      have HU1 := Lib.hid hul
                      clear hdl hul HDL
                      have z1 : IntKind.i64.wrap (((dl + ul : Nat) : Int) - (dl : Int)) = (ul : Int) := by rw [show ((dl + ul : Nat) : Int) - (dl : Int) = (ul : Int) by omega]; exact IntWalk.i64_in _ (by omega)
                      have z3 : IntKind.i64.wrap ((dl : Int) + (ul : Int) - (dl : Int)) = (ul : Int) := by rw [show (dl : Int) + (ul : Int) - (dl : Int) = (ul : Int) by omega]; exact IntWalk.i64_in _ (by omega)
                      have z2 : (dl : Int) + (ul : Int) - (dl : Int) = (ul : Int) := by omega
                      have z4 : IntKind.i64.wrap (ul : Int) = (ul : Int) := IntWalk.i64_in _ (by omega)
                      have MK : Hid (∀ W : World, Below w8.heap.size w8 W → (fun W : World => W.cell? ⟨rb, 0, none⟩ = some (.slice A9 (dl + ul) c9) ∧ W.cell? ⟨rb, 1, none⟩ = some (.int .i64 (dl : Int))) W) := fun W hW => ⟨(hW.cell (p := ⟨rb, 0, none⟩) hr9).trans p0, (hW.cell (p := ⟨rb, 1, none⟩) hr9).trans p1⟩
                      go_wp2_with fail
                      refine wp_region_noPanic ?_
                      refine wp_region_held_drew (S := (fun W => W.cell? ⟨rb, 0, none⟩ = some (.slice A9 (dl + ul) c9) ∧ W.cell? ⟨rb, 1, none⟩ = some (.int .i64 (dl : Int)))) (by kernel_rfl) (MK.out _ (Below.refl _ _).drew) (fun hHeld => ?_)
                      refine wpAnyH_take (i := 0) (v := ?_) rfl (by kernel_rfl) (by kernel_rfl) (by kernel_rfl) (fun _ _ _ h => h) (Or.inl ⟨by rfl, ?_⟩) hHeld ?_
                      rotate_left
                      · intro w hSw
                        (try dsimp only at hSw)
                        go_simp
                        try with_reducible rfl
                      go_simp
                      refine wpAnyH_take (i := 1) (v := ?_) rfl (by kernel_rfl) (by kernel_rfl) (by kernel_rfl) (fun _ _ _ h => h) (Or.inl ⟨by rfl, ?_⟩) hHeld ?_
                      rotate_left
                      · intro w hSw
                        (try dsimp only at hSw)
                        go_simp
                        try with_reducible rfl
                      go_simp
                      refine wpAnyH_take (i := 2) (v := ?_) rfl (by kernel_rfl) (by kernel_rfl) (by kernel_rfl) (fun _ _ _ h => h) (Or.inl ⟨by rfl, ?_⟩) hHeld ?_
                      rotate_left
                      · intro w hSw
                        (try dsimp only at hSw)
                        go_simp
                        try with_reducible rfl
                      go_simp
                      refine wpAnyH_take (i := 3) (v := ?_) rfl (by kernel_rfl) (by kernel_rfl) (by kernel_rfl) (fun _ _ _ h => h) (Or.inl ⟨by rfl, ?_⟩) hHeld ?_
                      rotate_left
                      · intro w hSw
                        (try dsimp only at hSw)
                        go_simp
                        try with_reducible rfl
                      go_simp
                      refine wpAnyH_take (i := 4) (v := ?_) rfl (by kernel_rfl) (by kernel_rfl) (by kernel_rfl) (fun _ _ _ h => h) (Or.inl ⟨by rfl, ?_⟩) hHeld ?_
                      rotate_left
                      · intro w hSw
                        (try dsimp only at hSw)
                        go_simp
                        try with_reducible rfl
                      go_simp
                      refine wpAnyH_take (i := 5) (v := ?_) rfl (by kernel_rfl) (by kernel_rfl) (by kernel_rfl) (fun _ _ _ h => h) (Or.inl ⟨by rfl, ?_⟩) hHeld ?_
                      rotate_left
                      · intro w hSw
                        (try dsimp only at hSw)
                        go_simp
                        try with_reducible rfl
                      go_simp
                      refine wpAnyH_take (i := 6) (v := ?_) rfl (by kernel_rfl) (by kernel_rfl) (by kernel_rfl) (fun _ _ _ h => h) (Or.inl ⟨by rfl, ?_⟩) hHeld ?_
                      rotate_left
                      · intro w hSw
                        (try dsimp only at hSw)
                        go_simp
                        try with_reducible rfl
                      go_simp
                      refine wpAnyH_take (i := 7) (v := ?_) rfl (by kernel_rfl) (by kernel_rfl) (by kernel_rfl) (fun _ _ _ h => h) (Or.inl ⟨by rfl, ?_⟩) hHeld ?_
                      rotate_left
                      · intro w hSw
                        (try dsimp only at hSw)
                        go_simp
                        try with_reducible rfl
                      go_simp
                      refine wpAnyH_take (i := 8) (v := ?_) rfl (by kernel_rfl) (by kernel_rfl) (by kernel_rfl) (fun _ _ _ h => h) (Or.inl ⟨by rfl, ?_⟩) hHeld ?_
                      rotate_left
                      · intro w hSw
                        (try dsimp only at hSw)
                        go_simp
                        try with_reducible rfl
                      go_simp
                      refine wpAnyH_take (i := 9) (v := ?_) rfl (by kernel_rfl) (by kernel_rfl) (by kernel_rfl) (fun _ _ _ h => h) (Or.inl ⟨by rfl, ?_⟩) hHeld ?_
                      rotate_left
                      · intro w hSw
                        (try dsimp only at hSw)
                        go_simp
                        try with_reducible rfl
                      go_simp
                      refine wpAnyH_take (i := 10) (v := ?_) rfl (by kernel_rfl) (by kernel_rfl) (by kernel_rfl) (fun _ _ _ h => h) (Or.inl ⟨by rfl, ?_⟩) hHeld ?_
                      rotate_left
                      · intro w hSw
                        (try dsimp only at hSw)
                        go_simp
                        try with_reducible rfl
                      go_simp
                      refine wpAnyH_take (i := 11) (v := ?_) rfl (by kernel_rfl) (by kernel_rfl) (by kernel_rfl) (fun _ _ _ h => h) (Or.inl ⟨by rfl, ?_⟩) hHeld ?_
                      rotate_left
                      · intro w hSw
                        (try dsimp only at hSw)
                        go_simp
                        try with_reducible rfl
                      go_simp
                      refine wpAnyH_take (i := 12) (v := ?_) rfl (by kernel_rfl) (by kernel_rfl) (by kernel_rfl) (fun _ _ _ h => h) (Or.inl ⟨by rfl, ?_⟩) hHeld ?_
                      rotate_left
                      · intro w hSw
                        (try dsimp only at hSw)
                        go_simp
                        try with_reducible rfl
                      go_simp
                      refine wpAnyH_take (i := 13) (v := ?_) rfl (by kernel_rfl) (by kernel_rfl) (by kernel_rfl) (fun _ _ _ h => h) (Or.inl ⟨by rfl, ?_⟩) hHeld ?_
                      rotate_left
                      · intro w hSw
                        (try dsimp only at hSw)
                        go_simp
                        try with_reducible rfl
                      go_simp
                      refine wpAnyH_take (i := 14) (v := ?_) rfl (by kernel_rfl) (by kernel_rfl) (by kernel_rfl) (fun _ _ _ h => h) (Or.inl ⟨by rfl, ?_⟩) hHeld ?_
                      rotate_left
                      · intro w hSw
                        (try dsimp only at hSw)
                        go_simp
                        try with_reducible rfl
                      go_simp
                      refine wpAnyH_take (i := 15) (v := ?_) rfl (by kernel_rfl) (by kernel_rfl) (by kernel_rfl) (fun _ _ _ h => h) (Or.inl ⟨by rfl, ?_⟩) hHeld ?_
                      rotate_left
                      · intro w hSw
                        (try dsimp only at hSw)
                        go_simp
                        try with_reducible rfl
                      go_simp
                      refine wpAnyH_take (i := 16) (v := ?_) rfl (by kernel_rfl) (by kernel_rfl) (by kernel_rfl) (fun _ _ _ h => h) (Or.inl ⟨by rfl, ?_⟩) hHeld ?_
                      rotate_left
                      · intro w hSw
                        (try dsimp only at hSw)
                        go_simp
                        try with_reducible rfl
                      go_simp
                      refine wpAnyH_take (i := 17) (v := ?_) rfl (by kernel_rfl) (by kernel_rfl) (by kernel_rfl) (fun _ _ _ h => h) (Or.inl ⟨by rfl, ?_⟩) hHeld ?_
                      rotate_left
                      · intro w hSw
                        (try dsimp only at hSw)
                        go_simp
                        try with_reducible rfl
                      go_simp
                      refine wpAnyH_take (i := 18) (v := ?_) rfl (by kernel_rfl) (by kernel_rfl) (by kernel_rfl) (fun _ _ _ h => h) (Or.inl ⟨by rfl, ?_⟩) hHeld ?_
                      rotate_left
                      · intro w hSw
                        (try dsimp only at hSw)
                        go_simp
                        try with_reducible rfl
                      go_simp
                      refine wpAnyH_take (i := 19) (v := ?_) rfl (by kernel_rfl) (by kernel_rfl) (by kernel_rfl) (fun _ _ _ h => h) (Or.inl ⟨by rfl, ?_⟩) hHeld ?_
                      rotate_left
                      · intro w hSw
                        (try dsimp only at hSw)
                        go_simp
                        try with_reducible rfl
                      go_simp
                      refine wpAnyH_done (by kernel_rfl) ?_ _
                      refine NoPanic.normal ?_
                      go_wp2
                      go_roundg (gk - 1)
                      case measure => omega
                      case rel => exact ⟨k + 1, d1, u1, s1, by go_num, by omega, by omega, by rw [HD1.out, HU1.out]; exact hsum1, Lib.hid HBn.out.drew, Lib.hid (HAt.below HHn.out (Below.refl _ _).drew), Lib.hid (by rw [HD1.out]; exact RfAt.below HFn.out (Below.refl _ _).drew), HAt1⟩
                    · skip
                      rw [List.concat_eq_append] at hd
                      subst hd
                      obtain ⟨p, hp1, A1, c1, A2, c2, rfl, ea, eb, l1, l2⟩ := HA3.out.2 d'.length y (getmid d' u.reverse y)
                      have hln := HA3.out.1
                      rw [List.length_append, List.length_reverse] at hln
                      (try simp only [List.length_append, List.length_cons, List.length_nil] at hdu)
                      (try simp only [List.length_append, List.length_cons, List.length_nil] at hln)
                      have PU := Lib.hid (hUndo_any HH3.out (Nat.le_trans hbs x3.size) (by omega) (by omega) (by omega))
                      have EX := Lib.hid ea
                      have HP1 := Lib.hid hp1
                      have LX : y.b.length ≤ 70 := by omega
                      clear ea eb hp1
                      go_wp2_with fail
                      with_reducible refine (PU.out).mono ?_
                      rintro e4 w4 ⟨v4, rfl, o4, h4, t4, b4⟩
                      obtain ⟨A4, c4, rfl⟩ := own_form o4
                      have B4 := Lib.hid (HB3.out.trans b4)
                      have RU := Lib.hid (rUndo_any (RfAt.onT HF3.out t4 (by decide) (by decide)) (by omega) B4.out.size (m := d'.length) (by simp) HP1.out)
                      have H4 := Lib.hid h4
                      have O4 := Lib.hid o4
                      clear h4 o4 t4 b4 PU HH3 HF3
                      go_wp2_with fail
                      with_reducible refine (RU.out).mono ?_
                      rintro e5 w5 ⟨rfl, f5, t5, b5⟩
                      have B5 := Lib.hid (B4.out.trans b5)
                      have H5 := Lib.hid (HAt.onT H4.out t5 (by decide) (by decide) (by decide))
                      have F5 := Lib.hid f5
                      obtain ⟨A5, c5, hv, hE, _, _⟩ := eds_of_own (own_onT O4.out t5 (by decide))
                      injection hv with hv1 _ hv2
                      subst hv1
                      clear hv2
                      have PE := Lib.hid (pledits_any A4 A1 y.b.length c4 c1 y.b w5 hE (EX.out.below B5.out) rfl (by omega))
                      clear hE f5 t5 b5 RU H4 B4 O4
                      go_wp2_with fail
                      with_reducible refine (PE.out).mono ?_
                      rintro e6 w6 ⟨rfl, b6⟩
                      have H6 := Lib.hid (HAt.below H5.out b6)
                      have F6 := Lib.hid (RfAt.below F5.out b6)
                      have B6 := Lib.hid (B5.out.trans (b6.mono B5.out.size))
                      clear b6 H5 F5 B5 PE EX
                      obtain ⟨d1, u1, s1, hsum1, HBt, HHt, HFt, HAt1⟩ : ∃ (d1 u1 : List S2) (s1 : List (Value × Value)), d1.length + u1.length ≤ 100 ∧ Hid (Below w.heap.size w w6) ∧ Hid (HAt w.heap.size w6 w.heap.size d1 u1) ∧ Hid (RfAt w.heap.size w6 rb s1 d1.length) ∧ Hid (ArgsAt w s1 (d1 ++ u1.reverse)) := ⟨d', u ++ [y], s, by rw [List.length_append]; simp; omega, B6, H6, F6, Lib.hid (by rw [← rev_move]; exact HA3.out)⟩
                      clear B6 H6 F6
                      have CS := Lib.hid (hSizes_any HHt.out)
                      go_wp2_with fail
                      with_reducible refine (CS.out).mono ?_
                      rintro e8 w8 ⟨rfl, b8⟩
                      have HHn := Lib.hid (HAt.below HHt.out b8)
                      have HFn := Lib.hid (RfAt.below HFt.out b8)
                      have HBn := Lib.hid (HBt.out.trans (b8.mono HBt.out.size))
                      have hsl : s1.length = d1.length + u1.length := by have := HAt1.out.1; rw [List.length_append, List.length_reverse] at this; exact this
                      obtain ⟨⟨v9, r9, o9⟩, _, _⟩ := HFn.out
                      obtain ⟨A9, c9, rfl⟩ := own_form o9
                      have p0 := RawAt.cell r9 0
                      have p1 := RawAt.cell r9 1
                      simp at p0 p1
                      rw [hsl] at p0
                      have hr9 := r9.lt
                      clear r9 o9 CS hsl HHt HFt HBt
                      have HDL := Lib.hid (show d1.length = d1.length from rfl)
                      generalize hdl : d1.length = dl at *
                      generalize hul : u1.length = ul at *
                      have HD1 := Lib.hid hdl
                      have HU1 := Lib.hid hul
                      clear hdl hul HDL
                      have z1 : IntKind.i64.wrap (((dl + ul : Nat) : Int) - (dl : Int)) = (ul : Int) := by rw [show ((dl + ul : Nat) : Int) - (dl : Int) = (ul : Int) by omega]; exact IntWalk.i64_in _ (by omega)
                      have z3 : IntKind.i64.wrap ((dl : Int) + (ul : Int) - (dl : Int)) = (ul : Int) := by rw [show (dl : Int) + (ul : Int) - (dl : Int) = (ul : Int) by omega]; exact IntWalk.i64_in _ (by omega)
                      have z2 : (dl : Int) + (ul : Int) - (dl : Int) = (ul : Int) := by omega
                      have z4 : IntKind.i64.wrap (ul : Int) = (ul : Int) := IntWalk.i64_in _ (by omega)
                      have MK : Hid (∀ W : World, Below w8.heap.size w8 W → (fun W : World => W.cell? ⟨rb, 0, none⟩ = some (.slice A9 (dl + ul) c9) ∧ W.cell? ⟨rb, 1, none⟩ = some (.int .i64 (dl : Int))) W) := fun W hW => ⟨(hW.cell (p := ⟨rb, 0, none⟩) hr9).trans p0, (hW.cell (p := ⟨rb, 1, none⟩) hr9).trans p1⟩
                      go_wp2_with fail
                      refine wp_region_noPanic ?_
                      refine wp_region_held_drew (S := (fun W => W.cell? ⟨rb, 0, none⟩ = some (.slice A9 (dl + ul) c9) ∧ W.cell? ⟨rb, 1, none⟩ = some (.int .i64 (dl : Int)))) (by kernel_rfl) (MK.out _ (Below.refl _ _).drew) (fun hHeld => ?_)
                      refine wpAnyH_take (i := 0) (v := ?_) rfl (by kernel_rfl) (by kernel_rfl) (by kernel_rfl) (fun _ _ _ h => h) (Or.inl ⟨by rfl, ?_⟩) hHeld ?_
                      rotate_left
                      · intro w hSw
                        (try dsimp only at hSw)
                        go_simp
                        try with_reducible rfl
                      go_simp
                      refine wpAnyH_take (i := 1) (v := ?_) rfl (by kernel_rfl) (by kernel_rfl) (by kernel_rfl) (fun _ _ _ h => h) (Or.inl ⟨by rfl, ?_⟩) hHeld ?_
                      rotate_left
                      · intro w hSw
                        (try dsimp only at hSw)
                        go_simp
                        try with_reducible rfl
                      go_simp
                      refine wpAnyH_take (i := 2) (v := ?_) rfl (by kernel_rfl) (by kernel_rfl) (by kernel_rfl) (fun _ _ _ h => h) (Or.inl ⟨by rfl, ?_⟩) hHeld ?_
                      rotate_left
                      · intro w hSw
                        (try dsimp only at hSw)
                        go_simp
                        try with_reducible rfl
                      go_simp
                      refine wpAnyH_take (i := 3) (v := ?_) rfl (by kernel_rfl) (by kernel_rfl) (by kernel_rfl) (fun _ _ _ h => h) (Or.inl ⟨by rfl, ?_⟩) hHeld ?_
                      rotate_left
                      · intro w hSw
                        (try dsimp only at hSw)
                        go_simp
                        try with_reducible rfl
                      go_simp
                      refine wpAnyH_take (i := 4) (v := ?_) rfl (by kernel_rfl) (by kernel_rfl) (by kernel_rfl) (fun _ _ _ h => h) (Or.inl ⟨by rfl, ?_⟩) hHeld ?_
                      rotate_left
                      · intro w hSw
                        (try dsimp only at hSw)
                        go_simp
                        try with_reducible rfl
                      go_simp
                      refine wpAnyH_take (i := 5) (v := ?_) rfl (by kernel_rfl) (by kernel_rfl) (by kernel_rfl) (fun _ _ _ h => h) (Or.inl ⟨by rfl, ?_⟩) hHeld ?_
                      rotate_left
                      · intro w hSw
                        (try dsimp only at hSw)
                        go_simp
                        try with_reducible rfl
                      go_simp
                      refine wpAnyH_take (i := 6) (v := ?_) rfl (by kernel_rfl) (by kernel_rfl) (by kernel_rfl) (fun _ _ _ h => h) (Or.inl ⟨by rfl, ?_⟩) hHeld ?_
                      rotate_left
                      · intro w hSw
                        (try dsimp only at hSw)
                        go_simp
                        try with_reducible rfl
                      go_simp
                      refine wpAnyH_take (i := 7) (v := ?_) rfl (by kernel_rfl) (by kernel_rfl) (by kernel_rfl) (fun _ _ _ h => h) (Or.inl ⟨by rfl, ?_⟩) hHeld ?_
                      rotate_left
                      · intro w hSw
                        (try dsimp only at hSw)
                        go_simp
                        try with_reducible rfl
                      go_simp
                      refine wpAnyH_take (i := 8) (v := ?_) rfl (by kernel_rfl) (by kernel_rfl) (by kernel_rfl) (fun _ _ _ h => h) (Or.inl ⟨by rfl, ?_⟩) hHeld ?_
                      rotate_left
                      · intro w hSw
                        (try dsimp only at hSw)
                        go_simp
                        try with_reducible rfl
                      go_simp
                      refine wpAnyH_take (i := 9) (v := ?_) rfl (by kernel_rfl) (by kernel_rfl) (by kernel_rfl) (fun _ _ _ h => h) (Or.inl ⟨by rfl, ?_⟩) hHeld ?_
                      rotate_left
                      · intro w hSw
                        (try dsimp only at hSw)
                        go_simp
                        try with_reducible rfl
                      go_simp
                      refine wpAnyH_take (i := 10) (v := ?_) rfl (by kernel_rfl) (by kernel_rfl) (by kernel_rfl) (fun _ _ _ h => h) (Or.inl ⟨by rfl, ?_⟩) hHeld ?_
                      rotate_left
                      · intro w hSw
                        (try dsimp only at hSw)
                        go_simp
                        try with_reducible rfl
                      go_simp
                      refine wpAnyH_take (i := 11) (v := ?_) rfl (by kernel_rfl) (by kernel_rfl) (by kernel_rfl) (fun _ _ _ h => h) (Or.inl ⟨by rfl, ?_⟩) hHeld ?_
                      rotate_left
                      · intro w hSw
                        (try dsimp only at hSw)
                        go_simp
                        try with_reducible rfl
                      go_simp
                      refine wpAnyH_take (i := 12) (v := ?_) rfl (by kernel_rfl) (by kernel_rfl) (by kernel_rfl) (fun _ _ _ h => h) (Or.inl ⟨by rfl, ?_⟩) hHeld ?_
                      rotate_left
                      · intro w hSw
                        (try dsimp only at hSw)
                        go_simp
                        try with_reducible rfl
                      go_simp
                      refine wpAnyH_take (i := 13) (v := ?_) rfl (by kernel_rfl) (by kernel_rfl) (by kernel_rfl) (fun _ _ _ h => h) (Or.inl ⟨by rfl, ?_⟩) hHeld ?_
                      rotate_left
                      · intro w hSw
                        (try dsimp only at hSw)
                        go_simp
                        try with_reducible rfl
                      go_simp
                      refine wpAnyH_take (i := 14) (v := ?_) rfl (by kernel_rfl) (by kernel_rfl) (by kernel_rfl) (fun _ _ _ h => h) (Or.inl ⟨by rfl, ?_⟩) hHeld ?_
                      rotate_left
                      · intro w hSw
                        (try dsimp only at hSw)
                        go_simp
                        try with_reducible rfl
                      go_simp
                      refine wpAnyH_take (i := 15) (v := ?_) rfl (by kernel_rfl) (by kernel_rfl) (by kernel_rfl) (fun _ _ _ h => h) (Or.inl ⟨by rfl, ?_⟩) hHeld ?_
                      rotate_left
                      · intro w hSw
                        (try dsimp only at hSw)
                        go_simp
                        try with_reducible rfl
                      go_simp
                      refine wpAnyH_take (i := 16) (v := ?_) rfl (by kernel_rfl) (by kernel_rfl) (by kernel_rfl) (fun _ _ _ h => h) (Or.inl ⟨by rfl, ?_⟩) hHeld ?_
                      rotate_left
                      · intro w hSw
                        (try dsimp only at hSw)
                        go_simp
                        try with_reducible rfl
                      go_simp
                      refine wpAnyH_take (i := 17) (v := ?_) rfl (by kernel_rfl) (by kernel_rfl) (by kernel_rfl) (fun _ _ _ h => h) (Or.inl ⟨by rfl, ?_⟩) hHeld ?_
                      rotate_left
                      · intro w hSw
                        (try dsimp only at hSw)
                        go_simp
                        try with_reducible rfl
                      go_simp
                      refine wpAnyH_take (i := 18) (v := ?_) rfl (by kernel_rfl) (by kernel_rfl) (by kernel_rfl) (fun _ _ _ h => h) (Or.inl ⟨by rfl, ?_⟩) hHeld ?_
                      rotate_left
                      · intro w hSw
                        (try dsimp only at hSw)
                        go_simp
                        try with_reducible rfl
                      go_simp
                      refine wpAnyH_take (i := 19) (v := ?_) rfl (by kernel_rfl) (by kernel_rfl) (by kernel_rfl) (fun _ _ _ h => h) (Or.inl ⟨by rfl, ?_⟩) hHeld ?_
                      rotate_left
                      · intro w hSw
                        (try dsimp only at hSw)
                        go_simp
                        try with_reducible rfl
                      go_simp
                      refine wpAnyH_done (by kernel_rfl) ?_ _
                      refine NoPanic.normal ?_
                      go_wp2
                      go_roundg (gk - 1)
                      case measure => omega
                      case rel => exact ⟨k + 1, d1, u1, s1, by go_num, by omega, by omega, by rw [HD1.out, HU1.out]; exact hsum1, Lib.hid HBn.out.drew, Lib.hid (HAt.below HHn.out (Below.refl _ _).drew), Lib.hid (by rw [HD1.out]; exact RfAt.below HFn.out (Below.refl _ _).drew), HAt1⟩
                  · skip
                    by_cases g14 : a = 4
                    · have ga := g14
                      clear g14
                      subst ga
                      rcases List.eq_nil_or_concat u with hd | ⟨u', y, hd⟩
                      · subst hd
                        have PU := Lib.hid (hRedo_none HH3.out)
                        go_wp2_with fail
                        with_reducible refine (PU.out).mono ?_
                        rintro e4 w4 ⟨v4, rfl, o4, b4⟩
                        obtain ⟨A4, c4, rfl⟩ : ∃ A c, v4 = .slice A 0 c := own_form o4
                        have RU := Lib.hid (rRedo_none (RfAt.below HF3.out b4) (by have := HA3.out.1; rw [List.length_append] at this; simp at this; omega))
                        have H4 := Lib.hid (HAt.below HH3.out b4)
                        have F4 := Lib.hid (RfAt.below HF3.out b4)
                        have B4 := Lib.hid (HB3.out.trans (b4.mono HB3.out.size))
                        clear o4 b4 PU HH3 HF3
                        go_wp2_with fail
                        with_reducible refine (RU.out).mono ?_
                        rintro e5 w5 ⟨rfl, b5⟩
                        have PE := Lib.hid (pledits_any A4 none 0 c4 0 [] w5 (fun h => absurd h (by simp)) (fun h => absurd h (by simp)) rfl (by omega))
                        go_wp2_with fail
                        with_reducible refine (PE.out).mono ?_
                        rintro e6 w6 ⟨rfl, b6⟩
                        have q6 := b5.trans (b6.mono b5.size)
                        have H6 := Lib.hid (HAt.below H4.out q6)
                        have F6 := Lib.hid (RfAt.below F4.out q6)
                        have B6 := Lib.hid (B4.out.trans (q6.mono B4.out.size))
                        clear b5 b6 q6 H4 F4 B4 RU PE
                        obtain ⟨d1, u1, s1, hsum1, HBt, HHt, HFt, HAt1⟩ : ∃ (d1 u1 : List S2) (s1 : List (Value × Value)), d1.length + u1.length ≤ 100 ∧ Hid (Below w.heap.size w w6) ∧ Hid (HAt w.heap.size w6 w.heap.size d1 u1) ∧ Hid (RfAt w.heap.size w6 rb s1 d1.length) ∧ Hid (ArgsAt w s1 (d1 ++ u1.reverse)) := ⟨d, [], s, hdu, B6, H6, F6, HA3⟩
                        clear B6 H6 F6
                        have CS := Lib.hid (hSizes_any HHt.out)
                        go_wp2_with fail
                        with_reducible refine (CS.out).mono ?_
                        rintro e8 w8 ⟨rfl, b8⟩
                        have HHn := Lib.hid (HAt.below HHt.out b8)
                        have HFn := Lib.hid (RfAt.below HFt.out b8)
                        have HBn := Lib.hid (HBt.out.trans (b8.mono HBt.out.size))
                        have hsl : s1.length = d1.length + u1.length := by have := HAt1.out.1; rw [List.length_append, List.length_reverse] at this; exact this
                        obtain ⟨⟨v9, r9, o9⟩, _, _⟩ := HFn.out
                        obtain ⟨A9, c9, rfl⟩ := own_form o9
                        have p0 := RawAt.cell r9 0
                        have p1 := RawAt.cell r9 1
                        simp at p0 p1
                        rw [hsl] at p0
                        have hr9 := r9.lt
                        clear r9 o9 CS hsl HHt HFt HBt
                        have HDL := Lib.hid (show d1.length = d1.length from rfl)
                        generalize hdl : d1.length = dl at *
                        generalize hul : u1.length = ul at *
                        have HD1 := Lib.hid hdl
                        have HU1 := Lib.hid hul
                        clear hdl hul HDL
                        have z1 : IntKind.i64.wrap (((dl + ul : Nat) : Int) - (dl : Int)) = (ul : Int) := by rw [show ((dl + ul : Nat) : Int) - (dl : Int) = (ul : Int) by omega]; exact IntWalk.i64_in _ (by omega)
                        have z3 : IntKind.i64.wrap ((dl : Int) + (ul : Int) - (dl : Int)) = (ul : Int) := by rw [show (dl : Int) + (ul : Int) - (dl : Int) = (ul : Int) by omega]; exact IntWalk.i64_in _ (by omega)
                        have z2 : (dl : Int) + (ul : Int) - (dl : Int) = (ul : Int) := by omega
                        have z4 : IntKind.i64.wrap (ul : Int) = (ul : Int) := IntWalk.i64_in _ (by omega)
                        have MK : Hid (∀ W : World, Below w8.heap.size w8 W → (fun W : World => W.cell? ⟨rb, 0, none⟩ = some (.slice A9 (dl + ul) c9) ∧ W.cell? ⟨rb, 1, none⟩ = some (.int .i64 (dl : Int))) W) := fun W hW => ⟨(hW.cell (p := ⟨rb, 0, none⟩) hr9).trans p0, (hW.cell (p := ⟨rb, 1, none⟩) hr9).trans p1⟩
                        go_wp2_with fail
                        refine wp_region_noPanic ?_
                        refine wp_region_held_drew (S := (fun W => W.cell? ⟨rb, 0, none⟩ = some (.slice A9 (dl + ul) c9) ∧ W.cell? ⟨rb, 1, none⟩ = some (.int .i64 (dl : Int)))) (by kernel_rfl) (MK.out _ (Below.refl _ _).drew) (fun hHeld => ?_)
                        refine wpAnyH_take (i := 0) (v := ?_) rfl (by kernel_rfl) (by kernel_rfl) (by kernel_rfl) (fun _ _ _ h => h) (Or.inl ⟨by rfl, ?_⟩) hHeld ?_
                        rotate_left
                        · intro w hSw
                          (try dsimp only at hSw)
                          go_simp
                          try with_reducible rfl
                        go_simp
                        refine wpAnyH_take (i := 1) (v := ?_) rfl (by kernel_rfl) (by kernel_rfl) (by kernel_rfl) (fun _ _ _ h => h) (Or.inl ⟨by rfl, ?_⟩) hHeld ?_
                        rotate_left
                        · intro w hSw
                          (try dsimp only at hSw)
                          go_simp
                          try with_reducible rfl
                        go_simp
                        refine wpAnyH_take (i := 2) (v := ?_) rfl (by kernel_rfl) (by kernel_rfl) (by kernel_rfl) (fun _ _ _ h => h) (Or.inl ⟨by rfl, ?_⟩) hHeld ?_
                        rotate_left
                        · intro w hSw
                          (try dsimp only at hSw)
                          go_simp
                          try with_reducible rfl
                        go_simp
                        refine wpAnyH_take (i := 3) (v := ?_) rfl (by kernel_rfl) (by kernel_rfl) (by kernel_rfl) (fun _ _ _ h => h) (Or.inl ⟨by rfl, ?_⟩) hHeld ?_
                        rotate_left
                        · intro w hSw
                          (try dsimp only at hSw)
                          go_simp
                          try with_reducible rfl
                        go_simp
                        refine wpAnyH_take (i := 4) (v := ?_) rfl (by kernel_rfl) (by kernel_rfl) (by kernel_rfl) (fun _ _ _ h => h) (Or.inl ⟨by rfl, ?_⟩) hHeld ?_
                        rotate_left
                        · intro w hSw
                          (try dsimp only at hSw)
                          go_simp
                          try with_reducible rfl
                        go_simp
                        refine wpAnyH_take (i := 5) (v := ?_) rfl (by kernel_rfl) (by kernel_rfl) (by kernel_rfl) (fun _ _ _ h => h) (Or.inl ⟨by rfl, ?_⟩) hHeld ?_
                        rotate_left
                        · intro w hSw
                          (try dsimp only at hSw)
                          go_simp
                          try with_reducible rfl
                        go_simp
                        refine wpAnyH_take (i := 6) (v := ?_) rfl (by kernel_rfl) (by kernel_rfl) (by kernel_rfl) (fun _ _ _ h => h) (Or.inl ⟨by rfl, ?_⟩) hHeld ?_
                        rotate_left
                        · intro w hSw
                          (try dsimp only at hSw)
                          go_simp
                          try with_reducible rfl
                        go_simp
                        refine wpAnyH_take (i := 7) (v := ?_) rfl (by kernel_rfl) (by kernel_rfl) (by kernel_rfl) (fun _ _ _ h => h) (Or.inl ⟨by rfl, ?_⟩) hHeld ?_
                        rotate_left
                        · intro w hSw
                          (try dsimp only at hSw)
                          go_simp
                          try with_reducible rfl
                        go_simp
                        refine wpAnyH_take (i := 8) (v := ?_) rfl (by kernel_rfl) (by kernel_rfl) (by kernel_rfl) (fun _ _ _ h => h) (Or.inl ⟨by rfl, ?_⟩) hHeld ?_
                        rotate_left
                        · intro w hSw
                          (try dsimp only at hSw)
                          go_simp
                          try with_reducible rfl
                        go_simp
                        refine wpAnyH_take (i := 9) (v := ?_) rfl (by kernel_rfl) (by kernel_rfl) (by kernel_rfl) (fun _ _ _ h => h) (Or.inl ⟨by rfl, ?_⟩) hHeld ?_
                        rotate_left
                        · intro w hSw
                          (try dsimp only at hSw)
                          go_simp
                          try with_reducible rfl
                        go_simp
                        refine wpAnyH_take (i := 10) (v := ?_) rfl (by kernel_rfl) (by kernel_rfl) (by kernel_rfl) (fun _ _ _ h => h) (Or.inl ⟨by rfl, ?_⟩) hHeld ?_
                        rotate_left
                        · intro w hSw
                          (try dsimp only at hSw)
                          go_simp
                          try with_reducible rfl
                        go_simp
                        refine wpAnyH_take (i := 11) (v := ?_) rfl (by kernel_rfl) (by kernel_rfl) (by kernel_rfl) (fun _ _ _ h => h) (Or.inl ⟨by rfl, ?_⟩) hHeld ?_
                        rotate_left
                        · intro w hSw
                          (try dsimp only at hSw)
                          go_simp
                          try with_reducible rfl
                        go_simp
                        refine wpAnyH_take (i := 12) (v := ?_) rfl (by kernel_rfl) (by kernel_rfl) (by kernel_rfl) (fun _ _ _ h => h) (Or.inl ⟨by rfl, ?_⟩) hHeld ?_
                        rotate_left
                        · intro w hSw
                          (try dsimp only at hSw)
                          go_simp
                          try with_reducible rfl
                        go_simp
                        refine wpAnyH_take (i := 13) (v := ?_) rfl (by kernel_rfl) (by kernel_rfl) (by kernel_rfl) (fun _ _ _ h => h) (Or.inl ⟨by rfl, ?_⟩) hHeld ?_
                        rotate_left
                        · intro w hSw
                          (try dsimp only at hSw)
                          go_simp
                          try with_reducible rfl
                        go_simp
                        refine wpAnyH_take (i := 14) (v := ?_) rfl (by kernel_rfl) (by kernel_rfl) (by kernel_rfl) (fun _ _ _ h => h) (Or.inl ⟨by rfl, ?_⟩) hHeld ?_
                        rotate_left
                        · intro w hSw
                          (try dsimp only at hSw)
                          go_simp
                          try with_reducible rfl
                        go_simp
                        refine wpAnyH_take (i := 15) (v := ?_) rfl (by kernel_rfl) (by kernel_rfl) (by kernel_rfl) (fun _ _ _ h => h) (Or.inl ⟨by rfl, ?_⟩) hHeld ?_
                        rotate_left
                        · intro w hSw
                          (try dsimp only at hSw)
                          go_simp
                          try with_reducible rfl
                        go_simp
                        refine wpAnyH_take (i := 16) (v := ?_) rfl (by kernel_rfl) (by kernel_rfl) (by kernel_rfl) (fun _ _ _ h => h) (Or.inl ⟨by rfl, ?_⟩) hHeld ?_
                        rotate_left
                        · intro w hSw
                          (try dsimp only at hSw)
                          go_simp
                          try with_reducible rfl
                        go_simp
                        refine wpAnyH_take (i := 17) (v := ?_) rfl (by kernel_rfl) (by kernel_rfl) (by kernel_rfl) (fun _ _ _ h => h) (Or.inl ⟨by rfl, ?_⟩) hHeld ?_
                        rotate_left
                        · intro w hSw
                          (try dsimp only at hSw)
                          go_simp
                          try with_reducible rfl
                        go_simp
                        refine wpAnyH_take (i := 18) (v := ?_) rfl (by kernel_rfl) (by kernel_rfl) (by kernel_rfl) (fun _ _ _ h => h) (Or.inl ⟨by rfl, ?_⟩) hHeld ?_
                        rotate_left
                        · intro w hSw
                          (try dsimp only at hSw)
                          go_simp
                          try with_reducible rfl
                        go_simp
                        refine wpAnyH_take (i := 19) (v := ?_) rfl (by kernel_rfl) (by kernel_rfl) (by kernel_rfl) (fun _ _ _ h => h) (Or.inl ⟨by rfl, ?_⟩) hHeld ?_
                        rotate_left
                        · intro w hSw
                          (try dsimp only at hSw)
                          go_simp
                          try with_reducible rfl
                        go_simp
                        refine wpAnyH_done (by kernel_rfl) ?_ _
                        refine NoPanic.normal ?_
                        go_wp2
                        go_roundg (gk - 1)
                        case measure => omega
                        case rel => exact ⟨k + 1, d1, u1, s1, by go_num, by omega, by omega, by rw [HD1.out, HU1.out]; exact hsum1, Lib.hid HBn.out.drew, Lib.hid (HAt.below HHn.out (Below.refl _ _).drew), Lib.hid (by rw [HD1.out]; exact RfAt.below HFn.out (Below.refl _ _).drew), HAt1⟩
                      · skip
                        rw [List.concat_eq_append] at hd
                        subst hd
                        obtain ⟨p, hp1, A1, c1, A2, c2, rfl, ea, eb, l1, l2⟩ := HA3.out.2 d.length y (by rw [← rev_move]; exact getmid d u'.reverse y)
                        have hln := HA3.out.1
                        rw [List.length_append, List.length_reverse] at hln
                        (try simp only [List.length_append, List.length_cons, List.length_nil] at hdu)
                        (try simp only [List.length_append, List.length_cons, List.length_nil] at hln)
                        have PU := Lib.hid (hRedo_any HH3.out (Nat.le_trans hbs x3.size) (by omega) (by omega) (by omega))
                        have EX := Lib.hid eb
                        have HP1 := Lib.hid hp1
                        have LX : y.f.length ≤ 70 := by omega
                        clear ea eb hp1
                        go_wp2_with fail
                        with_reducible refine (PU.out).mono ?_
                        rintro e4 w4 ⟨v4, rfl, o4, h4, t4, b4⟩
                        obtain ⟨A4, c4, rfl⟩ := own_form o4
                        have B4 := Lib.hid (HB3.out.trans b4)
                        have RU := Lib.hid (rRedo_any (RfAt.onT HF3.out t4 (by decide) (by decide)) (by omega) B4.out.size HP1.out)
                        have H4 := Lib.hid h4
                        have O4 := Lib.hid o4
                        clear h4 o4 t4 b4 PU HH3 HF3
                        go_wp2_with fail
                        with_reducible refine (RU.out).mono ?_
                        rintro e5 w5 ⟨rfl, f5, t5, b5⟩
                        have B5 := Lib.hid (B4.out.trans b5)
                        have H5 := Lib.hid (HAt.onT H4.out t5 (by decide) (by decide) (by decide))
                        have F5 := Lib.hid f5
                        obtain ⟨A5, c5, hv, hE, _, _⟩ := eds_of_own (own_onT O4.out t5 (by decide))
                        injection hv with hv1 _ hv2
                        subst hv1
                        clear hv2
                        have PE := Lib.hid (pledits_any A4 A2 y.f.length c4 c2 y.f w5 hE (EX.out.below B5.out) rfl (by omega))
                        clear hE f5 t5 b5 RU H4 B4 O4
                        go_wp2_with fail
                        with_reducible refine (PE.out).mono ?_
                        rintro e6 w6 ⟨rfl, b6⟩
                        have H6 := Lib.hid (HAt.below H5.out b6)
                        have F6 := Lib.hid (RfAt.below F5.out b6)
                        have B6 := Lib.hid (B5.out.trans (b6.mono B5.out.size))
                        clear b6 H5 F5 B5 PE EX
                        obtain ⟨d1, u1, s1, hsum1, HBt, HHt, HFt, HAt1⟩ : ∃ (d1 u1 : List S2) (s1 : List (Value × Value)), d1.length + u1.length ≤ 100 ∧ Hid (Below w.heap.size w w6) ∧ Hid (HAt w.heap.size w6 w.heap.size d1 u1) ∧ Hid (RfAt w.heap.size w6 rb s1 d1.length) ∧ Hid (ArgsAt w s1 (d1 ++ u1.reverse)) := ⟨d ++ [y], u', s, by rw [List.length_append]; simp; omega, B6, H6, Lib.hid (by rw [List.length_append]; exact F6.out), Lib.hid (by rw [rev_move]; exact HA3.out)⟩
                        clear B6 H6 F6
                        have CS := Lib.hid (hSizes_any HHt.out)
                        go_wp2_with fail
                        with_reducible refine (CS.out).mono ?_
                        rintro e8 w8 ⟨rfl, b8⟩
                        have HHn := Lib.hid (HAt.below HHt.out b8)
                        have HFn := Lib.hid (RfAt.below HFt.out b8)
                        have HBn := Lib.hid (HBt.out.trans (b8.mono HBt.out.size))
                        have hsl : s1.length = d1.length + u1.length := by have := HAt1.out.1; rw [List.length_append, List.length_reverse] at this; exact this
                        obtain ⟨⟨v9, r9, o9⟩, _, _⟩ := HFn.out
                        obtain ⟨A9, c9, rfl⟩ := own_form o9
                        have p0 := RawAt.cell r9 0
                        have p1 := RawAt.cell r9 1
                        simp at p0 p1
                        rw [hsl] at p0
                        have hr9 := r9.lt
                        clear r9 o9 CS hsl HHt HFt HBt
                        have HDL := Lib.hid (show d1.length = d1.length from rfl)
                        generalize hdl : d1.length = dl at *
                        generalize hul : u1.length = ul at *
                        have HD1 := Lib.hid hdl
                        have HU1 := Lib.hid hul
                        clear hdl hul HDL
                        have z1 : IntKind.i64.wrap (((dl + ul : Nat) : Int) - (dl : Int)) = (ul : Int) := by rw [show ((dl + ul : Nat) : Int) - (dl : Int) = (ul : Int) by omega]; exact IntWalk.i64_in _ (by omega)
                        have z3 : IntKind.i64.wrap ((dl : Int) + (ul : Int) - (dl : Int)) = (ul : Int) := by rw [show (dl : Int) + (ul : Int) - (dl : Int) = (ul : Int) by omega]; exact IntWalk.i64_in _ (by omega)
                        have z2 : (dl : Int) + (ul : Int) - (dl : Int) = (ul : Int) := by omega
                        have z4 : IntKind.i64.wrap (ul : Int) = (ul : Int) := IntWalk.i64_in _ (by omega)
                        have MK : Hid (∀ W : World, Below w8.heap.size w8 W → (fun W : World => W.cell? ⟨rb, 0, none⟩ = some (.slice A9 (dl + ul) c9) ∧ W.cell? ⟨rb, 1, none⟩ = some (.int .i64 (dl : Int))) W) := fun W hW => ⟨(hW.cell (p := ⟨rb, 0, none⟩) hr9).trans p0, (hW.cell (p := ⟨rb, 1, none⟩) hr9).trans p1⟩
                        go_wp2_with fail
                        refine wp_region_noPanic ?_
                        refine wp_region_held_drew (S := (fun W => W.cell? ⟨rb, 0, none⟩ = some (.slice A9 (dl + ul) c9) ∧ W.cell? ⟨rb, 1, none⟩ = some (.int .i64 (dl : Int)))) (by kernel_rfl) (MK.out _ (Below.refl _ _).drew) (fun hHeld => ?_)
                        refine wpAnyH_take (i := 0) (v := ?_) rfl (by kernel_rfl) (by kernel_rfl) (by kernel_rfl) (fun _ _ _ h => h) (Or.inl ⟨by rfl, ?_⟩) hHeld ?_
                        rotate_left
                        · intro w hSw
                          (try dsimp only at hSw)
                          go_simp
                          try with_reducible rfl
                        go_simp
                        refine wpAnyH_take (i := 1) (v := ?_) rfl (by kernel_rfl) (by kernel_rfl) (by kernel_rfl) (fun _ _ _ h => h) (Or.inl ⟨by rfl, ?_⟩) hHeld ?_
                        rotate_left
                        · intro w hSw
                          (try dsimp only at hSw)
                          go_simp
                          try with_reducible rfl
                        go_simp
                        refine wpAnyH_take (i := 2) (v := ?_) rfl (by kernel_rfl) (by kernel_rfl) (by kernel_rfl) (fun _ _ _ h => h) (Or.inl ⟨by rfl, ?_⟩) hHeld ?_
                        rotate_left
                        · intro w hSw
                          (try dsimp only at hSw)
                          go_simp
                          try with_reducible rfl
                        go_simp
                        refine wpAnyH_take (i := 3) (v := ?_) rfl (by kernel_rfl) (by kernel_rfl) (by kernel_rfl) (fun _ _ _ h => h) (Or.inl ⟨by rfl, ?_⟩) hHeld ?_
                        rotate_left
                        · intro w hSw
                          (try dsimp only at hSw)
                          go_simp
                          try with_reducible rfl
                        go_simp
                        refine wpAnyH_take (i := 4) (v := ?_) rfl (by kernel_rfl) (by kernel_rfl) (by kernel_rfl) (fun _ _ _ h => h) (Or.inl ⟨by rfl, ?_⟩) hHeld ?_
                        rotate_left
                        · intro w hSw
                          (try dsimp only at hSw)
                          go_simp
                          try with_reducible rfl
                        go_simp
                        refine wpAnyH_take (i := 5) (v := ?_) rfl (by kernel_rfl) (by kernel_rfl) (by kernel_rfl) (fun _ _ _ h => h) (Or.inl ⟨by rfl, ?_⟩) hHeld ?_
                        rotate_left
                        · intro w hSw
                          (try dsimp only at hSw)
                          go_simp
                          try with_reducible rfl
                        go_simp
                        refine wpAnyH_take (i := 6) (v := ?_) rfl (by kernel_rfl) (by kernel_rfl) (by kernel_rfl) (fun _ _ _ h => h) (Or.inl ⟨by rfl, ?_⟩) hHeld ?_
                        rotate_left
                        · intro w hSw
                          (try dsimp only at hSw)
                          go_simp
                          try with_reducible rfl
                        go_simp
                        refine wpAnyH_take (i := 7) (v := ?_) rfl (by kernel_rfl) (by kernel_rfl) (by kernel_rfl) (fun _ _ _ h => h) (Or.inl ⟨by rfl, ?_⟩) hHeld ?_
                        rotate_left
                        · intro w hSw
                          (try dsimp only at hSw)
                          go_simp
                          try with_reducible rfl
                        go_simp
                        refine wpAnyH_take (i := 8) (v := ?_) rfl (by kernel_rfl) (by kernel_rfl) (by kernel_rfl) (fun _ _ _ h => h) (Or.inl ⟨by rfl, ?_⟩) hHeld ?_
                        rotate_left
                        · intro w hSw
                          (try dsimp only at hSw)
                          go_simp
                          try with_reducible rfl
                        go_simp
                        refine wpAnyH_take (i := 9) (v := ?_) rfl (by kernel_rfl) (by kernel_rfl) (by kernel_rfl) (fun _ _ _ h => h) (Or.inl ⟨by rfl, ?_⟩) hHeld ?_
                        rotate_left
                        · intro w hSw
                          (try dsimp only at hSw)
                          go_simp
                          try with_reducible rfl
                        go_simp
                        refine wpAnyH_take (i := 10) (v := ?_) rfl (by kernel_rfl) (by kernel_rfl) (by kernel_rfl) (fun _ _ _ h => h) (Or.inl ⟨by rfl, ?_⟩) hHeld ?_
                        rotate_left
                        · intro w hSw
                          (try dsimp only at hSw)
                          go_simp
                          try with_reducible rfl
                        go_simp
                        refine wpAnyH_take (i := 11) (v := ?_) rfl (by kernel_rfl) (by kernel_rfl) (by kernel_rfl) (fun _ _ _ h => h) (Or.inl ⟨by rfl, ?_⟩) hHeld ?_
                        rotate_left
                        · intro w hSw
                          (try dsimp only at hSw)
                          go_simp
                          try with_reducible rfl
                        go_simp
                        refine wpAnyH_take (i := 12) (v := ?_) rfl (by kernel_rfl) (by kernel_rfl) (by kernel_rfl) (fun _ _ _ h => h) (Or.inl ⟨by rfl, ?_⟩) hHeld ?_
                        rotate_left
                        · intro w hSw
                          (try dsimp only at hSw)
                          go_simp
                          try with_reducible rfl
                        go_simp
                        refine wpAnyH_take (i := 13) (v := ?_) rfl (by kernel_rfl) (by kernel_rfl) (by kernel_rfl) (fun _ _ _ h => h) (Or.inl ⟨by rfl, ?_⟩) hHeld ?_
                        rotate_left
                        · intro w hSw
                          (try dsimp only at hSw)
                          go_simp
                          try with_reducible rfl
                        go_simp
                        refine wpAnyH_take (i := 14) (v := ?_) rfl (by kernel_rfl) (by kernel_rfl) (by kernel_rfl) (fun _ _ _ h => h) (Or.inl ⟨by rfl, ?_⟩) hHeld ?_
                        rotate_left
                        · intro w hSw
                          (try dsimp only at hSw)
                          go_simp
                          try with_reducible rfl
                        go_simp
                        refine wpAnyH_take (i := 15) (v := ?_) rfl (by kernel_rfl) (by kernel_rfl) (by kernel_rfl) (fun _ _ _ h => h) (Or.inl ⟨by rfl, ?_⟩) hHeld ?_
                        rotate_left
                        · intro w hSw
                          (try dsimp only at hSw)
                          go_simp
                          try with_reducible rfl
                        go_simp
                        refine wpAnyH_take (i := 16) (v := ?_) rfl (by kernel_rfl) (by kernel_rfl) (by kernel_rfl) (fun _ _ _ h => h) (Or.inl ⟨by rfl, ?_⟩) hHeld ?_
                        rotate_left
                        · intro w hSw
                          (try dsimp only at hSw)
                          go_simp
                          try with_reducible rfl
                        go_simp
                        refine wpAnyH_take (i := 17) (v := ?_) rfl (by kernel_rfl) (by kernel_rfl) (by kernel_rfl) (fun _ _ _ h => h) (Or.inl ⟨by rfl, ?_⟩) hHeld ?_
                        rotate_left
                        · intro w hSw
                          (try dsimp only at hSw)
                          go_simp
                          try with_reducible rfl
                        go_simp
                        refine wpAnyH_take (i := 18) (v := ?_) rfl (by kernel_rfl) (by kernel_rfl) (by kernel_rfl) (fun _ _ _ h => h) (Or.inl ⟨by rfl, ?_⟩) hHeld ?_
                        rotate_left
                        · intro w hSw
                          (try dsimp only at hSw)
                          go_simp
                          try with_reducible rfl
                        go_simp
                        refine wpAnyH_take (i := 19) (v := ?_) rfl (by kernel_rfl) (by kernel_rfl) (by kernel_rfl) (fun _ _ _ h => h) (Or.inl ⟨by rfl, ?_⟩) hHeld ?_
                        rotate_left
                        · intro w hSw
                          (try dsimp only at hSw)
                          go_simp
                          try with_reducible rfl
                        go_simp
                        refine wpAnyH_done (by kernel_rfl) ?_ _
                        refine NoPanic.normal ?_
                        go_wp2
                        go_roundg (gk - 1)
                        case measure => omega
                        case rel => exact ⟨k + 1, d1, u1, s1, by go_num, by omega, by omega, by rw [HD1.out, HU1.out]; exact hsum1, Lib.hid HBn.out.drew, Lib.hid (HAt.below HHn.out (Below.refl _ _).drew), Lib.hid (by rw [HD1.out]; exact RfAt.below HFn.out (Below.refl _ _).drew), HAt1⟩
                    · skip
                      have qa0 : (a == 0) = false := by simp; omega
                      have qb0 : decide (a = 0) = false := decide_eq_false (by omega)
                      have qa1 : (a == 1) = false := by simp; omega
                      have qb1 : decide (a = 1) = false := decide_eq_false (by omega)
                      have qa2 : (a == 2) = false := by simp; omega
                      have qb2 : decide (a = 2) = false := decide_eq_false (by omega)
                      have qa3 : (a == 3) = false := by simp; omega
                      have qb3 : decide (a = 3) = false := decide_eq_false (by omega)
                      have qa4 : (a == 4) = false := by simp; omega
                      have qb4 : decide (a = 4) = false := decide_eq_false (by omega)
                      clear g10 g11 g12 g13 g14
                      obtain ⟨d1, u1, s1, hsum1, HBt, HHt, HFt, HAt1⟩ : ∃ (d1 u1 : List S2) (s1 : List (Value × Value)), d1.length + u1.length ≤ 100 ∧ Hid (Below w.heap.size w _) ∧ Hid (HAt w.heap.size _ w.heap.size d1 u1) ∧ Hid (RfAt w.heap.size _ rb s1 d1.length) ∧ Hid (ArgsAt w s1 (d1 ++ u1.reverse)) := ⟨d, u, s, hdu, HB3, HH3, HF3, HA3⟩
                      clear HB3 HH3 HF3
                      have CS := Lib.hid (hSizes_any HHt.out)
                      go_wp2_with fail
                      with_reducible refine (CS.out).mono ?_
                      rintro e8 w8 ⟨rfl, b8⟩
                      have HHn := Lib.hid (HAt.below HHt.out b8)
                      have HFn := Lib.hid (RfAt.below HFt.out b8)
                      have HBn := Lib.hid (HBt.out.trans (b8.mono HBt.out.size))
                      have hsl : s1.length = d1.length + u1.length := by have := HAt1.out.1; rw [List.length_append, List.length_reverse] at this; exact this
                      obtain ⟨⟨v9, r9, o9⟩, _, _⟩ := HFn.out
                      obtain ⟨A9, c9, rfl⟩ := own_form o9
                      have p0 := RawAt.cell r9 0
                      have p1 := RawAt.cell r9 1
                      simp at p0 p1
                      rw [hsl] at p0
                      have hr9 := r9.lt
                      clear r9 o9 CS hsl HHt HFt HBt
                      have HDL := Lib.hid (show d1.length = d1.length from rfl)
                      generalize hdl : d1.length = dl at *
                      generalize hul : u1.length = ul at *
                      have HD1 := Lib.hid hdl
                      have HU1 := Lib.hid hul
                      clear hdl hul HDL
                      have z1 : IntKind.i64.wrap (((dl + ul : Nat) : Int) - (dl : Int)) = (ul : Int) := by rw [show ((dl + ul : Nat) : Int) - (dl : Int) = (ul : Int) by omega]; exact IntWalk.i64_in _ (by omega)
                      have z3 : IntKind.i64.wrap ((dl : Int) + (ul : Int) - (dl : Int)) = (ul : Int) := by rw [show (dl : Int) + (ul : Int) - (dl : Int) = (ul : Int) by omega]; exact IntWalk.i64_in _ (by omega)
                      have z2 : (dl : Int) + (ul : Int) - (dl : Int) = (ul : Int) := by omega
                      have z4 : IntKind.i64.wrap (ul : Int) = (ul : Int) := IntWalk.i64_in _ (by omega)
                      have MK : Hid (∀ W : World, Below w8.heap.size w8 W → (fun W : World => W.cell? ⟨rb, 0, none⟩ = some (.slice A9 (dl + ul) c9) ∧ W.cell? ⟨rb, 1, none⟩ = some (.int .i64 (dl : Int))) W) := fun W hW => ⟨(hW.cell (p := ⟨rb, 0, none⟩) hr9).trans p0, (hW.cell (p := ⟨rb, 1, none⟩) hr9).trans p1⟩
                      go_wp2_with fail
                      refine wp_region_noPanic ?_
                      refine wp_region_held_drew (S := (fun W => W.cell? ⟨rb, 0, none⟩ = some (.slice A9 (dl + ul) c9) ∧ W.cell? ⟨rb, 1, none⟩ = some (.int .i64 (dl : Int)))) (by kernel_rfl) (MK.out _ (Below.refl _ _).drew) (fun hHeld => ?_)
                      refine wpAnyH_take (i := 0) (v := ?_) rfl (by kernel_rfl) (by kernel_rfl) (by kernel_rfl) (fun _ _ _ h => h) (Or.inl ⟨by rfl, ?_⟩) hHeld ?_
                      rotate_left
                      · intro w hSw
                        (try dsimp only at hSw)
                        go_simp
                        try with_reducible rfl
                      go_simp
                      refine wpAnyH_take (i := 1) (v := ?_) rfl (by kernel_rfl) (by kernel_rfl) (by kernel_rfl) (fun _ _ _ h => h) (Or.inl ⟨by rfl, ?_⟩) hHeld ?_
                      rotate_left
                      · intro w hSw
                        (try dsimp only at hSw)
                        go_simp
                        try with_reducible rfl
                      go_simp
                      refine wpAnyH_take (i := 2) (v := ?_) rfl (by kernel_rfl) (by kernel_rfl) (by kernel_rfl) (fun _ _ _ h => h) (Or.inl ⟨by rfl, ?_⟩) hHeld ?_
                      rotate_left
                      · intro w hSw
                        (try dsimp only at hSw)
                        go_simp
                        try with_reducible rfl
                      go_simp
                      refine wpAnyH_take (i := 3) (v := ?_) rfl (by kernel_rfl) (by kernel_rfl) (by kernel_rfl) (fun _ _ _ h => h) (Or.inl ⟨by rfl, ?_⟩) hHeld ?_
                      rotate_left
                      · intro w hSw
                        (try dsimp only at hSw)
                        go_simp
                        try with_reducible rfl
                      go_simp
                      refine wpAnyH_take (i := 4) (v := ?_) rfl (by kernel_rfl) (by kernel_rfl) (by kernel_rfl) (fun _ _ _ h => h) (Or.inl ⟨by rfl, ?_⟩) hHeld ?_
                      rotate_left
                      · intro w hSw
                        (try dsimp only at hSw)
                        go_simp
                        try with_reducible rfl
                      go_simp
                      refine wpAnyH_take (i := 5) (v := ?_) rfl (by kernel_rfl) (by kernel_rfl) (by kernel_rfl) (fun _ _ _ h => h) (Or.inl ⟨by rfl, ?_⟩) hHeld ?_
                      rotate_left
                      · intro w hSw
                        (try dsimp only at hSw)
                        go_simp
                        try with_reducible rfl
                      go_simp
                      refine wpAnyH_take (i := 6) (v := ?_) rfl (by kernel_rfl) (by kernel_rfl) (by kernel_rfl) (fun _ _ _ h => h) (Or.inl ⟨by rfl, ?_⟩) hHeld ?_
                      rotate_left
                      · intro w hSw
                        (try dsimp only at hSw)
                        go_simp
                        try with_reducible rfl
                      go_simp
                      refine wpAnyH_take (i := 7) (v := ?_) rfl (by kernel_rfl) (by kernel_rfl) (by kernel_rfl) (fun _ _ _ h => h) (Or.inl ⟨by rfl, ?_⟩) hHeld ?_
                      rotate_left
                      · intro w hSw
                        (try dsimp only at hSw)
                        go_simp
                        try with_reducible rfl
                      go_simp
                      refine wpAnyH_take (i := 8) (v := ?_) rfl (by kernel_rfl) (by kernel_rfl) (by kernel_rfl) (fun _ _ _ h => h) (Or.inl ⟨by rfl, ?_⟩) hHeld ?_
                      rotate_left
                      · intro w hSw
                        (try dsimp only at hSw)
                        go_simp
                        try with_reducible rfl
                      go_simp
                      refine wpAnyH_take (i := 9) (v := ?_) rfl (by kernel_rfl) (by kernel_rfl) (by kernel_rfl) (fun _ _ _ h => h) (Or.inl ⟨by rfl, ?_⟩) hHeld ?_
                      rotate_left
                      · intro w hSw
                        (try dsimp only at hSw)
                        go_simp
                        try with_reducible rfl
                      go_simp
                      refine wpAnyH_take (i := 10) (v := ?_) rfl (by kernel_rfl) (by kernel_rfl) (by kernel_rfl) (fun _ _ _ h => h) (Or.inl ⟨by rfl, ?_⟩) hHeld ?_
                      rotate_left
                      · intro w hSw
                        (try dsimp only at hSw)
                        go_simp
                        try with_reducible rfl
                      go_simp
                      refine wpAnyH_take (i := 11) (v := ?_) rfl (by kernel_rfl) (by kernel_rfl) (by kernel_rfl) (fun _ _ _ h => h) (Or.inl ⟨by rfl, ?_⟩) hHeld ?_
                      rotate_left
                      · intro w hSw
                        (try dsimp only at hSw)
                        go_simp
                        try with_reducible rfl
                      go_simp
                      refine wpAnyH_take (i := 12) (v := ?_) rfl (by kernel_rfl) (by kernel_rfl) (by kernel_rfl) (fun _ _ _ h => h) (Or.inl ⟨by rfl, ?_⟩) hHeld ?_
                      rotate_left
                      · intro w hSw
                        (try dsimp only at hSw)
                        go_simp
                        try with_reducible rfl
                      go_simp
                      refine wpAnyH_take (i := 13) (v := ?_) rfl (by kernel_rfl) (by kernel_rfl) (by kernel_rfl) (fun _ _ _ h => h) (Or.inl ⟨by rfl, ?_⟩) hHeld ?_
                      rotate_left
                      · intro w hSw
                        (try dsimp only at hSw)
                        go_simp
                        try with_reducible rfl
                      go_simp
                      refine wpAnyH_take (i := 14) (v := ?_) rfl (by kernel_rfl) (by kernel_rfl) (by kernel_rfl) (fun _ _ _ h => h) (Or.inl ⟨by rfl, ?_⟩) hHeld ?_
                      rotate_left
                      · intro w hSw
                        (try dsimp only at hSw)
                        go_simp
                        try with_reducible rfl
                      go_simp
                      refine wpAnyH_take (i := 15) (v := ?_) rfl (by kernel_rfl) (by kernel_rfl) (by kernel_rfl) (fun _ _ _ h => h) (Or.inl ⟨by rfl, ?_⟩) hHeld ?_
                      rotate_left
                      · intro w hSw
                        (try dsimp only at hSw)
                        go_simp
                        try with_reducible rfl
                      go_simp
                      refine wpAnyH_take (i := 16) (v := ?_) rfl (by kernel_rfl) (by kernel_rfl) (by kernel_rfl) (fun _ _ _ h => h) (Or.inl ⟨by rfl, ?_⟩) hHeld ?_
                      rotate_left
                      · intro w hSw
                        (try dsimp only at hSw)
                        go_simp
                        try with_reducible rfl
                      go_simp
                      refine wpAnyH_take (i := 17) (v := ?_) rfl (by kernel_rfl) (by kernel_rfl) (by kernel_rfl) (fun _ _ _ h => h) (Or.inl ⟨by rfl, ?_⟩) hHeld ?_
                      rotate_left
                      · intro w hSw
                        (try dsimp only at hSw)
                        go_simp
                        try with_reducible rfl
                      go_simp
                      refine wpAnyH_take (i := 18) (v := ?_) rfl (by kernel_rfl) (by kernel_rfl) (by kernel_rfl) (fun _ _ _ h => h) (Or.inl ⟨by rfl, ?_⟩) hHeld ?_
                      rotate_left
                      · intro w hSw
                        (try dsimp only at hSw)
                        go_simp
                        try with_reducible rfl
                      go_simp
                      refine wpAnyH_take (i := 19) (v := ?_) rfl (by kernel_rfl) (by kernel_rfl) (by kernel_rfl) (fun _ _ _ h => h) (Or.inl ⟨by rfl, ?_⟩) hHeld ?_
                      rotate_left
                      · intro w hSw
                        (try dsimp only at hSw)
                        go_simp
                        try with_reducible rfl
                      go_simp
                      refine wpAnyH_done (by kernel_rfl) ?_ _
                      refine NoPanic.normal ?_
                      go_wp2
                      go_roundg (gk - 1)
                      case measure => omega
                      case rel => exact ⟨k + 1, d1, u1, s1, by go_num, by omega, by omega, by rw [HD1.out, HU1.out]; exact hsum1, Lib.hid HBn.out.drew, Lib.hid (HAt.below HHn.out (Below.refl _ _).drew), Lib.hid (by rw [HD1.out]; exact RfAt.below HFn.out (Below.refl _ _).drew), HAt1⟩
      · obtain rfl : k = n := by omega
        have q := hb.out
        clear hb hH hR hA
        go_wp2_with fail
        with_reducible refine (CA.out _).mono ?_
        rintro e5 w5 ⟨rfl, b5⟩
        have q5 := Lib.hid (q.trans (b5.mono q.size))
        go_wp2
        go_ret
        exact ⟨rfl, q5.out⟩
end Go.Proofs.Ytncbhbjhfmbbkaa
