/- The walk of the law that a text's sum is that of its pieces. -/
import Derived.Test.YtajjodooojhhcaaAddEx
import Derived.Test.YtajjodooojhhcaaRefOf
import Derived.Test.YtajjodooojhhcaaSlices
namespace Go.Proofs.Ytajjodooojhhcaa
open Go.RowKit
theorem gen_world {K : World → Prop} {W w : World} {B b : Nat} {t : TypeId} {cs : Array Value} (h1 : Below B w W) (h2 : RawAt t W b cs) (h : ∀ W1, Below B w W1 → RawAt t W1 b cs → K W1) : K W := h W h1 h2
set_option maxHeartbeats 4000000 in
set_option maxRecDepth 100000 in
theorem sumsPieces_walk (A0 : Option Addr) (n0 c0 : Nat) (l0 : List Int) (A1 : Option Addr) (n1 c1 : Nat) (l1 : List Int) (w : World)
    (hA0 : IntsAt .i32 w A0 l0) (hl0 : l0.length = n0) (_ : n0 ≤ maxLen) (hC0 : Caps A0 n0 c0) (_ : ∀ x ∈ l0, (Lit.int .i32 x).wf = true)
    (hA1 : IntsAt .i64 w A1 l1) (hl1 : l1.length = n1) (_ : n1 ≤ maxLen) (_ : Caps A1 n1 c1) (hF1 : ∀ x ∈ l1, (Lit.int .i64 x).wf = true) :
    Calls Try.prog 6 #[.slice A0 n0 c0, .slice A1 n1 c1] w fun e w' => e = .returned (.bool true) ∧ Below w.heap.size w w' := by
  have HA0 := Lib.hid hA0; clear hA0
  have HA1 := Lib.hid hA1; clear hA1
  have HL0 := Lib.hid hl0; clear hl0
  have HL1 := Lib.hid hl1; clear hl1
  have HC0 := Lib.hid hC0; clear hC0
  have HF1 := Lib.hid hF1; clear hF1
  obtain ⟨i0, hi0, _, _, _⟩ := info_parts i32_info
  have HI0 := Lib.hid hi0
  by_cases k0 : 1000 < n0
  · go_enter Try.func6, Try.ntmps6
    go_wp2_with fail
    refine (two_any _).mono ?_
    rintro e w1 ⟨rfl, hb1⟩
    go_wp2_with fail
    go_ret
    exact ⟨rfl, hb1⟩
  by_cases k1 : 100 < n1
  · go_enter Try.func6, Try.ntmps6
    go_wp2_with fail
    refine (two_any _).mono ?_
    rintro e w1 ⟨rfl, hb1⟩
    go_wp2_with fail
    go_ret
    exact ⟨rfl, hb1⟩
  go_enter Try.func6, Try.ntmps6
  go_wp2
  have hb0 : Below w.heap.size w (w.alloc (.cells (qcs q0) 25)) := (Below.refl _ _).alloc (Nat.le_refl _) _
  have HR0 := Lib.hid (show RawAt 25 (w.alloc (.cells (qcs q0) 25)) w.heap.size (qcs q0) from heap_alloc_new w _)
  change Code.wp _ _ _ _ (w.alloc (.cells (qcs q0) 25))
  generalize (w.alloc (.cells (qcs q0) 25)) = W0 at *
  go_loopg [6, 21] n1 (fun k v i wr => ∃ j a : Nat, i = .int .i64 j ∧ v = .int .i64 a ∧ j ≤ n1 ∧ n1 - j ≤ k ∧ a ≤ n0 ∧ Below w.heap.size w wr ∧ Hid (RawAt 25 wr w.heap.size (qcs (qof (l0.take a)))))
  case atStart => exact ⟨0, 0, rfl, rfl, by omega, by omega, by omega, hb0, HR0⟩
  case round =>
    obtain ⟨j, a, rfl, rfl, h1, h2, h3, hb, hr⟩ := hrel
    have hlt := RawAt.lt hr.out
    obtain ⟨c0_, c1_, c2_, c3_, c4_, c5_, c6_⟩ := RawAt.cells7 hr.out
    by_cases hj : j < n1
    · obtain ⟨b1, off1, rfl, hbs, hc⟩ := HA1.out (by have := HL1.out; omega)
      have qx := hc j (by rw [HL1.out]; omega)
      have hwf := HF1.out (nth l1 j) (by have hjl : j < l1.length := by rw [HL1.out]; omega
                                         rw [show nth l1 j = l1[j] from by simp [nth, List.getD, hjl]]; exact List.getElem_mem hjl)
      have hbd := bounds_i64 hwf
      clear hc hwf
      obtain ⟨H1, H2⟩ := old_cells hb
      generalize nth l1 j = x at *
      by_cases hx : x < 0
      · go_wp2
        go_roundg (gk - 1)
        case measure => omega
        case rel => exact ⟨j + 1, a, by go_num, rfl, by omega, by omega, h3, hb, hr⟩
      · by_cases hx2 : (n0 : Int) - (a : Int) < x
        · go_wp2
          go_roundg (gk - 1)
          case measure => omega
          case rel => exact ⟨j + 1, a, by go_num, rfl, by omega, by omega, h3, hb, hr⟩
        · obtain ⟨m, rfl⟩ : ∃ m : Nat, x = (m : Int) := ⟨x.toNat, by omega⟩
          have hm1 : (m : Int) ≤ (n0 : Int) - (a : Int) := by omega
          have hm2 : a + m ≤ n0 := by omega
          have lq := HL0.out
          have s1 := fun W : World => cut_both (P := Try.prog) Try.underlying22 hi0 (by kernel_rfl) A0 n0 c0 a m (by have := HC0.out.1; omega) W
          have CO := Lib.hid fun (W : World) (hW : Below w.heap.size w W) => of_ex (cutA A0 c0 a) m (c0 - a) ((l0.drop a).take m) W _ ((HA0.out.cut HL0.out HC0.out.1 a m hm2).below hW) (by rw [List.length_take, List.length_drop]; omega) (by omega) rfl
          have CD := Lib.hid fun (W : World) => add_ex (qof (l0.take a)) (qof ((l0.drop a).take m)) (qof (l0.take (a + m))) _ _ (qof_ok _) (qof_ok _) (by rw [List.length_take]; omega) (by rw [List.length_take]; omega) (by rw [← qof_append, List.take_add]) W
          clear lq
          generalize qof ((l0.drop a).take m) = y at *
          generalize qof (l0.take a) = z at *
          generalize hu : qof (l0.take (a + m)) = u at *
          have HU := Lib.hid hu; clear hu
          have hq1 : IntKind.i64.wrap ((a : Int) + (m : Int)) = (a : Int) + (m : Int) := IntWalk.i64_in _ (by omega)
          generalize hAA : cutA A0 c0 a = AA at *
          have HAA := Lib.hid hAA; clear hAA
          generalize hcc : c0 - a = cc at *
          have HCC := Lib.hid hcc; clear hcc
          go_wp2_with fail
          go_region_with (first
            | (go_at_call 12; ((with_reducible refine (CO.out _ hb.drew).mono ?_); rintro e w2 ⟨rfl, hb2⟩); have hr2 := RawAt.below (RawAt.drew_ hr.out) hb2 hlt; obtain ⟨d0, d1, d2, d3, d4, d5, d6⟩ := RawAt.cells7 hr2)
            | (go_at_call 16; ((with_reducible refine (CD.out _).mono ?_); rintro e w3 ⟨rfl, hb3⟩); have hr3 := RawAt.below hr2 hb3 (RawAt.lt hr2); obtain ⟨g0, g1, g2, g3, g4, g5, g6⟩ := RawAt.cells7 hr3; have f0 := RawAt.free hr3 0; have f1 := RawAt.free hr3 1; have f2 := RawAt.free hr3 2; have f3 := RawAt.free hr3 3; have f4 := RawAt.free hr3 4; have f5 := RawAt.free hr3 5; have f6 := RawAt.free hr3 6))
          all_goals
            have hb4 := hb.drew.trans (hb2.mono hb.drew.size)
            have hb5 := hb4.trans (hb3.mono hb4.size)
            go_wp2
            go_roundg (gk - 1)
            case measure => omega
            case rel => exact ⟨j + 1, a + m, by go_num, by go_num, by omega, by omega, hm2, by first | exact (((((((hb5.setCell (p := ⟨w.heap.size, _, none⟩) (Nat.le_refl _) _).setCell (p := ⟨w.heap.size, _, none⟩) (Nat.le_refl _) _).setCell (p := ⟨w.heap.size, _, none⟩) (Nat.le_refl _) _).setCell (p := ⟨w.heap.size, _, none⟩) (Nat.le_refl _) _).setCell (p := ⟨w.heap.size, _, none⟩) (Nat.le_refl _) _).setCell (p := ⟨w.heap.size, _, none⟩) (Nat.le_refl _) _).setCell (p := ⟨w.heap.size, _, none⟩) (Nat.le_refl _) _) | exact (((((((hb5.setCell (p := ⟨w.heap.size, _, none⟩) (Nat.le_refl _) _).setCell (p := ⟨w.heap.size, _, none⟩) (Nat.le_refl _) _).setCell (p := ⟨w.heap.size, _, none⟩) (Nat.le_refl _) _).setCell (p := ⟨w.heap.size, _, none⟩) (Nat.le_refl _) _).setCell (p := ⟨w.heap.size, _, none⟩) (Nat.le_refl _) _).setCell (p := ⟨w.heap.size, _, none⟩) (Nat.le_refl _) _).setCell (p := ⟨w.heap.size, _, none⟩) (Nat.le_refl _) _).drew, by rw [HU.out]; refine Lib.hid ?_; exact (RawAt.set_ (RawAt.set_ (RawAt.set_ (RawAt.set_ (RawAt.set_ (RawAt.set_ (RawAt.set_ hr3 _ _) _ _) _ _) _ _) _ _) _ _) _ _).of_eq (by simp [qcs])⟩
    · have hjn : n1 ≤ j := by omega
      have HJ := Lib.hid hjn; clear hjn
      have lq := HL0.out
      have s1 := fun W : World => cut_rest (P := Try.prog) Try.underlying22 hi0 (by kernel_rfl) A0 n0 c0 a h3 W
      have CO := Lib.hid fun (W : World) (hW : Below w.heap.size w W) => of_ex (cutA A0 c0 a) (n0 - a) (c0 - a) ((l0.drop a).take (n0 - a)) W _ ((HA0.out.cut HL0.out HC0.out.1 a (n0 - a) (by omega)).below hW) (by rw [List.length_take, List.length_drop]; omega) (by omega) rfl
      have CD := Lib.hid fun (W : World) => add_ex (qof (l0.take a)) (qof ((l0.drop a).take (n0 - a))) (qof l0) _ _ (qof_ok _) (qof_ok _) (by rw [List.length_take]; omega) (by rw [List.length_take]; omega) (by rw [← qof_append, ← List.take_add, List.take_of_length_le (by omega)]) W
      have CA := Lib.hid fun (W : World) (hW : Below w.heap.size w W) => of_ex A0 n0 c0 l0 W _ (HA0.out.below hW) HL0.out (by omega) rfl
      have CB : Hid (∀ (W : World), Below w.heap.size w W → Calls Try.prog 14 #[.slice A0 n0 c0] W fun e w' => e = .returned (.agg #[.int .i64 (qof l0).by_, .int .i64 (qof l0).ru, .int .i64 (qof l0).br, .int .i64 (qof l0).fi, .int .i64 (qof l0).la, .int .i64 (qof l0).lo, .int .i64 (qof l0).rw]) ∧ Below W.heap.size W w') := fun W hW => rof_any A0 n0 c0 l0 W (HA0.out.below hW) HL0.out (by omega)
      have CR : Hid (∀ (W : World), Calls Try.prog 13 #[.agg #[.int .i64 (qof l0).by_, .int .i64 (qof l0).ru, .int .i64 (qof l0).br, .int .i64 (qof l0).fi, .int .i64 (qof l0).la, .int .i64 (qof l0).lo, .int .i64 (qof l0).rw]] W fun e w' => e = .returned (.agg #[.int .i64 (qof l0).by_, .int .i64 (qof l0).ru, .int .i64 (qof l0).br, .int .i64 (qof l0).fi, .int .i64 (qof l0).la, .int .i64 (qof l0).lo, .int .i64 (qof l0).rw]) ∧ Below W.heap.size W w') := fun W => ref_any (qof l0) W
      clear lq
      generalize qof ((l0.drop a).take (n0 - a)) = y at *
      generalize qof (l0.take a) = z at *
      generalize qof l0 = u at *
      generalize hAA : cutA A0 c0 a = AA at *
      have HAA := Lib.hid hAA; clear hAA
      generalize hcc : c0 - a = cc at *
      have HCC := Lib.hid hcc; clear hcc
      generalize hnn : n0 - a = nn at *
      have HNN := Lib.hid hnn; clear hnn
      go_wp2_with fail
      go_region_with (first
        | (go_at_call 12; ((with_reducible refine (CO.out _ hb.drew).mono ?_); rintro e w2 ⟨rfl, hb2⟩); have hr2 := RawAt.below (RawAt.drew_ hr.out) hb2 hlt; obtain ⟨d0, d1, d2, d3, d4, d5, d6⟩ := RawAt.cells7 hr2)
        | (go_at_call 16; ((with_reducible refine (CD.out _).mono ?_); rintro e w3 ⟨rfl, hb3⟩); have hr3 := RawAt.below hr2 hb3 (RawAt.lt hr2); obtain ⟨g0, g1, g2, g3, g4, g5, g6⟩ := RawAt.cells7 hr3; have f0 := RawAt.free hr3 0; have f1 := RawAt.free hr3 1; have f2 := RawAt.free hr3 2; have f3 := RawAt.free hr3 3; have f4 := RawAt.free hr3 4; have f5 := RawAt.free hr3 5; have f6 := RawAt.free hr3 6))
      all_goals
        have hb4 := hb.drew.trans (hb2.mono hb.drew.size)
        have hb5 := hb4.trans (hb3.mono hb4.size)
        refine gen_world (K := fun W => Exit.then _ _ _ _ W) (B := w.heap.size) (w := w) (t := 25) (b := w.heap.size) (cs := qcs u) ?_ ?_ ?_
        · first | exact (((((((hb5.setCell (p := ⟨w.heap.size, _, none⟩) (Nat.le_refl _) _).setCell (p := ⟨w.heap.size, _, none⟩) (Nat.le_refl _) _).setCell (p := ⟨w.heap.size, _, none⟩) (Nat.le_refl _) _).setCell (p := ⟨w.heap.size, _, none⟩) (Nat.le_refl _) _).setCell (p := ⟨w.heap.size, _, none⟩) (Nat.le_refl _) _).setCell (p := ⟨w.heap.size, _, none⟩) (Nat.le_refl _) _).setCell (p := ⟨w.heap.size, _, none⟩) (Nat.le_refl _) _) | exact (((((((hb5.setCell (p := ⟨w.heap.size, _, none⟩) (Nat.le_refl _) _).setCell (p := ⟨w.heap.size, _, none⟩) (Nat.le_refl _) _).setCell (p := ⟨w.heap.size, _, none⟩) (Nat.le_refl _) _).setCell (p := ⟨w.heap.size, _, none⟩) (Nat.le_refl _) _).setCell (p := ⟨w.heap.size, _, none⟩) (Nat.le_refl _) _).setCell (p := ⟨w.heap.size, _, none⟩) (Nat.le_refl _) _).setCell (p := ⟨w.heap.size, _, none⟩) (Nat.le_refl _) _).drew
        · exact (RawAt.set_ (RawAt.set_ (RawAt.set_ (RawAt.set_ (RawAt.set_ (RawAt.set_ (RawAt.set_ hr3 _ _) _ _) _ _) _ _) _ _) _ _) _ _).of_eq (by simp [qcs])
        clear hb5 hb4 hb3 hb2 hr3 hr2 d0 d1 d2 d3 d4 d5 d6 g0 g1 g2 g3 g4 g5 g6 f0 f1 f2 f3 f4 f5 f6 c0_ c1_ c2_ c3_ c4_ c5_ c6_ CO CD s1 hb hr
        intro W1 hbW hx
        show Exit.then _ _ _ _ W1
        have HX := Lib.hid hx; clear hx
        generalize hbb : w.heap.size = b at HX ⊢
        have HBB := Lib.hid hbb; clear hbb
        have MK := Lib.hid fun (W : World) (hW : Below W1.heap.size W1 W) => (by
            obtain ⟨b0, b1, b2, b3, b4, b5, b6⟩ := held_sum HX.out W hW
            exact ⟨b0, b1, b2, b3, b4, b5, b6, hW⟩ : W.cell? ⟨b, 0, none⟩ = some (.int .i64 u.by_) ∧ W.cell? ⟨b, 1, none⟩ = some (.int .i64 u.ru) ∧ W.cell? ⟨b, 2, none⟩ = some (.int .i64 u.br) ∧ W.cell? ⟨b, 3, none⟩ = some (.int .i64 u.fi) ∧ W.cell? ⟨b, 4, none⟩ = some (.int .i64 u.la) ∧ W.cell? ⟨b, 5, none⟩ = some (.int .i64 u.lo) ∧ W.cell? ⟨b, 6, none⟩ = some (.int .i64 u.rw) ∧ Below W1.heap.size W1 W)
        have hW2 : Below W1.heap.size W1 W1.drew := (Below.refl _ _).drew
        go_wp2_with fail
        go_region_held3 (fun W => W.cell? ⟨b, 0, none⟩ = some (.int .i64 u.by_) ∧ W.cell? ⟨b, 1, none⟩ = some (.int .i64 u.ru) ∧ W.cell? ⟨b, 2, none⟩ = some (.int .i64 u.br) ∧ W.cell? ⟨b, 3, none⟩ = some (.int .i64 u.fi) ∧ W.cell? ⟨b, 4, none⟩ = some (.int .i64 u.la) ∧ W.cell? ⟨b, 5, none⟩ = some (.int .i64 u.lo) ∧ W.cell? ⟨b, 6, none⟩ = some (.int .i64 u.rw) ∧ Below W1.heap.size W1 W) (first | (with_reducible exact MK.out _ hW2) | (with_reducible exact MK.out _ (Below.refl _ _)) | go_keep)
          (first
            | (go_at_call 12; ((with_reducible refine (CA.out _ (hbW.trans (hW2.mono hbW.size))).mono ?_); rintro e w2 ⟨rfl, hb2⟩); have hW2 := hW2.trans (hb2.mono hW2.size))
            | (go_at_call 13; ((with_reducible refine (CR.out _).mono ?_); rintro e w2 ⟨rfl, hb2⟩); have hW2 := hW2.trans (hb2.mono hW2.size))
            | (go_at_call 14; ((with_reducible refine (CB.out _ (hbW.trans (hW2.mono hbW.size))).mono ?_); rintro e w2 ⟨rfl, hb2⟩); have hW2 := hW2.trans (hb2.mono hW2.size))
            | (go_at_call 11; refine (two_any _).mono ?_; rintro e w2 ⟨rfl, hb2⟩; have hW2 := hW2.trans (hb2.mono hW2.size)))
        go_wp2
        go_ret
        exact ⟨rfl, by have := HBB.out; subst this; exact hbW.trans (hW2.mono hbW.size)⟩
end Go.Proofs.Ytajjodooojhhcaa
