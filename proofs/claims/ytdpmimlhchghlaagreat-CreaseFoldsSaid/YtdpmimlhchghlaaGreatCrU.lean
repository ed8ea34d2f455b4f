/- Creases: the document's Places. -/
import Derived.Test.YtdpmimlhchghlaaGreatCrT
import Derived.Test.YtdpmimlhchghlaaGreatCrC
namespace Go.Proofs.YtdpmimlhchghlaaGreat
open Go.RowKit
set_option linter.unusedVariables false
set_option maxHeartbeats 16000000 in
set_option maxRecDepth 100000 in
theorem rPlaces16 (n er : Int) (A : Option Addr) (m c : Nat) (o : List In) (B : Option Addr) (k d : Nat) (l : List (Int × Int)) (w : World) (hA : RowsAt encI 5 w A o) (hl : o.length = m) (hm : m ≤ 100) (htx : ∀ a ∈ o, a.tx.size ≤ 1000) (hB : RowsAt wencS 2 w B l) (hlk : l.length = k) (hk : k ≤ 1000000) (hx : ∀ x ∈ l, (-1099511627776 ≤ x.1 ∧ x.1 ≤ 1099511627776) ∧ -1099511627776 ≤ x.2 ∧ x.2 ≤ 1099511627776) :
    Calls Tryz.prog 44 #[.agg #[.int .i64 n, .slice A m c, .int .i64 er], .slice B k d] w fun e w' => ∃ v, e = .returned v ∧ w'.ownsRow w.heap.size 47 2 v k (kfl wencS (l.map (cpl o))) ∧ Below w.heap.size w w' := by
  have ST := cspan_slt
  have x1 : Below w.heap.size w (w.alloc (.cells #[.int .i64 n, .slice A m c, .int .i64 er] 51)) := (Below.refl _ _).alloc (Nat.le_refl _) _
  have r1 : RawAt 51 (w.alloc (.cells #[.int .i64 n, .slice A m c, .int .i64 er] 51)) w.heap.size #[.int .i64 n, .slice A m c, .int .i64 er] := heap_alloc_new w _
  obtain ⟨W1, hW1⟩ : ∃ W1, W1 = w.alloc (.cells #[.int .i64 n, .slice A m c, .int .i64 er] 51) := ⟨_, rfl⟩
  rw [← hW1] at x1 r1
  have HW1 := Lib.hid hW1
  have X1 := Lib.hid x1
  have R1 := Lib.hid r1
  have HSZ : Hid (w.heap.size < W1.heap.size) := Lib.hid r1.lt
  have CO := Lib.hid fun (W : World) (hW : Below W1.heap.size W1 W) (p b : Int) (h0 : -1099511627776 ≤ p) (h1 : p ≤ 1099511627776) => rOut_any n er A m c o p b W (hA.below (X1.out.trans (hW.mono X1.out.size))) hl hm h0 h1 htx
  have HB := Lib.hid hB
  have HK := Lib.hid hlk
  have HX := Lib.hid hx
  clear hA hl hB hlk hx htx hW1 x1 r1
  go_enter Tryz.func44, Tryz.ntmps44
  go_wp2_with fail
  rw [← HW1.out]
  go_wp2_with fail
  go_loopg [5, 10] k (fun g v i wr => ∃ (j : Nat), i = .int .i64 j ∧ j ≤ k ∧ k - j ≤ g ∧ Hid (Below W1.heap.size W1 wr) ∧ Hid (wr.ownsRow W1.heap.size 47 2 v j (kfl wencS ((l.take j).map (cpl o)))))
  case atStart => exact ⟨0, rfl, by omega, by omega, Lib.hid (Below.refl _ _), Lib.hid (World.ownsRow_nil _ _ _ _)⟩
  case round =>
    obtain ⟨j, rfl, j1, j2, hb, hown⟩ := hrel
    by_cases hlt : j < k
    · have hjl : j < l.length := by rw [HK.out]; exact hlt
      obtain ⟨bB, off, rfl, hbB, d0, d1⟩ := wrowsS (HB.out.below (X1.out.trans (hb.out.mono X1.out.size))) hjl
      have htk : (l.take (j + 1)).map (cpl o) = (l.take j).map (cpl o) ++ [cpl o l[j]] := by rw [List.take_succ_eq_append_getElem hjl, List.map_append]; rfl
      have HTK := Lib.hid htk
      have hxb := HX.out _ (List.getElem_mem hjl)
      clear htk
      generalize l[j] = x at *
      obtain ⟨x1, x2⟩ := x
      simp only at d0 d1 hxb
      have i1 : (0 : Int) ≤ j := by omega
      have i2 : (j : Int) < k := by omega
      have kj : decide ((j : Int) < (k : Int)) = true := decide_eq_true i2
      have x3 : Below wr.heap.size wr (wr.alloc (.cells #[.int .i64 x1, .int .i64 x2] 47)) := (Below.refl _ _).alloc (Nat.le_refl _) _
      have R3 : RawAt 47 (wr.alloc (.cells #[.int .i64 x1, .int .i64 x2] 47)) wr.heap.size #[.int .i64 x1, .int .i64 x2] := heap_alloc_new wr _
      have HB3 := Lib.hid (hb.out.trans (x3.mono hb.out.size))
      have HO3 := Lib.hid (own_below hown.out x3)
      have RB3 := RawAt.below R1.out HB3.out R1.out.lt
      obtain ⟨A3, c3, rfl⟩ := own_form HO3.out
      have hlt4 := hown.out.lt
      have CO1 := Lib.hid fun (W : World) (hW : Below W1.heap.size W1 W) => CO.out W hW x1 1 hxb.1.1 hxb.1.2
      have CO2 := Lib.hid fun (W : World) (hW : Below W1.heap.size W1 W) => CO.out W hW x2 0 hxb.2.1 hxb.2.2
      have HCPL : Hid (cpl o (x1, x2) = (x1 + wosum x1 1 o, x2 + wosum x2 0 o)) := Lib.hid rfl
      rw [HCPL.out] at HTK
      generalize x1 + wosum x1 1 o = z1 at *
      generalize x2 + wosum x2 0 o = z2 at *
      have HWR : Hid (W1.heap.size ≤ wr.heap.size) := Lib.hid hb.out.size
      have MK : Hid (∀ W : World, RawAt 51 W w.heap.size #[.int .i64 n, .slice A m c, .int .i64 er] → RawAt 47 W wr.heap.size #[.int .i64 x1, .int .i64 x2] → (fun W : World => (W.cell? ⟨w.heap.size, 0, none⟩ = some (.int .i64 n) ∧ W.cell? ⟨w.heap.size, 1, none⟩ = some (.slice A m c) ∧ W.cell? ⟨w.heap.size, 2, none⟩ = some (.int .i64 er)) ∧ W.cell? ⟨wr.heap.size, 0, none⟩ = some (.int .i64 x1) ∧ W.cell? ⟨wr.heap.size, 1, none⟩ = some (.int .i64 x2)) W) := Lib.hid fun W h0 h1 => ⟨⟨RawAt.cell h0 0, RawAt.cell h0 1, RawAt.cell h0 2⟩, RawAt.cell h1 0, RawAt.cell h1 1⟩
      clear hown hb HCPL
      go_wp2_with fail
      generalize wr.alloc (.cells #[.int .i64 x1, .int .i64 x2] 47) = W3 at *
      have hW3 : Below W3.heap.size W3 W3.drew := (Below.refl _ _).drew
      have Rx : RawAt 47 W3.drew wr.heap.size #[.int .i64 x1, .int .i64 x2] := R3
      have Rb : RawAt 51 W3.drew w.heap.size #[.int .i64 n, .slice A m c, .int .i64 er] := RB3
      refine wp_region_noPanic ?_
      refine wp_region_held_drew (S := (fun W => (W.cell? ⟨w.heap.size, 0, none⟩ = some (.int .i64 n) ∧ W.cell? ⟨w.heap.size, 1, none⟩ = some (.slice A m c) ∧ W.cell? ⟨w.heap.size, 2, none⟩ = some (.int .i64 er)) ∧ W.cell? ⟨wr.heap.size, 0, none⟩ = some (.int .i64 x1) ∧ W.cell? ⟨wr.heap.size, 1, none⟩ = some (.int .i64 x2))) (by kernel_rfl) (MK.out _ Rb Rx) (fun hHeld => ?_)
      refine wpAnyH_take (i := 0) (v := ?_) rfl (by kernel_rfl) (by kernel_rfl) (by kernel_rfl) (fun _ _ _ h => h) (Or.inl ⟨by rfl, ?_⟩) hHeld ?_
      rotate_left
      · intro w hSw
        (try dsimp only at hSw)
        go_simp
        try with_reducible rfl
      go_simp
      refine wpAnyH_take (i := 1) (v := ?_) rfl (by kernel_rfl) (by kernel_rfl) (by kernel_rfl) (fun _ _ _ h => h) (Or.inl ⟨by rfl, ?_⟩) hHeld ?_
      rotate_left
      · intro w hSw
        (try dsimp only at hSw)
        go_simp
        try with_reducible rfl
      go_simp
      refine wpAnyH_take (i := 2) (v := ?_) rfl (by kernel_rfl) (by kernel_rfl) (by kernel_rfl) (fun _ _ _ h => h) (Or.inl ⟨by rfl, ?_⟩) hHeld ?_
      rotate_left
      · intro w hSw
        (try dsimp only at hSw)
        go_simp
        try with_reducible rfl
      go_simp
      refine wpAnyH_take (i := 3) (v := ?_) rfl (by kernel_rfl) (by kernel_rfl) (by kernel_rfl) (fun _ _ _ h => h) (Or.inl ⟨by rfl, ?_⟩) hHeld ?_
      rotate_left
      · intro w hSw
        (try dsimp only at hSw)
        go_simp
        try with_reducible rfl
      go_simp
      refine wpAnyH_take (i := 5) (v := ?_) rfl (by kernel_rfl) (by kernel_rfl) (by kernel_rfl) (fun _ _ _ h => h) (Or.inl ⟨by rfl, ?_⟩) hHeld ?_
      rotate_left
      · intro w hSw
        (try dsimp only at hSw)
        go_simp
        try with_reducible rfl
      go_simp
      refine wpAnyH_take (i := 6) (v := ?_) rfl (by kernel_rfl) (by kernel_rfl) (by kernel_rfl) (fun _ _ _ h => h) (Or.inl ⟨by rfl, ?_⟩) hHeld ?_
      rotate_left
      · intro w hSw
        (try dsimp only at hSw)
        go_simp
        try with_reducible rfl
      go_simp
      refine wpAnyH_take (i := 7) (v := ?_) rfl (by kernel_rfl) (by kernel_rfl) (by kernel_rfl) (fun _ _ _ h => h) (Or.inl ⟨by rfl, ?_⟩) hHeld ?_
      rotate_left
      · intro w hSw
        (try dsimp only at hSw)
        go_simp
        try with_reducible rfl
      go_simp
      refine wpAnyH_ready (rs := [4]) (by kernel_rfl) (by simp) ?_
      refine AllReadyH.cons rfl (fun K hK => ?_) ?_
      rotate_left
      · exact AllReadyH.nil
      go_simp
      go_wp2_with (first | (go_at_call 25; (with_reducible first | refine (CO1.out _ (HB3.out.trans (hW3.mono HB3.out.size))).mono ?_ | refine (CO2.out _ (HB3.out.trans (hW3.mono HB3.out.size))).mono ?_); rintro e w9 ⟨rfl, b9⟩; have Rx := RawAt.below Rx b9 Rx.lt; have Rb := RawAt.below Rb b9 Rb.lt; have hW3 := hW3.trans (b9.mono hW3.size)))
      refine hK.out _ _ (by first | (with_reducible exact MK.out _ Rb Rx) | exact MK.out _ (RawAt.below Rb ((Below.refl _ _).alloc (Nat.le_refl _) _) Rb.lt) (RawAt.below Rx ((Below.refl _ _).alloc (Nat.le_refl _) _) Rx.lt)) (fun hHeld => ?_)
      clear hK K
      go_simp
      refine wpAnyH_ready (rs := [8]) (by kernel_rfl) (by simp) ?_
      refine AllReadyH.cons rfl (fun K hK => ?_) ?_
      rotate_left
      · exact AllReadyH.nil
      go_simp
      go_wp2_with (first | (go_at_call 25; (with_reducible first | refine (CO1.out _ (HB3.out.trans (hW3.mono HB3.out.size))).mono ?_ | refine (CO2.out _ (HB3.out.trans (hW3.mono HB3.out.size))).mono ?_); rintro e w9 ⟨rfl, b9⟩; have Rx := RawAt.below Rx b9 Rx.lt; have Rb := RawAt.below Rb b9 Rb.lt; have hW3 := hW3.trans (b9.mono hW3.size)))
      refine hK.out _ _ (by first | (with_reducible exact MK.out _ Rb Rx) | exact MK.out _ (RawAt.below Rb ((Below.refl _ _).alloc (Nat.le_refl _) _) Rb.lt) (RawAt.below Rx ((Below.refl _ _).alloc (Nat.le_refl _) _) Rx.lt)) (fun hHeld => ?_)
      clear hK K
      go_simp
      refine wpAnyH_take (i := 9) (v := ?_) rfl (by kernel_rfl) (by kernel_rfl) (by kernel_rfl) (fun _ _ _ h => h) (Or.inl ⟨by rfl, ?_⟩) hHeld ?_
      rotate_left
      · intro w hSw
        (try dsimp only at hSw)
        go_simp
        try with_reducible rfl
      go_simp
      refine wpAnyH_ready (rs := [10]) (by kernel_rfl) (by simp) ?_
      refine AllReadyH.cons rfl (fun K hK => ?_) ?_
      rotate_left
      · exact AllReadyH.nil
      go_simp
      go_wp2_with (first | (go_at_call 25; (with_reducible first | refine (CO1.out _ (HB3.out.trans (hW3.mono HB3.out.size))).mono ?_ | refine (CO2.out _ (HB3.out.trans (hW3.mono HB3.out.size))).mono ?_); rintro e w9 ⟨rfl, b9⟩; have Rx := RawAt.below Rx b9 Rx.lt; have Rb := RawAt.below Rb b9 Rb.lt; have hW3 := hW3.trans (b9.mono hW3.size)))
      refine hK.out _ _ (by first | (with_reducible exact MK.out _ Rb Rx) | exact MK.out _ (RawAt.below Rb ((Below.refl _ _).alloc (Nat.le_refl _) _) Rb.lt) (RawAt.below Rx ((Below.refl _ _).alloc (Nat.le_refl _) _) Rx.lt)) (fun hHeld => ?_)
      clear hK K
      go_simp
      refine wpAnyH_ready (rs := [11]) (by kernel_rfl) (by simp) ?_
      refine AllReadyH.cons rfl (fun K hK => ?_) ?_
      rotate_left
      · exact AllReadyH.nil
      have x9 : Below w9.heap.size w9 (w9.alloc (.cells #[.int .i64 z1, .int .i64 z2] 47)) := (Below.refl _ _).alloc (Nat.le_refl _) _
      have R9 : RawAt 47 (w9.alloc (.cells #[.int .i64 z1, .int .i64 z2] 47)) w9.heap.size #[.int .i64 z1, .int .i64 z2] := heap_alloc_new w9 _
      have hrow := rows_of_block (enc := wencS) (k := 2) wencS_len R9 (l := [(z1, z2)]) rfl
      have HB9 := HB3.out.trans (hW3.mono HB3.out.size)
      have HB10 := HB9.trans (x9.mono HB9.size)
      refine step_appK (enc := wencS) ST wencS_len (by omega) rfl (.tmp 14) (.tmp 24) rfl (base := W1.heap.size) (v := .slice A3 j c3) (n := j) (xs := kfl wencS ((l.take j).map (cpl o))) (by simp [Act.eval]) (own_below (own_below HO3.out hW3) x9) (some ⟨w9.heap.size, 0, none⟩) 1 1 [(z1, z2)] (by simp [Act.eval]) hrow ⟨Nat.le_refl _, fun h => by cases h⟩ rfl (kfl_one' wencS_one _) (by simp only [maxLen]; omega) (by omega) HB10.size ?_
      intro v5 w5 hown5 hg5 hor5
      have HB5 := HB10.grown hg5 HB10.size (fun j hj => (hlt4 j hj).1)
      have Rx10 := RawAt.below Rx x9 Rx.lt
      have Rb10 := RawAt.below Rb x9 Rb.lt
      have Rx : RawAt 47 w5 wr.heap.size #[.int .i64 x1, .int .i64 x2] := (hg5.block wr.heap.size Rx10.lt (fun hk => by have := (hlt4 _ hk.symm).2; omega)).trans Rx10
      have Rb : RawAt 51 w5 w.heap.size #[.int .i64 n, .slice A m c, .int .i64 er] := (hg5.block w.heap.size Rb10.lt (fun hk => by have := (hlt4 _ hk.symm).1; have := HSZ.out; omega)).trans Rb10
      refine hK.out _ _ (by first | (with_reducible exact MK.out _ Rb Rx) | exact MK.out _ (RawAt.below Rb ((Below.refl _ _).alloc (Nat.le_refl _) _) Rb.lt) (RawAt.below Rx ((Below.refl _ _).alloc (Nat.le_refl _) _) Rx.lt)) (fun hHeld => ?_)
      clear hK K
      go_simp
      refine wpAnyH_take (i := 12) (v := ?_) rfl (by kernel_rfl) (by kernel_rfl) (by kernel_rfl) (fun _ _ _ h => h) (Or.inl ⟨by rfl, ?_⟩) hHeld ?_
      rotate_left
      · intro w hSw
        (try dsimp only at hSw)
        go_simp
        try with_reducible rfl
      go_simp
      refine wpAnyH_done (by kernel_rfl) ?_ _
      refine NoPanic.normal ?_
      have HB5 := Lib.hid HB5
      have HO5 : Hid (w5.ownsRow W1.heap.size 47 2 v5 (j + 1) (kfl wencS ((l.take (j + 1)).map (cpl o)))) := Lib.hid (by rw [HTK.out, kfl_append]; exact hown5)
      clear hown5 hg5 hor5 HB10 HB9 hrow R9 x9 Rx10 Rb10 Rx Rb hW3 MK HO3 HB3 R3 RB3
      go_wp2
      go_roundg (gk - 1)
      case measure => omega
      case rel => exact ⟨j + 1, by go_num, by omega, by omega, HB5, HO5⟩
    · obtain rfl : j = k := by omega
      have ht : l.take j = l := List.take_of_length_le (by rw [HK.out]; exact Nat.le_refl _)
      have ho2 := hown.out
      rw [ht] at ho2
      obtain ⟨A3, c3, rfl⟩ := own_form hown.out
      have HOX : Hid (wr.ownsRow w.heap.size 47 2 (.slice A3 j c3) j (kfl wencS (l.map (cpl o)))) := Lib.hid (own_base ho2 X1.out.size)
      have HBX := Lib.hid (X1.out.trans (hb.out.mono X1.out.size))
      have kj : decide ((j : Int) < (j : Int)) = false := decide_eq_false (by omega)
      clear ho2 hb hown
      go_wp2
      go_ret
      exact ⟨_, rfl, HOX.out, HBX.out⟩
end Go.Proofs.YtdpmimlhchghlaaGreat
