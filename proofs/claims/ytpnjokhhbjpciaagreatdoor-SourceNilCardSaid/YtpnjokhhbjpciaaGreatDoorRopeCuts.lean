/- Runes cut into pieces: the contracts of rope.piece and rope.cut. Runes cut into pieces: the contract of rope.cut. -/
import Derived.Test.YtpnjokhhbjpciaaGreatDoorRopeAsk
import Derived.Test.YtpnjokhhbjpciaaGreatDoorRopePure
import Derived.Test.YtpnjokhhbjpciaaGreatDoorBase
import Derived.Test.YtpnjokhhbjpciaaGreatDoorBuilder
import Derived.Test.YtpnjokhhbjpciaaGreatDoorItBase
import Derived.Shelf.Abstract
import Derived.Deep.RegionWith
import Derived.Deep.AppendLies
import Derived.WalkMore
namespace Go.Proofs.YtpnjokhhbjpciaaGreatDoor
open Go.RowKit
theorem never_any (a b c : Int) (w : World) : Calls Tryz.prog 142 #[.agg #[.int .i64 a, .int .i64 b, .int .i64 c]] w fun e w' => e = .returned (.bool false) ∧ Below w.heap.size w w' := by
  go_enter Tryz.func142, Tryz.ntmps142
  go_wp2
  go_ret
  exact ⟨rfl, by first | exact Below.refl _ _ | exact (Below.refl _ _).alloc (Nat.le_refl _) _⟩
theorem hK_never : ∀ (args : Array Value) (w : World), (callFunc 142 args).run Tryz.prog w = .ok (.enter 142 args) w := enters_of Tryz.func142 (by kernel_rfl) rfl
theorem reach_all (q : List Int) (hq : Cln q) (hz : q.length ≤ 1000000) (w : World) : Calls Tryz.prog 132 #[.string (txt q), .func (.func 142) #[] #[]] w fun e w' => e = .returned (.agg #[.int .i64 (szl q 0), .int .i64 (szl q 1), .int .i64 (szl q 2)]) ∧ Below w.heap.size w w' := by
  refine (reach_any 142 #[] q hq hz (fun _ => false) w hK_never (fun i W _ _ => ?_)).mono ?_
  · exact never_any _ _ _ W
  · rintro e w' ⟨i, hi, _, hyes, rfl, hb⟩
    have e : i = q.length := by
      by_cases h : i < q.length
      · exact absurd (hyes h) (by simp)
      · omega
    subst e
    refine ⟨?_, hb⟩
    unfold hcs
    rw [List.take_of_length_le (Nat.le_refl _)]
set_option maxHeartbeats 2000000 in
set_option maxRecDepth 100000 in
theorem piece_any (q : List Int) (hq : Cln q) (hz : q.length ≤ 1000000) (w : World) : Calls Tryz.prog 113 #[.string (txt q)] w fun e w' => e = .returned (.agg (ics (pit q))) ∧ Below w.heap.size w w' := by
  have hmf : ∀ (fn : Fn) (first cap : Array Value) (w : World), (Instr.makeFunc fn first cap).run Tryz.prog w = .ok (.func fn first cap) w := fun _ _ _ _ => rfl
  have C1 := Lib.hid fun (W : World) => reach_all q hq hz W
  have HP := Lib.hid (show ics (pit q) = #[.int .i64 0, .int .i64 0, .int .i64 (szl q 0), .int .i64 (szl q 1), .int .i64 (szl q 2), .int .i64 0, .string (txt q)] from rfl)
  clear hq hz
  generalize szl q 0 = x at *
  generalize szl q 1 = y at *
  generalize szl q 2 = z at *
  generalize txt q = s at *
  go_enter Tryz.func113, Tryz.ntmps113
  go_wp2_with fail
  have h0 : Below w.heap.size w (w.alloc (.cells (ics ⟨0, 0, 0, 0, 0, 0, ⟨#[]⟩⟩) 162)) := (Below.refl _ _).alloc (Nat.le_refl _) _
  have R0 := Lib.hid (show RawAt 162 (w.alloc (.cells (ics ⟨0, 0, 0, 0, 0, 0, ⟨#[]⟩⟩) 162)) w.heap.size (ics ⟨0, 0, 0, 0, 0, 0, ⟨#[]⟩⟩) from heap_alloc_new w _)
  refine (C1.out _).mono ?_
  rintro e w1 ⟨rfl, hb1⟩
  have R1 := RawAt.below R0.out hb1 (RawAt.lt R0.out)
  have a1 := h0.trans (hb1.mono h0.size)
  have hlt1 : w.heap.size < w1.heap.size := RawAt.lt R1
  have f0 := RawAt.free R1 0
  have f1 := RawAt.free R1 1
  have f2 := RawAt.free R1 2
  have f3 := RawAt.free R1 3
  have f4 := RawAt.free R1 4
  have f5 := RawAt.free R1 5
  have f6 := RawAt.free R1 6
  obtain ⟨p0, p1, p2, p3, p4, p5, p6⟩ := raw_ics R1
  have HR1 := Lib.hid R1
  clear R1
  go_wp2
  have k1 := ((((((HR1.out.set_ 0 (.int .i64 0)).set_ 1 (.int .i64 0)).set_ 2 (.int .i64 x)).set_ 3 (.int .i64 y)).set_ 4 (.int .i64 z)).set_ 5 (.int .i64 0)).set_ 6 (.string s)
  have k2 := k1.of_eq (show _ = ics ⟨0, 0, x, y, z, 0, s⟩ from by simp [ics])
  have k3 := (Below.refl _ (((((((w1.setCell ⟨w.heap.size, 0, none⟩ (.int .i64 0)).setCell ⟨w.heap.size, 1, none⟩ (.int .i64 0)).setCell ⟨w.heap.size, 2, none⟩ (.int .i64 x)).setCell ⟨w.heap.size, 3, none⟩ (.int .i64 y)).setCell ⟨w.heap.size, 4, none⟩ (.int .i64 z)).setCell ⟨w.heap.size, 5, none⟩ (.int .i64 0)).setCell ⟨w.heap.size, 6, none⟩ (.string s))).alloc (Nat.le_refl _) (.cells #[.int .i64 x, .int .i64 y, .int .i64 z] 127)
  have k4 := RawAt.below k2 k3 (RawAt.lt k2)
  obtain ⟨q0, q1, q2, q3, q4, q5, q6⟩ := raw_ics k4
  clear k1 k2 k3 k4
  have hB : Below w.heap.size w ((((((((w1.setCell ⟨w.heap.size, 0, none⟩ (.int .i64 0)).setCell ⟨w.heap.size, 1, none⟩ (.int .i64 0)).setCell ⟨w.heap.size, 2, none⟩ (.int .i64 x)).setCell ⟨w.heap.size, 3, none⟩ (.int .i64 y)).setCell ⟨w.heap.size, 4, none⟩ (.int .i64 z)).setCell ⟨w.heap.size, 5, none⟩ (.int .i64 0)).setCell ⟨w.heap.size, 6, none⟩ (.string s)).alloc (.cells #[.int .i64 x, .int .i64 y, .int .i64 z] 127)) := by
    exact ((((((((a1.setCell (p := ⟨w.heap.size, 0, none⟩) (Nat.le_refl _) _).setCell (p := ⟨w.heap.size, 1, none⟩) (Nat.le_refl _) _).setCell (p := ⟨w.heap.size, 2, none⟩) (Nat.le_refl _) _).setCell (p := ⟨w.heap.size, 3, none⟩) (Nat.le_refl _) _).setCell (p := ⟨w.heap.size, 4, none⟩) (Nat.le_refl _) _).setCell (p := ⟨w.heap.size, 5, none⟩) (Nat.le_refl _) _).setCell (p := ⟨w.heap.size, 6, none⟩) (Nat.le_refl _) _).alloc (by simp; omega) _)
  generalize ((((((((w1.setCell ⟨w.heap.size, 0, none⟩ (.int .i64 0)).setCell ⟨w.heap.size, 1, none⟩ (.int .i64 0)).setCell ⟨w.heap.size, 2, none⟩ (.int .i64 x)).setCell ⟨w.heap.size, 3, none⟩ (.int .i64 y)).setCell ⟨w.heap.size, 4, none⟩ (.int .i64 z)).setCell ⟨w.heap.size, 5, none⟩ (.int .i64 0)).setCell ⟨w.heap.size, 6, none⟩ (.string s)).alloc (.cells #[.int .i64 x, .int .i64 y, .int .i64 z] 127)) = W1 at *
  simp only at q0 q1 q2 q3 q4 q5 q6
  refine bodyPost_ret (v := .agg #[.int .i64 0, .int .i64 0, .int .i64 x, .int .i64 y, .int .i64 z, .int .i64 0, .string s]) (by simp [results, Tryz.results113, go_sem, q0, q1, q2, q3, q4, q5, q6]) rfl ⟨by rw [HP.out], hB⟩
set_option maxHeartbeats 4000000 in
set_option maxRecDepth 100000 in
theorem rcut_any (A : Option Addr) (m c : Nat) (l : List Int) (w : World) (hA : IntsAt .i32 w A l) (hl : l.length = m) (hc : Caps A m c) (hm : m ≤ 100000) (hcl : Cln l) :
    Calls Tryz.prog 78 #[.slice A m c] w fun e w' => ∃ A' c', e = .returned (.slice A' (cutN l) c') ∧ Below w.heap.size w w' ∧ ItsAt w' A' ((cuts l).map pit) ∧ Caps A' (cutN l) c' := by
  obtain ⟨i0, hi0, hz0, hz1, hz2⟩ := info_parts i32_info
  obtain ⟨i1, hj0, hy0, hy1, hy2⟩ := info_parts item_info
  have HA := Lib.hid hA; clear hA
  have HL := Lib.hid hl; clear hl
  have HC := Lib.hid hc; clear hc
  have HCl := Lib.hid hcl; clear hcl
  obtain ⟨N, hN⟩ : ∃ N, N = cutN l := ⟨_, rfl⟩
  have hNm : ((m : Int) + 16 - 1) / 16 = (N : Int) := by rw [hN]; unfold cutN; rw [HL.out]; omega
  have hN2 : N ≤ 100000 := by rw [hN]; unfold cutN; rw [HL.out]; omega
  have HN := Lib.hid hN
  rw [← hN]
  clear hN
  go_enter Tryz.func78, Tryz.ntmps78
  go_wp2_with fail
  rw [hNm]
  have HNm := Lib.hid hNm
  clear hNm
  go_loopg [4, 12] N (fun g v i wr => ∃ j : Nat, i = .int .i64 j ∧ j ≤ N ∧ N - j ≤ g ∧ Below w.heap.size w wr ∧ Hid (wr.ownsRow w.heap.size 162 7 v j (iflat (((cuts l).take j).map pit))))
  case atStart => exact ⟨0, rfl, by omega, by omega, Below.refl _ _, Lib.hid (World.ownsRow_nil _ _ _ _)⟩
  case round =>
    obtain ⟨j, rfl, h1, h2, hb, hown⟩ := hrel
    by_cases hlt : j < N
    · obtain ⟨P, hP⟩ : ∃ P, P = j * m := ⟨_, rfl⟩
      obtain ⟨R, hR⟩ : ∃ R, R = (j + 1) * m := ⟨_, rfl⟩
      have hPR : R = P + m := by rw [hP, hR]; exact Nat.succ_mul j m
      have hPb : P ≤ 10000000000 := by rw [hP]; exact Nat.le_trans (Nat.mul_le_mul (show j ≤ 100000 by omega) hm) (by decide)
      obtain ⟨lo, hlo⟩ : ∃ lo, lo = P / N := ⟨_, rfl⟩
      obtain ⟨hi, hhi⟩ : ∃ hi, hi = R / N := ⟨_, rfl⟩
      have hlohi : lo ≤ hi := by rw [hlo, hhi, hPR]; exact Nat.div_le_div_right (by omega)
      have hhim : hi ≤ m := by
        have h9 := cut_end (l := l) (i := j) (by rw [← HN.out]; exact hlt)
        rw [HL.out, ← HN.out, ← hR, ← hhi] at h9
        exact h9
      have hqe : ((l.drop lo).take (hi - lo)) = cutL l j := by
        unfold cutL
        rw [HL.out, ← HN.out, ← hP, ← hR, ← hlo, ← hhi, List.drop_take]
      have hq16 := cutL_le (l := l) (i := j) (by rw [← HN.out]; exact hlt)
      have hcm : m ≤ c := HC.out.1
      have HS := Lib.hid fun (W : World) => (by
        have := cut_both (P := Tryz.prog) Tryz.underlying30 hi0 (by kernel_rfl) A m c lo (hi - lo) (by omega) W
        rwa [show ((lo : Nat) : Int) + ((hi - lo : Nat) : Int) = (hi : Int) from by omega] at this : (Instr.slice 30 (.slice A m c) (some (.int .i64 lo)) (some (.int .i64 hi)) none).run Tryz.prog W = .ok (.slice (cutA A c lo) (hi - lo) (c - lo)) W)
      have hs := HS.out
      have CE := Lib.hid fun (W : World) (hW : Below w.heap.size w W) => (by
        have := encode_any (cutA A c lo) (hi - lo) (c - lo) (cutL l j) W (hqe ▸ (HA.out.below hW).cut HL.out hcm lo (hi - lo) (by omega)) (by rw [← hqe, List.length_take, List.length_drop, HL.out]; omega) (by omega) (HCl.out.cutL_ j).fit
        exact this : Calls Tryz.prog 80 #[.slice (cutA A c lo) (hi - lo) (c - lo)] W fun e w' => e = .returned (.string (txt (cutL l j))) ∧ Below W.heap.size W w')
      have CP := Lib.hid fun (W : World) => piece_any (cutL l j) (HCl.out.cutL_ j) (by omega) W
      have wm1 : IntKind.i64.wrap ((j : Int) * (m : Int)) = (P : Int) := by rw [hP, ← Int.natCast_mul]; exact IntWalk.i64_in _ (by rw [← hP]; omega)
      have wj : IntKind.i64.wrap ((j : Int) + 1) = (j : Int) + 1 := IntWalk.i64_in _ (by omega)
      have wm2 : IntKind.i64.wrap (((j : Int) + 1) * (m : Int)) = (R : Int) := by rw [show (j : Int) + 1 = ((j + 1 : Nat) : Int) from by omega, hR, ← Int.natCast_mul]; exact IntWalk.i64_in _ (by rw [← hR, hPR]; omega)
      have wd1 : IntKind.i64.wrap ((P : Int) / (N : Int)) = (lo : Int) := by rw [hlo, Int.natCast_ediv]; exact IntWalk.i64_in _ (by rw [← Int.natCast_ediv, ← hlo]; omega)
      have wd2 : IntKind.i64.wrap ((R : Int) / (N : Int)) = (hi : Int) := by rw [hhi, Int.natCast_ediv]; exact IntWalk.i64_in _ (by rw [← Int.natCast_ediv, ← hhi]; omega)
      have nN : ¬ N = 0 := by omega
      have HQE := Lib.hid hqe
      have HJ1 := Lib.hid (show ((cuts l).take (j + 1)).map pit = ((cuts l).take j).map pit ++ [pit (cutL l j)] from by
        rw [List.take_succ_eq_append_getElem (by rw [cuts_length, ← HN.out]; exact hlt), List.map_append]
        simp [cuts])
      clear hqe hP hR hlo hhi hPR hPb
      generalize cutL l j = q at *
      generalize pit q = x at *
      unfold ics at CP
      go_wp2_with fail
      refine wp_region_any (by kernel_rfl) ?_
      try (change wpAny _ _ _ _ _ _ _ (World.drew _))
      refine wpAny_take (i := 0) (v := ?_) rfl (by kernel_rfl) (by kernel_rfl) (by kernel_rfl) (fun _ _ _ h => h) (Or.inl ⟨by rfl, ?_⟩) ?_
      rotate_left
      · intro w
        go_simp
        try with_reducible rfl
      go_simp
      refine wpAny_take (i := 1) (v := ?_) rfl (by kernel_rfl) (by kernel_rfl) (by kernel_rfl) (fun _ _ _ h => h) (Or.inl ⟨by rfl, ?_⟩) ?_
      rotate_left
      · intro w
        go_simp
        try with_reducible rfl
      go_simp
      refine wpAny_take (i := 2) (v := ?_) rfl (by kernel_rfl) (by kernel_rfl) (by kernel_rfl) (fun _ _ _ h => h) (Or.inl ⟨by rfl, ?_⟩) ?_
      rotate_left
      · intro w
        go_simp
        try with_reducible rfl
      go_simp
      refine wpAny_take (i := 3) (v := ?_) rfl (by kernel_rfl) (by kernel_rfl) (by kernel_rfl) (fun _ _ _ h => h) (Or.inl ⟨by rfl, ?_⟩) ?_
      rotate_left
      · intro w
        go_simp
        try with_reducible rfl
      go_simp
      refine wpAny_take (i := 4) (v := ?_) rfl (by kernel_rfl) (by kernel_rfl) (by kernel_rfl) (fun _ _ _ h => h) (Or.inl ⟨by rfl, ?_⟩) ?_
      rotate_left
      · intro w
        go_simp
        try with_reducible rfl
      go_simp
      refine wpAny_take (i := 5) (v := ?_) rfl (by kernel_rfl) (by kernel_rfl) (by kernel_rfl) (fun _ _ _ h => h) (Or.inl ⟨by rfl, ?_⟩) ?_
      rotate_left
      · intro w
        go_simp
        try with_reducible rfl
      go_simp
      refine wpAny_take (i := 6) (v := ?_) rfl (by kernel_rfl) (by kernel_rfl) (by kernel_rfl) (fun _ _ _ h => h) (Or.inl ⟨by rfl, ?_⟩) ?_
      rotate_left
      · intro w
        go_simp
        try with_reducible rfl
      go_simp
      refine wpAny_take (i := 7) (v := ?_) rfl (by kernel_rfl) (by kernel_rfl) (by kernel_rfl) (fun _ _ _ h => h) (Or.inl ⟨by rfl, ?_⟩) ?_
      rotate_left
      · intro w
        go_simp
        try with_reducible rfl
      go_simp
      refine wpAny_take (i := 8) (v := ?_) rfl (by kernel_rfl) (by kernel_rfl) (by kernel_rfl) (fun _ _ _ h => h) (Or.inl ⟨by rfl, ?_⟩) ?_
      rotate_left
      · intro w
        go_simp
        try with_reducible rfl
      go_simp
      refine wpAny_take (i := 9) (v := ?_) rfl (by kernel_rfl) (by kernel_rfl) (by kernel_rfl) (fun _ _ _ h => h) (Or.inl ⟨by rfl, ?_⟩) ?_
      rotate_left
      · intro w
        go_simp
        try with_reducible rfl
      go_simp
      refine wpAny_take (i := 10) (v := ?_) rfl (by kernel_rfl) (by kernel_rfl) (by kernel_rfl) (fun _ _ _ h => h) (Or.inl ⟨by rfl, ?_⟩) ?_
      rotate_left
      · intro w
        go_simp
        try with_reducible rfl
      go_simp
      refine wpAny_take (i := 11) (v := ?_) rfl (by kernel_rfl) (by kernel_rfl) (by kernel_rfl) (fun _ _ _ h => h) (Or.inl ⟨by rfl, ?_⟩) ?_
      rotate_left
      · intro w
        go_simp
        try with_reducible rfl
      go_simp
      refine wpAny_take (i := 12) (v := ?_) rfl (by kernel_rfl) (by kernel_rfl) (by kernel_rfl) (fun _ _ _ h => h) (Or.inl ⟨by rfl, ?_⟩) ?_
      rotate_left
      · intro w
        go_simp
        try with_reducible rfl
      go_simp
      refine wpAny_take (i := 13) (v := ?_) rfl (by kernel_rfl) (by kernel_rfl) (by kernel_rfl) (fun _ _ _ h => h) (Or.inl ⟨by rfl, ?_⟩) ?_
      rotate_left
      · intro w
        go_simp
        try with_reducible rfl
      go_simp
      refine wpAny_take (i := 14) (v := ?_) rfl (by kernel_rfl) (by kernel_rfl) (by kernel_rfl) (fun _ _ _ h => h) (Or.inl ⟨by rfl, ?_⟩) ?_
      rotate_left
      · intro w
        go_simp
        try with_reducible rfl
      go_simp
      refine wpAny_take (i := 15) (v := ?_) rfl (by kernel_rfl) (by kernel_rfl) (by kernel_rfl) (fun _ _ _ h => h) (Or.inl ⟨by rfl, ?_⟩) ?_
      rotate_left
      · intro w
        go_simp
        try with_reducible rfl
      go_simp
      refine wpAny_ready (rs := [16]) (by kernel_rfl) (by simp) ?_
      refine AllReady.cons rfl (fun K hK => ?_) ?_
      rotate_left
      · exact AllReady.nil
      go_simp
      go_wp2_with         (first
          | (go_at_call 80; ((with_reducible refine (CE.out _ hb.drew).mono ?_); rintro e w1 ⟨rfl, hb1⟩))
          | (go_at_call 113; ((with_reducible refine (CP.out _).mono ?_); rintro e w2 ⟨rfl, hb2⟩); have a2 := (hb.drew.trans (hb1.mono hb.drew.size)).trans (hb2.mono (hb.drew.trans (hb1.mono hb.drew.size)).size); have o2 := own_below (own_below (w := wr.drew) hown.out hb1) hb2; have HO3 := Lib.hid (o2.alloc (.cells (ics x) 162)); have s2 := a2.size; unfold ics at HO3)
          | fail)
      refine wpAny_ready (rs := [17]) (by kernel_rfl) (by simp) ?_
      refine AllReady.cons rfl (fun K hK => ?_) ?_
      rotate_left
      · exact AllReady.nil
      go_simp
      go_wp2_with         (first
          | (go_at_call 80; ((with_reducible refine (CE.out _ hb.drew).mono ?_); rintro e w1 ⟨rfl, hb1⟩))
          | (go_at_call 113; ((with_reducible refine (CP.out _).mono ?_); rintro e w2 ⟨rfl, hb2⟩); have a2 := (hb.drew.trans (hb1.mono hb.drew.size)).trans (hb2.mono (hb.drew.trans (hb1.mono hb.drew.size)).size); have o2 := own_below (own_below (w := wr.drew) hown.out hb1) hb2; have HO3 := Lib.hid (o2.alloc (.cells (ics x) 162)); have s2 := a2.size; unfold ics at HO3)
          | fail)
      refine wpAny_ready (rs := [18]) (by kernel_rfl) (by simp) ?_
      refine AllReady.cons rfl (fun K hK => ?_) ?_
      rotate_left
      · exact AllReady.nil
      go_simp
      go_wp2_with         (first
          | (go_at_call 80; ((with_reducible refine (CE.out _ hb.drew).mono ?_); rintro e w1 ⟨rfl, hb1⟩))
          | (go_at_call 113; ((with_reducible refine (CP.out _).mono ?_); rintro e w2 ⟨rfl, hb2⟩); have a2 := (hb.drew.trans (hb1.mono hb.drew.size)).trans (hb2.mono (hb.drew.trans (hb1.mono hb.drew.size)).size); have o2 := own_below (own_below (w := wr.drew) hown.out hb1) hb2; have HO3 := Lib.hid (o2.alloc (.cells (ics x) 162)); have s2 := a2.size; unfold ics at HO3)
          | fail)
      refine wpAny_ready (rs := [19]) (by kernel_rfl) (by simp) ?_
      refine AllReady.cons rfl (fun K hK => ?_) ?_
      rotate_left
      · exact AllReady.nil
      refine step_append_lies _ (by rfl) _ _ _ (by rfl) w.heap.size 162 i1 _ 7 64 Tryz.underlying138 hj0 hy0 hy1 hy2 rfl (by omega) u4 j (iflat (((cuts l).take j).map pit)) (by rfl) HO3.out ⟨w2.heap.size, 0, none⟩ 1 1 (iflat [x]) (by rfl) (by rfl) (news_new w2 _ x) (iflat_one _) (by omega) (by unfold maxLen; omega) (by omega) (by simp; omega) (w2.heap.size + 1) (by simp) ?_; intro gg cap w4 hown4 hg4 hat hlt4
      go_wp2
      refine wpAny_take (i := 20) (v := ?_) rfl (by kernel_rfl) (by kernel_rfl) (by kernel_rfl) (fun _ _ _ h => h) (Or.inl ⟨by rfl, ?_⟩) ?_
      rotate_left
      · intro w
        go_simp
        try with_reducible rfl
      go_simp
      refine wpAny_done (by kernel_rfl) ?_ _
      have hb4 : Below w.heap.size w w4 := (a2.alloc a2.size _).grown hg4 (by simp; omega) (fun k hk => (o2.lt k hk).1)
      have HO4 := Lib.hid hown4
      clear hown4 hg4 hat o2 HO3
      go_wp2
      go_roundg (gk - 1)
      case measure => omega
      case rel => exact ⟨j + 1, by go_num, by omega, by omega, hb4, Lib.hid (by rw [HJ1.out, iflat_append]; exact HO4.out)⟩
    · have he : j = N := by omega
      subst he
      rw [List.take_of_length_le (by rw [cuts_length, HN.out]; exact Nat.le_refl _)] at hown
      obtain ⟨A7, c7, e7, hI7, hl7, hC7⟩ := its_of_own hown.out
      have HI := Lib.hid hI7
      have HC7 := Lib.hid hC7
      subst e7
      clear hown hI7 hC7 hl7
      go_wp2
      go_ret
      exact ⟨A7, c7, rfl, hb, HI.out, HC7.out⟩
end Go.Proofs.YtpnjokhhbjpciaaGreatDoor
