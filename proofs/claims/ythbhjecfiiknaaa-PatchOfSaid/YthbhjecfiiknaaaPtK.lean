/- Patches: the pieces that a patch keeps, handed on one by one: the contracts of changed and of kept. -/
import Derived.Test.YthbhjecfiiknaaaPtJ
namespace Go.Proofs.Ythbhjecfiiknaaa
open Go.RowKit
set_option maxHeartbeats 4000000 in
set_option maxRecDepth 100000 in
theorem changed_any (c : Ch) (w : World) (h1 : 0 ≤ c.na) (h2 : c.na ≤ c.nb) (h3 : c.nb ≤ 1099511627776) : Calls Try.prog 47 #[.agg #[.int .i64 c.oa, .int .i64 c.ob, .int .i64 c.na, .int .i64 c.nb]] w fun e w' => e = .returned (.tuple #[.agg #[.int .i64 c.oa, .int .i64 c.ob], .int .i64 (c.nb - c.na)]) ∧ Below w.heap.size w w' := by
  have CN := Lib.hid fun W => psize_w c.na c.nb W (by omega) (by omega) (by omega) (by omega)
  obtain ⟨hr0, hq0, hb0, hs0⟩ := new2 w 56 54 #[.int .i64 c.oa, .int .i64 c.ob, .int .i64 c.na, .int .i64 c.nb] #[.int .i64 0, .int .i64 0]
  have HR0 := Lib.hid hr0
  have HQ0 := Lib.hid hq0
  have HS0 := Lib.hid hs0
  clear hr0 hq0 hs0
  go_enter Try.func47, Try.ntmps47
  go_wp2_with fail
  generalize (w.alloc (.cells #[.int .i64 c.oa, .int .i64 c.ob, .int .i64 c.na, .int .i64 c.nb] 56)).alloc (.cells #[.int .i64 0, .int .i64 0] 54) = W1 at *
  have MK : Hid (∀ W : World, Below (w.heap.size + 1) W1 W → (fun W => W.cell? ⟨w.heap.size, 0, none⟩ = some (.int .i64 c.oa) ∧ W.cell? ⟨w.heap.size, 1, none⟩ = some (.int .i64 c.ob) ∧ W.cell? ⟨w.heap.size, 2, none⟩ = some (.int .i64 c.na) ∧ W.cell? ⟨w.heap.size, 3, none⟩ = some (.int .i64 c.nb) ∧ Below (w.heap.size + 1) W1 W) W) := fun W hW => ⟨RawAt.cell (RawAt.below HR0.out hW (Nat.lt_succ_self _)) 0, RawAt.cell (RawAt.below HR0.out hW (Nat.lt_succ_self _)) 1, RawAt.cell (RawAt.below HR0.out hW (Nat.lt_succ_self _)) 2, RawAt.cell (RawAt.below HR0.out hW (Nat.lt_succ_self _)) 3, hW⟩
  have hW2 : Below (w.heap.size + 1) W1 W1.drew := (Below.refl _ _).drew
  refine wp_region_noPanic ?_
  refine wp_region_held_drew (S := (fun W => W.cell? ⟨w.heap.size, 0, none⟩ = some (.int .i64 c.oa) ∧ W.cell? ⟨w.heap.size, 1, none⟩ = some (.int .i64 c.ob) ∧ W.cell? ⟨w.heap.size, 2, none⟩ = some (.int .i64 c.na) ∧ W.cell? ⟨w.heap.size, 3, none⟩ = some (.int .i64 c.nb) ∧ Below (w.heap.size + 1) W1 W)) (by kernel_rfl) (MK.out _ hW2) (fun hHeld => ?_)
  refine wpAnyH_take (i := 0) (v := ?_) rfl (by kernel_rfl) (by kernel_rfl) (by kernel_rfl) (fun _ _ _ h => h) (Or.inl ⟨by rfl, ?_⟩) hHeld ?_
  rotate_left
  · intro w hSw
    (try dsimp only at hSw)
    go_simp
    try with_reducible rfl
  go_simp
  refine wpAnyH_take (i := 1) (v := ?_) rfl (by kernel_rfl) (by kernel_rfl) (by kernel_rfl) (fun _ _ _ h => h) (Or.inl ⟨by rfl, ?_⟩) hHeld ?_
  rotate_left
  · intro w hSw
    (try dsimp only at hSw)
    go_simp
    try with_reducible rfl
  go_simp
  refine wpAnyH_take (i := 2) (v := ?_) rfl (by kernel_rfl) (by kernel_rfl) (by kernel_rfl) (fun _ _ _ h => h) (Or.inl ⟨by rfl, ?_⟩) hHeld ?_
  rotate_left
  · intro w hSw
    (try dsimp only at hSw)
    go_simp
    try with_reducible rfl
  go_simp
  refine wpAnyH_take (i := 3) (v := ?_) rfl (by kernel_rfl) (by kernel_rfl) (by kernel_rfl) (fun _ _ _ h => h) (Or.inl ⟨by rfl, ?_⟩) hHeld ?_
  rotate_left
  · intro w hSw
    (try dsimp only at hSw)
    go_simp
    try with_reducible rfl
  go_simp
  refine wpAnyH_ready (rs := [4]) (by kernel_rfl) (by simp) ?_
  refine AllReadyH.cons rfl (fun K hK => ?_) ?_
  rotate_left
  · exact AllReadyH.nil
  go_simp
  go_wp2_with (first | (go_at_call 37; ((with_reducible refine (CN.out _).mono ?_); rintro e w8 ⟨rfl, hb8⟩); have hQ8 : RawAt 54 w8 (w.heap.size + 1) #[.int .i64 0, .int .i64 0] := RawAt.below (w := W1.drew) HQ0.out hb8 (by have := HS0.out; show w.heap.size + 1 < W1.heap.size; omega); have hW2 := hW2.trans (hb8.mono (by have := HS0.out; show w.heap.size + 1 ≤ W1.heap.size; omega)); have q0 := RawAt.cell hQ8 0; have q1 := RawAt.cell hQ8 1; have f0 := RawAt.free hQ8 0; have f1 := RawAt.free hQ8 1; simp at q0 q1))
  refine hK.out _ _ (by first | (with_reducible exact MK.out _ hW2) | exact MK.out _ ((hW2.setCell (p := ⟨w.heap.size + 1, 0, none⟩) (by simp) _).setCell (p := ⟨w.heap.size + 1, 1, none⟩) (by simp) _)) (fun hHeld => ?_)
  clear hK K
  go_simp
  refine wpAnyH_ready (rs := [5]) (by kernel_rfl) (by simp) ?_
  refine AllReadyH.cons rfl (fun K hK => ?_) ?_
  rotate_left
  · exact AllReadyH.nil
  go_simp
  go_wp2_with (first | (go_at_call 37; ((with_reducible refine (CN.out _).mono ?_); rintro e w8 ⟨rfl, hb8⟩); have hQ8 : RawAt 54 w8 (w.heap.size + 1) #[.int .i64 0, .int .i64 0] := RawAt.below (w := W1.drew) HQ0.out hb8 (by have := HS0.out; show w.heap.size + 1 < W1.heap.size; omega); have hW2 := hW2.trans (hb8.mono (by have := HS0.out; show w.heap.size + 1 ≤ W1.heap.size; omega)); have q0 := RawAt.cell hQ8 0; have q1 := RawAt.cell hQ8 1; have f0 := RawAt.free hQ8 0; have f1 := RawAt.free hQ8 1; simp at q0 q1))
  refine hK.out _ _ (by first | (with_reducible exact MK.out _ hW2) | exact MK.out _ ((hW2.setCell (p := ⟨w.heap.size + 1, 0, none⟩) (by simp) _).setCell (p := ⟨w.heap.size + 1, 1, none⟩) (by simp) _)) (fun hHeld => ?_)
  clear hK K
  go_simp
  refine wpAnyH_take (i := 6) (v := ?_) rfl (by kernel_rfl) (by kernel_rfl) (by kernel_rfl) (fun _ _ _ h => h) (Or.inl ⟨by rfl, ?_⟩) hHeld ?_
  rotate_left
  · intro w hSw
    (try dsimp only at hSw)
    go_simp
    try with_reducible rfl
  go_simp
  refine wpAnyH_done (by kernel_rfl) ?_ _
  refine NoPanic.normal ?_
  clear q0 q1
  have hR9 := (hQ8.set_ 0 (.int .i64 c.oa)).set_ 1 (.int .i64 c.ob)
  have p0 := (RawAt.cell hR9 0).trans (show _ = some (Value.int .i64 c.oa) from rfl)
  have p1 := (RawAt.cell hR9 1).trans (show _ = some (Value.int .i64 c.ob) from rfl)
  have hbz : Below w.heap.size w ((w8.setCell ⟨w.heap.size + 1, 0, none⟩ (.int .i64 c.oa)).setCell ⟨w.heap.size + 1, 1, none⟩ (.int .i64 c.ob)) := ((hb0.trans (hW2.mono (by omega))).setCell (p := ⟨w.heap.size + 1, 0, none⟩) (by simp) _).setCell (p := ⟨w.heap.size + 1, 1, none⟩) (by simp) _
  go_wp2
  exact bodyPost_ret (v := .tuple #[.agg #[.int .i64 c.oa, .int .i64 c.ob], .int .i64 (c.nb - c.na)]) (by simp [results, Try.results47, go_sem, p0, p1]) rfl ⟨rfl, hbz⟩
set_option maxHeartbeats 4000000 in
set_option maxRecDepth 100000 in
/-- Each piece that a normal patch keeps is handed on: what holds of those so far holds of all at the end. -/
theorem kept_any (K : Nat) (caps : Array Value) (A : Option Addr) (m cp : Nat) (l : List Ch) (I : List Pc → World → Prop) (w : World)
    (hK : ∀ (args : Array Value) (w : World), (callFunc K args).run Try.prog w = .ok (.enter K args) w)
    (hl : l.length = m) (hm : m ≤ 1000000) (hn : nrm M40 0 0 true l)
    (hA : ∀ d W, I d W → ChsAt W A l) (hI : ∀ d W W', I d W → Below W.heap.size W W' → I d W')
    (CK : ∀ d x r W, d ++ x :: r = pcs LL 0 0 l → I d W → Calls Try.prog K (#[.agg #[.int .i64 x.o, .int .i64 x.w, .int .i64 x.n]] ++ caps) W fun e w' => e = .returned (.tuple #[]) ∧ I (d ++ [x]) w' ∧ ∀ b cs, RawAt 54 W b cs → RawAt 54 w' b cs)
    (h0 : I [] w) :
    Calls Try.prog 46 #[.slice A m cp, .func (.func 47) #[] #[], .func (.func K) #[] caps] w fun e w' => e = .returned (.tuple #[]) ∧ I (pcs LL 0 0 l) w' := by
  have HL := Lib.hid hl
  have HA := Lib.hid hA
  have HI := Lib.hid hI
  have HK := Lib.hid CK
  have HN := Lib.hid hn
  have H0 := Lib.hid h0
  clear hl hA hI CK hn h0
  go_enter Try.func46, Try.ntmps46
  go_wp2_with fail
  go_loopg [6, 7, 15] m (fun g a b i wr => ∃ (j : Nat) (p q : Int) (d : List Pc), i = .int .i64 j ∧ j ≤ m ∧ m - j ≤ g ∧ a = .int .i64 p ∧ b = .int .i64 q ∧ 0 ≤ p ∧ p ≤ 1099511627776 ∧ 0 ≤ q ∧ q ≤ 1099511627776 ∧ Hid (I d wr) ∧ Hid (nrm M40 p q (decide (j = 0)) (l.drop j)) ∧ Hid (d ++ pcs LL p q (l.drop j) = pcs LL 0 0 l))
  case atStart => exact ⟨0, 0, 0, [], rfl, by omega, by omega, rfl, rfl, by omega, by omega, by omega, by omega, H0, Lib.hid HN.out, Lib.hid rfl⟩
  case round =>
    obtain ⟨j, p, q, d, rfl, h1, h2, rfl, rfl, p1, p2, q1, q2, hId, hnr, hpc⟩ := hrel
    by_cases hlt : j < m
    · have hjl : j < l.length := by rw [HL.out]; exact hlt
      obtain ⟨bA, off, rfl, hbA, d0, d1, d2, d3⟩ := (HA.out d wr hId.out).at1 hjl
      have hst := hnr.out
      have hpc2 := hpc.out
      rw [cth_drop hjl] at hst hpc2
      rw [nrm] at hst
      rw [pcs] at hpc2
      obtain ⟨⟨s1, s2, s3, s4, s5, s6, _, s8, s9, _⟩, hn3⟩ := hst
      have HN3 := Lib.hid hn3
      have HPC := Lib.hid hpc2
      clear hn3 hpc2 hnr hpc
      generalize cth l j = c at *
      unfold M40 at s3 s6
      have i1 : (0 : Int) ≤ j := by omega
      have i2 : (j : Int) < m := by omega
      have CC := Lib.hid fun W => changed_any c W s4 s5 s6
      obtain ⟨n, hnn⟩ : ∃ n, n = c.oa - p := ⟨_, rfl⟩
      have w1 : IntKind.i64.wrap (c.oa - p) = n := by rw [hnn]; exact IntWalk.i64_in _ (by omega)
      have w2 : IntKind.i64.wrap (q + n) = c.na := by rw [show q + n = c.na from by omega]; exact IntWalk.i64_in _ (by omega)
      have w3 : IntKind.i64.wrap (c.na + (c.nb - c.na)) = c.nb := by rw [show c.na + (c.nb - c.na) = c.nb from by omega]; exact IntWalk.i64_in _ (by omega)
      clear s8
      have x3 : Below wr.heap.size wr (wr.alloc (.cells #[.int .i64 c.oa, .int .i64 c.ob, .int .i64 c.na, .int .i64 c.nb] 56)) := (Below.refl _ _).alloc (Nat.le_refl _) _
      go_wp2_with fail
      refine (CC.out _).mono ?_
      rintro e w4 ⟨rfl, hb4⟩
      have x4 : Below wr.heap.size wr w4 := x3.trans (hb4.mono x3.size)
      have x5 : Below wr.heap.size wr (w4.alloc (.cells #[.int .i64 c.oa, .int .i64 c.ob] 54)) := x4.alloc x4.size _
      have R5 : RawAt 54 (w4.alloc (.cells #[.int .i64 c.oa, .int .i64 c.ob] 54)) w4.heap.size #[.int .i64 c.oa, .int .i64 c.ob] := heap_alloc_new w4 _
      have I5 := Lib.hid (HI.out d wr _ hId.out x5)
      have r0 := RawAt.cell R5 0
      have r1 := RawAt.cell R5 1
      simp at r0 r1
      by_cases hpos : 0 < n
      · have k1 : decide (0 < n) = true := decide_eq_true hpos
        rw [if_pos (by omega)] at HPC
        have CK1 := Lib.hid (HK.out d ⟨p, q, c.oa - p⟩ _ _ HPC.out I5.out)
        rw [← hnn] at CK1
        have HPC2 := Lib.hid (show (d ++ [⟨p, q, c.oa - p⟩]) ++ pcs LL c.ob c.nb (l.drop (j + 1)) = pcs LL 0 0 l from by rw [List.append_assoc]; exact HPC.out)
        rw [← hnn] at HPC2
        clear hnn
        go_wp2_with fail
        refine CK1.out.mono ?_
        rintro e w6 ⟨rfl, hI6, hT6⟩
        have R6 := hT6 _ _ R5
        have r2 := RawAt.cell R6 1
        simp at r2
        have HI6 := Lib.hid hI6
        clear hT6 hI6 R5 R6 r0 r1
        go_wp2
        go_roundg (gk - 1)
        case measure => omega
        case rel => exact ⟨j + 1, c.ob, c.nb, d ++ [⟨p, q, n⟩], by go_num, by omega, by omega, rfl, rfl, by omega, by omega, by omega, by omega, HI6, Lib.hid (by rw [decide_eq_false (show ¬ (j + 1 = 0) by omega)]; exact HN3.out), HPC2⟩
      · have k1 : decide (0 < n) = false := decide_eq_false hpos
        rw [if_neg (by omega)] at HPC
        clear hnn
        go_wp2
        go_roundg (gk - 1)
        case measure => omega
        case rel => exact ⟨j + 1, c.ob, c.nb, d, by go_num, by omega, by omega, rfl, rfl, by omega, by omega, by omega, by omega, I5, Lib.hid (by rw [decide_eq_false (show ¬ (j + 1 = 0) by omega)]; exact HN3.out), HPC⟩
    · have hj : j = m := by omega
      have hpc2 := hpc.out
      rw [List.drop_of_length_le (by rw [HL.out]; omega), pcs] at hpc2
      have CK1 := Lib.hid (HK.out d ⟨p, q, LL⟩ [] _ hpc2 hId.out)
      rw [hpc2] at CK1
      unfold LL at CK1
      go_wp2_with fail
      refine CK1.out.mono ?_
      rintro e w6 ⟨rfl, hI6, hT6⟩
      have HI6 := Lib.hid hI6
      clear hT6 hI6
      go_wp2
      exact bodyPost_end (v := .tuple #[]) (by simp [results, Try.results46, go_sem]) rfl ⟨rfl, HI6.out⟩
end Go.Proofs.Ythbhjecfiiknaaa
