/- Windows: the contract of Widen. -/
import Derived.Test.YtjkmkobnfhepaaaWiB
import Derived.Deep.CutRange
import Derived.WalkMore
namespace Go.Proofs.Ytjkmkobnfhepaaa
open Go.RowKit
set_option linter.unusedVariables false
theorem new4 (w : World) (t1 t2 t3 t4 : TypeId) (c1 c2 c3 c4 : Array Value) : RawAt t1 ((((w.alloc (.cells c1 t1)).alloc (.cells c2 t2)).alloc (.cells c3 t3)).alloc (.cells c4 t4)) w.heap.size c1 ∧ RawAt t2 ((((w.alloc (.cells c1 t1)).alloc (.cells c2 t2)).alloc (.cells c3 t3)).alloc (.cells c4 t4)) (w.heap.size + 1) c2 ∧ RawAt t3 ((((w.alloc (.cells c1 t1)).alloc (.cells c2 t2)).alloc (.cells c3 t3)).alloc (.cells c4 t4)) (w.heap.size + 2) c3 ∧ RawAt t4 ((((w.alloc (.cells c1 t1)).alloc (.cells c2 t2)).alloc (.cells c3 t3)).alloc (.cells c4 t4)) (w.heap.size + 3) c4 ∧ Below w.heap.size w ((((w.alloc (.cells c1 t1)).alloc (.cells c2 t2)).alloc (.cells c3 t3)).alloc (.cells c4 t4)) := by
  obtain ⟨a1, a2, a3, a4⟩ := new2 w t1 t2 c1 c2
  generalize (w.alloc (.cells c1 t1)).alloc (.cells c2 t2) = W at *
  obtain ⟨b1, b2, b3, b4⟩ := new2 W t3 t4 c3 c4
  rw [a4] at b1 b2
  exact ⟨a1.below b3 a1.lt, a2.below b3 a2.lt, b1, b2, a3.trans (b3.mono a3.size)⟩
theorem WSm.arnd {l : List (Int × Int)} (h : WSm l) (p : Int) : (0 ≤ p → 0 ≤ (arnd l p).1) ∧ (arnd l p).1 ≤ p ∧ p ≤ (arnd l p).2 ∧ ((arnd l p).2 ≤ p ∨ (arnd l p).2 ≤ 4000000000) := by
  have a := arnd_is l p
  have b := arnd_le a
  refine ⟨fun h0 => ?_, b.1, b.2, ?_⟩
  · rcases a with ⟨_, e, _⟩ | ⟨hx, _, _⟩
    · rw [e]; exact h0
    · exact (h _ hx).1
  · rcases a with ⟨_, _, e⟩ | ⟨hx, _, _⟩
    · left; rw [e]; exact Int.le_refl _
    · right; exact (h _ hx).2.2
set_option maxHeartbeats 16000000 in
set_option maxRecDepth 100000 in
theorem wiWiden_any (p0 b c : Int) (A : Option Addr) (m ca : Nat) (l : List (Int × Int)) (B : Option Addr) (k cb : Nat) (o : List (Int × Int)) (w : World) (hA : RowsAt wiS 2 w A l) (hB : RowsAt wiS 2 w B o) (hl : l.length = m) (ho : o.length = k) (hm : m ≤ 1000) (hk : k ≤ 1000)
    (hsl : WSm l) (hso : WSm o) (h0 : 0 ≤ p0) (h1 : p0 ≤ 4000000000) (h2 : 0 ≤ b) (h3 : b ≤ 4000000000) (h4 : 0 ≤ c) (h5 : c ≤ 4000000000) :
    Calls Try.prog 10 #[.agg #[.int .i64 p0, .int .i64 b], .agg #[.int .i64 p0, .int .i64 c], .slice A m ca, .slice B k cb] w fun e w' => ∃ p d, e = .returned (.tuple #[.agg #[.int .i64 p, .int .i64 (b + d)], .agg #[.int .i64 p, .int .i64 (c + d)]]) ∧ Wdn l o p0 b c p d ∧ WdL l o p ∧ WdR l o b c d ∧ (0 ≤ p ∧ d ≤ 4000000000) ∧ Below w.heap.size w w' := by
  have CA := Lib.hid fun (q : Int) (W : World) (h : Below w.heap.size w W) => wiAround_any A m ca l q W (hA.below h) hl (by omega)
  have CB := Lib.hid fun (q : Int) (W : World) (h : Below w.heap.size w W) => wiAround_any B k cb o q W (hB.below h) ho (by omega)
  have ws := wdc_start l o p0 b c 0
  rw [hl, ho] at ws
  have HS : Hid (WdL l o p0 ∨ wdcL l o p0 ≤ m + k) := Lib.hid (.inr ws.1)
  have HS' : Hid (WdR l o b c 0 ∨ wdcR l o b c 0 ≤ m + k) := Lib.hid (.inr ws.2)
  have HSL := Lib.hid hsl
  have HSO := Lib.hid hso
  clear hA hB hl ho ws hsl hso
  have N4 := new4 w 23 23 23 23 #[.int .i64 p0, .int .i64 b] #[.int .i64 p0, .int .i64 c] #[.int .i64 0, .int .i64 0] #[.int .i64 0, .int .i64 0]
  obtain ⟨n1, n2, n3, n4, b4⟩ := N4
  have wk : IntKind.i64.wrap ((m : Int) + (k : Int)) = ((m + k : Nat) : Int) := by rw [IntWalk.i64_in _ (by omega)]; omega
  have tf0 : ∀ (a b : Int) (w : World), (Instr.field 23 (.agg #[.int .i64 a, .int .i64 b]) 0).run Try.prog w = .ok (.int .i64 a) w := fun _ _ _ => by kernel_rfl
  have tf1 : ∀ (a b : Int) (w : World), (Instr.field 23 (.agg #[.int .i64 a, .int .i64 b]) 1).run Try.prog w = .ok (.int .i64 b) w := fun _ _ _ => by kernel_rfl
  go_enter Try.func10, Try.ntmps10
  go_wp2_with fail
  obtain ⟨W0, hW0⟩ : ∃ W0, W0 = ((((w.alloc (.cells #[.int .i64 p0, .int .i64 b] 23)).alloc (.cells #[.int .i64 p0, .int .i64 c] 23)).alloc (.cells #[.int .i64 0, .int .i64 0] 23)).alloc (.cells #[.int .i64 0, .int .i64 0] 23)) := ⟨_, rfl⟩
  rw [← hW0] at n1 n2 n3 n4 b4 ⊢
  clear hW0
  go_step3
  go_wp2_with fail
  go_step3
  go_wp2_with fail
  try rw [wk]
  go_loopg [17] (m + k) (fun g i wr => ∃ (j : Nat) (p d : Int), i = .int .i64 j ∧ j ≤ m + k ∧ m + k - j ≤ g ∧ Hid (Wdn l o p0 b c p d) ∧ (0 ≤ p ∧ p ≤ p0 ∧ 0 ≤ d ∧ d ≤ 4000000000) ∧ Hid (WdL l o p ∨ wdcL l o p ≤ m + k - j) ∧ Hid (WdR l o b c d ∨ wdcR l o b c d ≤ m + k - j) ∧ RawAt 23 wr w.heap.size #[.int .i64 p, .int .i64 (b + d)] ∧ RawAt 23 wr (w.heap.size + 1) #[.int .i64 p, .int .i64 (c + d)] ∧ RawAt 23 wr (w.heap.size + 2) #[.int .i64 0, .int .i64 0] ∧ RawAt 23 wr (w.heap.size + 3) #[.int .i64 0, .int .i64 0] ∧ Hid (Below w.heap.size w wr))
  case atStart => exact ⟨0, p0, 0, rfl, by omega, by omega, Lib.hid (Wdn.start _ _ _ _ _), ⟨h0, by omega, by omega, by omega⟩, HS, HS', by simpa using n1, by simpa using n2, n3, n4, Lib.hid b4⟩
  case round =>
    clear n1 n2 n3 n4 b4 HS HS'
    obtain ⟨j, p, d, rfl, j1, j2, hwd, ⟨q0, q1, q2, q3⟩, hzl, hzr, r1, r2, r3, r4, hb⟩ := hrel
    by_cases hlt : j < m + k
    · have i2 : (j : Int) < ((m + k : Nat) : Int) := by omega
      have e1 := HSL.out.arnd p
      have e2 := HSO.out.arnd p
      have e3 := HSL.out.arnd (b + d)
      have e4 := HSO.out.arnd (c + d)
      have HR := Lib.hid (hwd.out.round (arnd_is l p) (arnd_is o p) (arnd_is l (b + d)) (arnd_is o (c + d)))
      have HZL : Hid (WdL l o (p - max (p - (arnd l p).1) (p - (arnd o p).1)) ∨ wdcL l o (p - max (p - (arnd l p).1) (p - (arnd o p).1)) ≤ m + k - (j + 1)) := Lib.hid (Wdn.lessL (by rw [show m + k - (j + 1) + 1 = m + k - j by omega]; exact hzl.out) (arnd_is l p) (arnd_is o p))
      have HZR : Hid (WdR l o b c (d + max ((arnd l (b + d)).2 - (b + d)) ((arnd o (c + d)).2 - (c + d))) ∨ wdcR l o b c (d + max ((arnd l (b + d)).2 - (b + d)) ((arnd o (c + d)).2 - (c + d))) ≤ m + k - (j + 1)) := Lib.hid (Wdn.lessR (by rw [show m + k - (j + 1) + 1 = m + k - j by omega]; exact hzr.out) (arnd_is l (b + d)) (arnd_is o (c + d)))
      have HT1 := Lib.hid fun h => arnd_stop (arnd_is l p) (arnd_is o p) h
      have HT2 := Lib.hid fun h => arnd_stopR (arnd_is l (b + d)) (arnd_is o (c + d)) h
      have C1 := Lib.hid (CA.out p)
      have C2 := Lib.hid (CB.out p)
      have C3 := Lib.hid (CA.out (b + d))
      have C4 := Lib.hid (CB.out (c + d))
      clear hzl hzr
      generalize arnd l p = s1 at *
      generalize arnd o p = s2 at *
      generalize arnd l (b + d) = s3 at *
      generalize arnd o (c + d) = s4 at *
      obtain ⟨u1, v1⟩ := s1
      obtain ⟨u2, v2⟩ := s2
      obtain ⟨u3, v3⟩ := s3
      obtain ⟨u4, v4⟩ := s4
      simp only at e1 e2 e3 e4 HR HZL HZR HT1 HT2 C1 C2 C3 C4
      obtain ⟨X, hX⟩ : ∃ X, X = max (p - u1) (p - u2) := ⟨_, rfl⟩
      obtain ⟨Y, hY⟩ : ∃ Y, Y = max (v3 - (b + d)) (v4 - (c + d)) := ⟨_, rfl⟩
      have b1 : 0 ≤ X ∧ X ≤ p := by omega
      have b2 : 0 ≤ Y ∧ d + Y ≤ 4000000000 := by omega
      have hmx : (if u2 < u1 then p - u2 else p - u1) = X := by split <;> omega
      have hmy : (if v3 - (b + d) < v4 - (c + d) then v4 - (c + d) else v3 - (b + d)) = Y := by split <;> omega
      rw [← hX] at HR HZL HT1
      rw [← hY] at HR HZR HT2
      clear hX hY
      have x1 : IntKind.i64.wrap (p - u1) = p - u1 := IntWalk.i64_in _ (by omega)
      have x2 : IntKind.i64.wrap (p - u2) = p - u2 := IntWalk.i64_in _ (by omega)
      have x3 : IntKind.i64.wrap (v3 - (b + d)) = v3 - (b + d) := IntWalk.i64_in _ (by omega)
      have x4 : IntKind.i64.wrap (v4 - (c + d)) = v4 - (c + d) := IntWalk.i64_in _ (by omega)
      have i1 : (0 : Int) ≤ j := by omega
      go_upto_region 3 with fail
      obtain ⟨W1, hW1⟩ : ∃ W1, W1 = wr := ⟨_, rfl⟩
      rw [← hW1] at r1 r2 r3 r4 hb ⊢
      clear hW1
      have MK : Hid (∀ W : World, Below W1.heap.size W1 W → (fun W => W.cell? ⟨w.heap.size, 0, none⟩ = some (.int .i64 p) ∧ W.cell? ⟨w.heap.size, 1, none⟩ = some (.int .i64 (b + d)) ∧ W.cell? ⟨w.heap.size + 1, 0, none⟩ = some (.int .i64 p) ∧ W.cell? ⟨w.heap.size + 1, 1, none⟩ = some (.int .i64 (c + d))) W) := fun W hW => ⟨RawAt.cell (r1.below hW r1.lt) 0, RawAt.cell (r1.below hW r1.lt) 1, RawAt.cell (r2.below hW r2.lt) 0, RawAt.cell (r2.below hW r2.lt) 1⟩
      have MB : Hid (∀ W : World, Below W1.heap.size W1 W → Below w.heap.size w W) := fun W hW => hb.out.trans (hW.mono hb.out.size)
      have hW0 : Below W1.heap.size W1 W1.drew := (Below.refl _ _).drew
      go_cut [10, 17] from 17 to 67 (fun t10 t17 wx => t17 = .int .i64 (j : Int) ∧ t10 = .int .i64 X ∧ Hid (Below W1.heap.size W1 wx))
      case first =>
        refine wp_region_noPanic ?_
        refine wp_region_held_drew (S := (fun W => W.cell? ⟨w.heap.size, 0, none⟩ = some (.int .i64 p) ∧ W.cell? ⟨w.heap.size, 1, none⟩ = some (.int .i64 (b + d)) ∧ W.cell? ⟨w.heap.size + 1, 0, none⟩ = some (.int .i64 p) ∧ W.cell? ⟨w.heap.size + 1, 1, none⟩ = some (.int .i64 (c + d)))) (by kernel_rfl) (MK.out _ hW0) (fun hHeld => ?_)
        refine wpAnyH_take (i := 0) (v := ?_) rfl (by kernel_rfl) (by kernel_rfl) (by kernel_rfl) (fun _ _ _ h => h) (Or.inl ⟨by rfl, ?_⟩) hHeld ?_
        rotate_left
        · intro w hSw
          (try dsimp only at hSw)
          go_simp
          try with_reducible rfl
        go_simp
        refine wpAnyH_take (i := 1) (v := ?_) rfl (by kernel_rfl) (by kernel_rfl) (by kernel_rfl) (fun _ _ _ h => h) (Or.inl ⟨by rfl, ?_⟩) hHeld ?_
        rotate_left
        · intro w hSw
          (try dsimp only at hSw)
          go_simp
          try with_reducible rfl
        go_simp
        refine wpAnyH_take (i := 2) (v := ?_) rfl (by kernel_rfl) (by kernel_rfl) (by kernel_rfl) (fun _ _ _ h => h) (Or.inl ⟨by rfl, ?_⟩) hHeld ?_
        rotate_left
        · intro w hSw
          (try dsimp only at hSw)
          go_simp
          try with_reducible rfl
        go_simp
        refine wpAnyH_take (i := 3) (v := ?_) rfl (by kernel_rfl) (by kernel_rfl) (by kernel_rfl) (fun _ _ _ h => h) (Or.inl ⟨by rfl, ?_⟩) hHeld ?_
        rotate_left
        · intro w hSw
          (try dsimp only at hSw)
          go_simp
          try with_reducible rfl
        go_simp
        refine wpAnyH_take (i := 4) (v := ?_) rfl (by kernel_rfl) (by kernel_rfl) (by kernel_rfl) (fun _ _ _ h => h) (Or.inl ⟨by rfl, ?_⟩) hHeld ?_
        rotate_left
        · intro w hSw
          (try dsimp only at hSw)
          go_simp
          try with_reducible rfl
        go_simp
        refine wpAnyH_take (i := 8) (v := ?_) rfl (by kernel_rfl) (by kernel_rfl) (by kernel_rfl) (fun _ _ _ h => h) (Or.inl ⟨by rfl, ?_⟩) hHeld ?_
        rotate_left
        · intro w hSw
          (try dsimp only at hSw)
          go_simp
          try with_reducible rfl
        go_simp
        refine wpAnyH_take (i := 9) (v := ?_) rfl (by kernel_rfl) (by kernel_rfl) (by kernel_rfl) (fun _ _ _ h => h) (Or.inl ⟨by rfl, ?_⟩) hHeld ?_
        rotate_left
        · intro w hSw
          (try dsimp only at hSw)
          go_simp
          try with_reducible rfl
        go_simp
        refine wpAnyH_take (i := 10) (v := ?_) rfl (by kernel_rfl) (by kernel_rfl) (by kernel_rfl) (fun _ _ _ h => h) (Or.inl ⟨by rfl, ?_⟩) hHeld ?_
        rotate_left
        · intro w hSw
          (try dsimp only at hSw)
          go_simp
          try with_reducible rfl
        go_simp
        refine wpAnyH_take (i := 11) (v := ?_) rfl (by kernel_rfl) (by kernel_rfl) (by kernel_rfl) (fun _ _ _ h => h) (Or.inl ⟨by rfl, ?_⟩) hHeld ?_
        rotate_left
        · intro w hSw
          (try dsimp only at hSw)
          go_simp
          try with_reducible rfl
        go_simp
        refine wpAnyH_take (i := 12) (v := ?_) rfl (by kernel_rfl) (by kernel_rfl) (by kernel_rfl) (fun _ _ _ h => h) (Or.inl ⟨by rfl, ?_⟩) hHeld ?_
        rotate_left
        · intro w hSw
          (try dsimp only at hSw)
          go_simp
          try with_reducible rfl
        go_simp
        refine wpAnyH_ready (rs := [5]) (by kernel_rfl) (by simp) ?_
        refine AllReadyH.cons rfl (fun K hK => ?_) ?_
        rotate_left
        · exact AllReadyH.nil
        go_simp
        go_wp2_with (first | (go_at_call 15; first | ((with_reducible refine (C1.out _ (MB.out _ hW0)).mono ?_); rintro e w6 ⟨rfl, hb6⟩; have hW0 := hW0.trans (hb6.mono hW0.size)) | ((with_reducible refine (C2.out _ (MB.out _ hW0)).mono ?_); rintro e w6 ⟨rfl, hb6⟩; have hW0 := hW0.trans (hb6.mono hW0.size))))
        refine hK.out _ _ (by with_reducible exact MK.out _ hW0) (fun hHeld => ?_)
        clear hK K
        go_simp
        refine wpAnyH_take (i := 6) (v := ?_) rfl (by kernel_rfl) (by kernel_rfl) (by kernel_rfl) (fun _ _ _ h => h) (Or.inl ⟨by rfl, ?_⟩) hHeld ?_
        rotate_left
        · intro w hSw
          (try dsimp only at hSw)
          go_simp
          try with_reducible rfl
        go_simp
        refine wpAnyH_take (i := 7) (v := ?_) rfl (by kernel_rfl) (by kernel_rfl) (by kernel_rfl) (fun _ _ _ h => h) (Or.inl ⟨by rfl, ?_⟩) hHeld ?_
        rotate_left
        · intro w hSw
          (try dsimp only at hSw)
          go_simp
          try with_reducible rfl
        go_simp
        refine wpAnyH_ready (rs := [13]) (by kernel_rfl) (by simp) ?_
        refine AllReadyH.cons rfl (fun K hK => ?_) ?_
        rotate_left
        · exact AllReadyH.nil
        go_simp
        go_wp2_with (first | (go_at_call 15; first | ((with_reducible refine (C1.out _ (MB.out _ hW0)).mono ?_); rintro e w6 ⟨rfl, hb6⟩; have hW0 := hW0.trans (hb6.mono hW0.size)) | ((with_reducible refine (C2.out _ (MB.out _ hW0)).mono ?_); rintro e w6 ⟨rfl, hb6⟩; have hW0 := hW0.trans (hb6.mono hW0.size))))
        refine hK.out _ _ (by with_reducible exact MK.out _ hW0) (fun hHeld => ?_)
        clear hK K
        go_simp
        refine wpAnyH_take (i := 14) (v := ?_) rfl (by kernel_rfl) (by kernel_rfl) (by kernel_rfl) (fun _ _ _ h => h) (Or.inl ⟨by rfl, ?_⟩) hHeld ?_
        rotate_left
        · intro w hSw
          (try dsimp only at hSw)
          go_simp
          try with_reducible rfl
        go_simp
        refine wpAnyH_take (i := 15) (v := ?_) rfl (by kernel_rfl) (by kernel_rfl) (by kernel_rfl) (fun _ _ _ h => h) (Or.inl ⟨by rfl, ?_⟩) hHeld ?_
        rotate_left
        · intro w hSw
          (try dsimp only at hSw)
          go_simp
          try with_reducible rfl
        go_simp
        refine wpAnyH_take (i := 16) (v := ?_) rfl (by kernel_rfl) (by kernel_rfl) (by kernel_rfl) (fun _ _ _ h => h) (Or.inl ⟨by rfl, ?_⟩) hHeld ?_
        rotate_left
        · intro w hSw
          (try dsimp only at hSw)
          go_simp
          try with_reducible rfl
        go_simp
        refine wpAnyH_take (i := 17) (v := ?_) rfl (by kernel_rfl) (by kernel_rfl) (by kernel_rfl) (fun _ _ _ h => h) (Or.inl ⟨by rfl, ?_⟩) hHeld ?_
        rotate_left
        · intro w hSw
          (try dsimp only at hSw)
          go_simp
          try with_reducible rfl
        go_simp
        refine wpAnyH_done (by kernel_rfl) ?_ _
        refine NoPanic.normal ?_
        go_wp2_with fail
        go_meet
        exact ⟨rfl, rfl, Lib.hid hW0⟩
      case rest =>
        obtain ⟨rfl, rfl, hbc⟩ := hcut
        have hW0 := hbc.out
        clear hbc
        go_upto_region 4 with fail
        go_cut [10, 11, 17] from 17 to 67 (fun t10 t11 t17 wx => t17 = .int .i64 (j : Int) ∧ t10 = .int .i64 X ∧ t11 = .int .i64 Y ∧ Hid (Below W1.heap.size W1 wx))
        case first =>
          have hW0 := hW0.drew
          refine wp_region_noPanic ?_
          refine wp_region_held_drew (S := (fun W => W.cell? ⟨w.heap.size, 0, none⟩ = some (.int .i64 p) ∧ W.cell? ⟨w.heap.size, 1, none⟩ = some (.int .i64 (b + d)) ∧ W.cell? ⟨w.heap.size + 1, 0, none⟩ = some (.int .i64 p) ∧ W.cell? ⟨w.heap.size + 1, 1, none⟩ = some (.int .i64 (c + d)))) (by kernel_rfl) (MK.out _ hW0) (fun hHeld => ?_)
          refine wpAnyH_take (i := 0) (v := ?_) rfl (by kernel_rfl) (by kernel_rfl) (by kernel_rfl) (fun _ _ _ h => h) (Or.inl ⟨by rfl, ?_⟩) hHeld ?_
          rotate_left
          · intro w hSw
            (try dsimp only at hSw)
            go_simp
            try with_reducible rfl
          go_simp
          refine wpAnyH_take (i := 1) (v := ?_) rfl (by kernel_rfl) (by kernel_rfl) (by kernel_rfl) (fun _ _ _ h => h) (Or.inl ⟨by rfl, ?_⟩) hHeld ?_
          rotate_left
          · intro w hSw
            (try dsimp only at hSw)
            go_simp
            try with_reducible rfl
          go_simp
          refine wpAnyH_take (i := 2) (v := ?_) rfl (by kernel_rfl) (by kernel_rfl) (by kernel_rfl) (fun _ _ _ h => h) (Or.inl ⟨by rfl, ?_⟩) hHeld ?_
          rotate_left
          · intro w hSw
            (try dsimp only at hSw)
            go_simp
            try with_reducible rfl
          go_simp
          refine wpAnyH_take (i := 5) (v := ?_) rfl (by kernel_rfl) (by kernel_rfl) (by kernel_rfl) (fun _ _ _ h => h) (Or.inl ⟨by rfl, ?_⟩) hHeld ?_
          rotate_left
          · intro w hSw
            (try dsimp only at hSw)
            go_simp
            try with_reducible rfl
          go_simp
          refine wpAnyH_take (i := 6) (v := ?_) rfl (by kernel_rfl) (by kernel_rfl) (by kernel_rfl) (fun _ _ _ h => h) (Or.inl ⟨by rfl, ?_⟩) hHeld ?_
          rotate_left
          · intro w hSw
            (try dsimp only at hSw)
            go_simp
            try with_reducible rfl
          go_simp
          refine wpAnyH_take (i := 8) (v := ?_) rfl (by kernel_rfl) (by kernel_rfl) (by kernel_rfl) (fun _ _ _ h => h) (Or.inl ⟨by rfl, ?_⟩) hHeld ?_
          rotate_left
          · intro w hSw
            (try dsimp only at hSw)
            go_simp
            try with_reducible rfl
          go_simp
          refine wpAnyH_take (i := 9) (v := ?_) rfl (by kernel_rfl) (by kernel_rfl) (by kernel_rfl) (fun _ _ _ h => h) (Or.inl ⟨by rfl, ?_⟩) hHeld ?_
          rotate_left
          · intro w hSw
            (try dsimp only at hSw)
            go_simp
            try with_reducible rfl
          go_simp
          refine wpAnyH_take (i := 10) (v := ?_) rfl (by kernel_rfl) (by kernel_rfl) (by kernel_rfl) (fun _ _ _ h => h) (Or.inl ⟨by rfl, ?_⟩) hHeld ?_
          rotate_left
          · intro w hSw
            (try dsimp only at hSw)
            go_simp
            try with_reducible rfl
          go_simp
          refine wpAnyH_take (i := 13) (v := ?_) rfl (by kernel_rfl) (by kernel_rfl) (by kernel_rfl) (fun _ _ _ h => h) (Or.inl ⟨by rfl, ?_⟩) hHeld ?_
          rotate_left
          · intro w hSw
            (try dsimp only at hSw)
            go_simp
            try with_reducible rfl
          go_simp
          refine wpAnyH_take (i := 14) (v := ?_) rfl (by kernel_rfl) (by kernel_rfl) (by kernel_rfl) (fun _ _ _ h => h) (Or.inl ⟨by rfl, ?_⟩) hHeld ?_
          rotate_left
          · intro w hSw
            (try dsimp only at hSw)
            go_simp
            try with_reducible rfl
          go_simp
          refine wpAnyH_ready (rs := [3]) (by kernel_rfl) (by simp) ?_
          refine AllReadyH.cons rfl (fun K hK => ?_) ?_
          rotate_left
          · exact AllReadyH.nil
          go_simp
          go_wp2_with (first | (go_at_call 15; first | ((with_reducible refine (C3.out _ (MB.out _ hW0)).mono ?_); rintro e w6 ⟨rfl, hb6⟩; have hW0 := hW0.trans (hb6.mono hW0.size)) | ((with_reducible refine (C4.out _ (MB.out _ hW0)).mono ?_); rintro e w6 ⟨rfl, hb6⟩; have hW0 := hW0.trans (hb6.mono hW0.size))))
          refine hK.out _ _ (by with_reducible exact MK.out _ hW0) (fun hHeld => ?_)
          clear hK K
          go_simp
          refine wpAnyH_take (i := 4) (v := ?_) rfl (by kernel_rfl) (by kernel_rfl) (by kernel_rfl) (fun _ _ _ h => h) (Or.inl ⟨by rfl, ?_⟩) hHeld ?_
          rotate_left
          · intro w hSw
            (try dsimp only at hSw)
            go_simp
            try with_reducible rfl
          go_simp
          refine wpAnyH_take (i := 7) (v := ?_) rfl (by kernel_rfl) (by kernel_rfl) (by kernel_rfl) (fun _ _ _ h => h) (Or.inl ⟨by rfl, ?_⟩) hHeld ?_
          rotate_left
          · intro w hSw
            (try dsimp only at hSw)
            go_simp
            try with_reducible rfl
          go_simp
          refine wpAnyH_ready (rs := [11]) (by kernel_rfl) (by simp) ?_
          refine AllReadyH.cons rfl (fun K hK => ?_) ?_
          rotate_left
          · exact AllReadyH.nil
          go_simp
          go_wp2_with (first | (go_at_call 15; first | ((with_reducible refine (C3.out _ (MB.out _ hW0)).mono ?_); rintro e w6 ⟨rfl, hb6⟩; have hW0 := hW0.trans (hb6.mono hW0.size)) | ((with_reducible refine (C4.out _ (MB.out _ hW0)).mono ?_); rintro e w6 ⟨rfl, hb6⟩; have hW0 := hW0.trans (hb6.mono hW0.size))))
          refine hK.out _ _ (by with_reducible exact MK.out _ hW0) (fun hHeld => ?_)
          clear hK K
          go_simp
          refine wpAnyH_take (i := 12) (v := ?_) rfl (by kernel_rfl) (by kernel_rfl) (by kernel_rfl) (fun _ _ _ h => h) (Or.inl ⟨by rfl, ?_⟩) hHeld ?_
          rotate_left
          · intro w hSw
            (try dsimp only at hSw)
            go_simp
            try with_reducible rfl
          go_simp
          refine wpAnyH_take (i := 15) (v := ?_) rfl (by kernel_rfl) (by kernel_rfl) (by kernel_rfl) (fun _ _ _ h => h) (Or.inl ⟨by rfl, ?_⟩) hHeld ?_
          rotate_left
          · intro w hSw
            (try dsimp only at hSw)
            go_simp
            try with_reducible rfl
          go_simp
          refine wpAnyH_take (i := 16) (v := ?_) rfl (by kernel_rfl) (by kernel_rfl) (by kernel_rfl) (fun _ _ _ h => h) (Or.inl ⟨by rfl, ?_⟩) hHeld ?_
          rotate_left
          · intro w hSw
            (try dsimp only at hSw)
            go_simp
            try with_reducible rfl
          go_simp
          refine wpAnyH_take (i := 17) (v := ?_) rfl (by kernel_rfl) (by kernel_rfl) (by kernel_rfl) (fun _ _ _ h => h) (Or.inl ⟨by rfl, ?_⟩) hHeld ?_
          rotate_left
          · intro w hSw
            (try dsimp only at hSw)
            go_simp
            try with_reducible rfl
          go_simp
          refine wpAnyH_done (by kernel_rfl) ?_ _
          refine NoPanic.normal ?_
          go_wp2_with fail
          go_meet
          exact ⟨rfl, rfl, rfl, Lib.hid hW0⟩
        case rest =>
          obtain ⟨rfl, rfl, rfl, hbc⟩ := hcut
          have hW0 := hbc.out
          clear hbc
          have r1 := r1.below hW0 r1.lt
          have r2 := r2.below hW0 r2.lt
          have r3 := r3.below hW0 r3.lt
          have r4 := r4.below hW0 r4.lt
          have HB := Lib.hid (MB.out _ hW0)
          clear C1 C2 C3 C4 e1 e2 e3 e4 x1 x2 x3 x4 MK MB hW0 hb hmx hmy
          by_cases g1 : X = 0
          · have k1 : decide (X = 0) = true := decide_eq_true g1
            by_cases g2 : Y = 0
            · have k2 : decide (Y = 0) = true := decide_eq_true g2
              have HL1 := Lib.hid (HT1.out g1)
              have HR1 := Lib.hid (HT2.out g2)
              clear HT1 HT2 HR HZL HZR
              have y10 := RawAt.cell r1 0
              have y11 := RawAt.cell r1 1
              have y20 := RawAt.cell r2 0
              have y21 := RawAt.cell r2 1
              have y30 := RawAt.cell r3 0
              have y31 := RawAt.cell r3 1
              have y40 := RawAt.cell r4 0
              have y41 := RawAt.cell r4 1
              have f30 := RawAt.free r3 0
              have f31 := RawAt.free r3 1
              have f40 := RawAt.free r4 0
              have f41 := RawAt.free r4 1
              simp at y10 y11 y20 y21 y30 y31 y40 y41
              go_wp2_with fail
              go_region
              go_wp2_with fail
              rw [Exit.noGoto_ret]
              have R3 : RawAt 23 ((((((wc.setCell ⟨w.heap.size + 2, 0, none⟩ (.int .i64 p)).setCell ⟨w.heap.size + 2, 1, none⟩ (.int .i64 (b + d))).setCell ⟨w.heap.size + 3, 0, none⟩ (.int .i64 p)).setCell ⟨w.heap.size + 3, 1, none⟩ (.int .i64 (c + d))).drew)) (w.heap.size + 2) #[.int .i64 p, .int .i64 (b + d)] := (((((r3.set_ 0 _).set_ 1 _).set_other (by omega) 0 _).set_other (by omega) 1 _)).of_eq (by simp)
              have R4 : RawAt 23 ((((((wc.setCell ⟨w.heap.size + 2, 0, none⟩ (.int .i64 p)).setCell ⟨w.heap.size + 2, 1, none⟩ (.int .i64 (b + d))).setCell ⟨w.heap.size + 3, 0, none⟩ (.int .i64 p)).setCell ⟨w.heap.size + 3, 1, none⟩ (.int .i64 (c + d))).drew)) (w.heap.size + 3) #[.int .i64 p, .int .i64 (c + d)] := (((((r4.set_other (by omega) 0 _).set_other (by omega) 1 _).set_ 0 _).set_ 1 _)).of_eq (by simp)
              have z30 : ((((((wc.setCell ⟨w.heap.size + 2, 0, none⟩ (.int .i64 p)).setCell ⟨w.heap.size + 2, 1, none⟩ (.int .i64 (b + d))).setCell ⟨w.heap.size + 3, 0, none⟩ (.int .i64 p)).setCell ⟨w.heap.size + 3, 1, none⟩ (.int .i64 (c + d))).drew)).cell? ⟨w.heap.size + 1 + 1, 0, none⟩ = some (.int .i64 p) := RawAt.cell R3 0
              have z31 : ((((((wc.setCell ⟨w.heap.size + 2, 0, none⟩ (.int .i64 p)).setCell ⟨w.heap.size + 2, 1, none⟩ (.int .i64 (b + d))).setCell ⟨w.heap.size + 3, 0, none⟩ (.int .i64 p)).setCell ⟨w.heap.size + 3, 1, none⟩ (.int .i64 (c + d))).drew)).cell? ⟨w.heap.size + 1 + 1, 1, none⟩ = some (.int .i64 (b + d)) := RawAt.cell R3 1
              have z40 : ((((((wc.setCell ⟨w.heap.size + 2, 0, none⟩ (.int .i64 p)).setCell ⟨w.heap.size + 2, 1, none⟩ (.int .i64 (b + d))).setCell ⟨w.heap.size + 3, 0, none⟩ (.int .i64 p)).setCell ⟨w.heap.size + 3, 1, none⟩ (.int .i64 (c + d))).drew)).cell? ⟨w.heap.size + 1 + 1 + 1, 0, none⟩ = some (.int .i64 p) := RawAt.cell R4 0
              have z41 : ((((((wc.setCell ⟨w.heap.size + 2, 0, none⟩ (.int .i64 p)).setCell ⟨w.heap.size + 2, 1, none⟩ (.int .i64 (b + d))).setCell ⟨w.heap.size + 3, 0, none⟩ (.int .i64 p)).setCell ⟨w.heap.size + 3, 1, none⟩ (.int .i64 (c + d))).drew)).cell? ⟨w.heap.size + 1 + 1 + 1, 1, none⟩ = some (.int .i64 (c + d)) := RawAt.cell R4 1
              have HBE : Hid (Below w.heap.size w ((((((wc.setCell ⟨w.heap.size + 2, 0, none⟩ (.int .i64 p)).setCell ⟨w.heap.size + 2, 1, none⟩ (.int .i64 (b + d))).setCell ⟨w.heap.size + 3, 0, none⟩ (.int .i64 p)).setCell ⟨w.heap.size + 3, 1, none⟩ (.int .i64 (c + d))).drew))) := Lib.hid (((((HB.out.setCell (p := ⟨w.heap.size + 2, 0, none⟩) (by simp) _).setCell (p := ⟨w.heap.size + 2, 1, none⟩) (by simp) _).setCell (p := ⟨w.heap.size + 3, 0, none⟩) (by simp) _).setCell (p := ⟨w.heap.size + 3, 1, none⟩) (by simp) _).drew)
              refine bodyPost_ret (v := .tuple #[.agg #[.int .i64 p, .int .i64 (b + d)], .agg #[.int .i64 p, .int .i64 (c + d)]]) (by simp [results, Try.results10, go_sem, z30, z31, z40, z41]) rfl ⟨p, d, rfl, hwd.out, HL1.out, HR1.out, ⟨q0, q3⟩, HBE.out⟩
            · have k2 : decide (Y = 0) = false := decide_eq_false g2
              subst g1
              have CW5 := Lib.hid fun W => wiWider_any p (b + d) 0 Y W (by omega) (by omega) (by omega) (by omega) (by omega) (by omega) (by omega) (by omega)
              have CW6 := Lib.hid fun W => wiWider_any p (c + d) 0 Y W (by omega) (by omega) (by omega) (by omega) (by omega) (by omega) (by omega) (by omega)
              have HL1 := HZL
              have HR1 := HZR
              have HD1 := HR
              simp only [Int.sub_zero] at CW5 CW6 HL1 HD1
              clear HZL HZR HR HT1 HT2
              have y10 := RawAt.cell r1 0
              have y11 := RawAt.cell r1 1
              have y20 := RawAt.cell r2 0
              have y21 := RawAt.cell r2 1
              simp at y10 y11 y20 y21
              have rr1 := r1
              have rr2 := r2
              have hW0 : Below wc.heap.size wc wc.drew := (Below.refl _ _).drew
              go_upto_region 6 with fail
              clear k1
              try clear k2
              try clear g1
              try clear g2
              go_region_with (first | (go_at_call 16; first | ((with_reducible refine (CW5.out _).mono ?_); rintro e w6 ⟨rfl, hb6⟩; have hW0 := hW0.trans (hb6.mono hW0.size); have rr1 := r1.below hW0 r1.lt; have rr2 := r2.below hW0 r2.lt; have y10 := RawAt.cell rr1 0; have y11 := RawAt.cell rr1 1; have y20 := RawAt.cell rr2 0; have y21 := RawAt.cell rr2 1; have f10 := RawAt.free rr1 0; have f11 := RawAt.free rr1 1; have f20 := RawAt.free rr2 0; have f21 := RawAt.free rr2 1; simp at y10 y11 y20 y21) | ((with_reducible refine (CW6.out _).mono ?_); rintro e w6 ⟨rfl, hb6⟩; have hW0 := hW0.trans (hb6.mono hW0.size); have rr1 := r1.below hW0 r1.lt; have rr2 := r2.below hW0 r2.lt; have y10 := RawAt.cell rr1 0; have y11 := RawAt.cell rr1 1; have y20 := RawAt.cell rr2 0; have y21 := RawAt.cell rr2 1; have f10 := RawAt.free rr1 0; have f11 := RawAt.free rr1 1; have f20 := RawAt.free rr2 0; have f21 := RawAt.free rr2 1; simp at y10 y11 y20 y21)))
              all_goals
                have R1 : RawAt 23 ((((w6.setCell ⟨w.heap.size, 0, none⟩ (.int .i64 p)).setCell ⟨w.heap.size, 1, none⟩ (.int .i64 (b + d + Y))).setCell ⟨w.heap.size + 1, 0, none⟩ (.int .i64 p)).setCell ⟨w.heap.size + 1, 1, none⟩ (.int .i64 (c + d + Y))) (w.heap.size) #[.int .i64 p, .int .i64 (b + (d + Y))] := ((((rr1.set_ 0 _).set_ 1 _).set_other (by omega) 0 _).set_other (by omega) 1 _).of_eq (by simp [Int.add_assoc])
                have R2 : RawAt 23 ((((w6.setCell ⟨w.heap.size, 0, none⟩ (.int .i64 p)).setCell ⟨w.heap.size, 1, none⟩ (.int .i64 (b + d + Y))).setCell ⟨w.heap.size + 1, 0, none⟩ (.int .i64 p)).setCell ⟨w.heap.size + 1, 1, none⟩ (.int .i64 (c + d + Y))) (w.heap.size + 1) #[.int .i64 p, .int .i64 (c + (d + Y))] := ((((rr2.set_other (by omega) 0 _).set_other (by omega) 1 _).set_ 0 _).set_ 1 _).of_eq (by simp [Int.add_assoc])
                have r3' := r3.below hW0 r3.lt
                have r4' := r4.below hW0 r4.lt
                have R3 : RawAt 23 ((((w6.setCell ⟨w.heap.size, 0, none⟩ (.int .i64 p)).setCell ⟨w.heap.size, 1, none⟩ (.int .i64 (b + d + Y))).setCell ⟨w.heap.size + 1, 0, none⟩ (.int .i64 p)).setCell ⟨w.heap.size + 1, 1, none⟩ (.int .i64 (c + d + Y))) (w.heap.size + 2) #[.int .i64 0, .int .i64 0] := ((((r3'.set_other (by omega) 0 _).set_other (by omega) 1 _).set_other (by omega) 0 _).set_other (by omega) 1 _)
                have R4 : RawAt 23 ((((w6.setCell ⟨w.heap.size, 0, none⟩ (.int .i64 p)).setCell ⟨w.heap.size, 1, none⟩ (.int .i64 (b + d + Y))).setCell ⟨w.heap.size + 1, 0, none⟩ (.int .i64 p)).setCell ⟨w.heap.size + 1, 1, none⟩ (.int .i64 (c + d + Y))) (w.heap.size + 3) #[.int .i64 0, .int .i64 0] := ((((r4'.set_other (by omega) 0 _).set_other (by omega) 1 _).set_other (by omega) 0 _).set_other (by omega) 1 _)
                have HBE : Hid (Below w.heap.size w ((((w6.setCell ⟨w.heap.size, 0, none⟩ (.int .i64 p)).setCell ⟨w.heap.size, 1, none⟩ (.int .i64 (b + d + Y))).setCell ⟨w.heap.size + 1, 0, none⟩ (.int .i64 p)).setCell ⟨w.heap.size + 1, 1, none⟩ (.int .i64 (c + d + Y)))) := Lib.hid (((((HB.out.trans (hW0.mono HB.out.size)).setCell (p := ⟨w.heap.size, 0, none⟩) (by simp) _).setCell (p := ⟨w.heap.size, 1, none⟩) (by simp) _).setCell (p := ⟨w.heap.size + 1, 0, none⟩) (by simp) _).setCell (p := ⟨w.heap.size + 1, 1, none⟩) (by simp) _)
                go_wp2_with fail
                go_roundg (gk - 1)
                case measure => omega
                case rel => exact ⟨j + 1, p, d + Y, by go_num, by omega, by omega, HD1, (by omega), HL1, HR1, R1, R2, R3, R4, HBE⟩
          · have k1 : decide (X = 0) = false := decide_eq_false g1
            by_cases g2 : Y = 0
            · subst g2
              have CW5 := Lib.hid fun W => wiWider_any p (b + d) X 0 W (by omega) (by omega) (by omega) (by omega) (by omega) (by omega) (by omega) (by omega)
              have CW6 := Lib.hid fun W => wiWider_any p (c + d) X 0 W (by omega) (by omega) (by omega) (by omega) (by omega) (by omega) (by omega) (by omega)
              have HL1 := HZL
              have HR1 := HZR
              have HD1 := HR
              simp only [Int.add_zero] at CW5 CW6 HR1 HD1
              clear HZL HZR HR HT1 HT2
              have y10 := RawAt.cell r1 0
              have y11 := RawAt.cell r1 1
              have y20 := RawAt.cell r2 0
              have y21 := RawAt.cell r2 1
              simp at y10 y11 y20 y21
              have rr1 := r1
              have rr2 := r2
              have hW0 : Below wc.heap.size wc wc.drew := (Below.refl _ _).drew
              go_upto_region 6 with fail
              clear k1
              try clear k2
              try clear g1
              try clear g2
              go_region_with (first | (go_at_call 16; first | ((with_reducible refine (CW5.out _).mono ?_); rintro e w6 ⟨rfl, hb6⟩; have hW0 := hW0.trans (hb6.mono hW0.size); have rr1 := r1.below hW0 r1.lt; have rr2 := r2.below hW0 r2.lt; have y10 := RawAt.cell rr1 0; have y11 := RawAt.cell rr1 1; have y20 := RawAt.cell rr2 0; have y21 := RawAt.cell rr2 1; have f10 := RawAt.free rr1 0; have f11 := RawAt.free rr1 1; have f20 := RawAt.free rr2 0; have f21 := RawAt.free rr2 1; simp at y10 y11 y20 y21) | ((with_reducible refine (CW6.out _).mono ?_); rintro e w6 ⟨rfl, hb6⟩; have hW0 := hW0.trans (hb6.mono hW0.size); have rr1 := r1.below hW0 r1.lt; have rr2 := r2.below hW0 r2.lt; have y10 := RawAt.cell rr1 0; have y11 := RawAt.cell rr1 1; have y20 := RawAt.cell rr2 0; have y21 := RawAt.cell rr2 1; have f10 := RawAt.free rr1 0; have f11 := RawAt.free rr1 1; have f20 := RawAt.free rr2 0; have f21 := RawAt.free rr2 1; simp at y10 y11 y20 y21)))
              all_goals
                have R1 : RawAt 23 ((((w6.setCell ⟨w.heap.size, 0, none⟩ (.int .i64 (p - X))).setCell ⟨w.heap.size, 1, none⟩ (.int .i64 (b + d))).setCell ⟨w.heap.size + 1, 0, none⟩ (.int .i64 (p - X))).setCell ⟨w.heap.size + 1, 1, none⟩ (.int .i64 (c + d))) (w.heap.size) #[.int .i64 (p - X), .int .i64 (b + (d))] := ((((rr1.set_ 0 _).set_ 1 _).set_other (by omega) 0 _).set_other (by omega) 1 _).of_eq (by simp)
                have R2 : RawAt 23 ((((w6.setCell ⟨w.heap.size, 0, none⟩ (.int .i64 (p - X))).setCell ⟨w.heap.size, 1, none⟩ (.int .i64 (b + d))).setCell ⟨w.heap.size + 1, 0, none⟩ (.int .i64 (p - X))).setCell ⟨w.heap.size + 1, 1, none⟩ (.int .i64 (c + d))) (w.heap.size + 1) #[.int .i64 (p - X), .int .i64 (c + (d))] := ((((rr2.set_other (by omega) 0 _).set_other (by omega) 1 _).set_ 0 _).set_ 1 _).of_eq (by simp)
                have r3' := r3.below hW0 r3.lt
                have r4' := r4.below hW0 r4.lt
                have R3 : RawAt 23 ((((w6.setCell ⟨w.heap.size, 0, none⟩ (.int .i64 (p - X))).setCell ⟨w.heap.size, 1, none⟩ (.int .i64 (b + d))).setCell ⟨w.heap.size + 1, 0, none⟩ (.int .i64 (p - X))).setCell ⟨w.heap.size + 1, 1, none⟩ (.int .i64 (c + d))) (w.heap.size + 2) #[.int .i64 0, .int .i64 0] := ((((r3'.set_other (by omega) 0 _).set_other (by omega) 1 _).set_other (by omega) 0 _).set_other (by omega) 1 _)
                have R4 : RawAt 23 ((((w6.setCell ⟨w.heap.size, 0, none⟩ (.int .i64 (p - X))).setCell ⟨w.heap.size, 1, none⟩ (.int .i64 (b + d))).setCell ⟨w.heap.size + 1, 0, none⟩ (.int .i64 (p - X))).setCell ⟨w.heap.size + 1, 1, none⟩ (.int .i64 (c + d))) (w.heap.size + 3) #[.int .i64 0, .int .i64 0] := ((((r4'.set_other (by omega) 0 _).set_other (by omega) 1 _).set_other (by omega) 0 _).set_other (by omega) 1 _)
                have HBE : Hid (Below w.heap.size w ((((w6.setCell ⟨w.heap.size, 0, none⟩ (.int .i64 (p - X))).setCell ⟨w.heap.size, 1, none⟩ (.int .i64 (b + d))).setCell ⟨w.heap.size + 1, 0, none⟩ (.int .i64 (p - X))).setCell ⟨w.heap.size + 1, 1, none⟩ (.int .i64 (c + d)))) := Lib.hid (((((HB.out.trans (hW0.mono HB.out.size)).setCell (p := ⟨w.heap.size, 0, none⟩) (by simp) _).setCell (p := ⟨w.heap.size, 1, none⟩) (by simp) _).setCell (p := ⟨w.heap.size + 1, 0, none⟩) (by simp) _).setCell (p := ⟨w.heap.size + 1, 1, none⟩) (by simp) _)
                go_wp2_with fail
                go_roundg (gk - 1)
                case measure => omega
                case rel => exact ⟨j + 1, (p - X), d, by go_num, by omega, by omega, HD1, (by omega), HL1, HR1, R1, R2, R3, R4, HBE⟩
            · have k2 : decide (Y = 0) = false := decide_eq_false g2
              have CW5 := Lib.hid fun W => wiWider_any p (b + d) X Y W (by omega) (by omega) (by omega) (by omega) (by omega) (by omega) (by omega) (by omega)
              have CW6 := Lib.hid fun W => wiWider_any p (c + d) X Y W (by omega) (by omega) (by omega) (by omega) (by omega) (by omega) (by omega) (by omega)
              have HL1 := HZL
              have HR1 := HZR
              have HD1 := HR
              skip
              clear HZL HZR HR HT1 HT2
              have y10 := RawAt.cell r1 0
              have y11 := RawAt.cell r1 1
              have y20 := RawAt.cell r2 0
              have y21 := RawAt.cell r2 1
              simp at y10 y11 y20 y21
              have rr1 := r1
              have rr2 := r2
              have hW0 : Below wc.heap.size wc wc.drew := (Below.refl _ _).drew
              go_upto_region 6 with fail
              clear k1
              try clear k2
              try clear g1
              try clear g2
              go_region_with (first | (go_at_call 16; first | ((with_reducible refine (CW5.out _).mono ?_); rintro e w6 ⟨rfl, hb6⟩; have hW0 := hW0.trans (hb6.mono hW0.size); have rr1 := r1.below hW0 r1.lt; have rr2 := r2.below hW0 r2.lt; have y10 := RawAt.cell rr1 0; have y11 := RawAt.cell rr1 1; have y20 := RawAt.cell rr2 0; have y21 := RawAt.cell rr2 1; have f10 := RawAt.free rr1 0; have f11 := RawAt.free rr1 1; have f20 := RawAt.free rr2 0; have f21 := RawAt.free rr2 1; simp at y10 y11 y20 y21) | ((with_reducible refine (CW6.out _).mono ?_); rintro e w6 ⟨rfl, hb6⟩; have hW0 := hW0.trans (hb6.mono hW0.size); have rr1 := r1.below hW0 r1.lt; have rr2 := r2.below hW0 r2.lt; have y10 := RawAt.cell rr1 0; have y11 := RawAt.cell rr1 1; have y20 := RawAt.cell rr2 0; have y21 := RawAt.cell rr2 1; have f10 := RawAt.free rr1 0; have f11 := RawAt.free rr1 1; have f20 := RawAt.free rr2 0; have f21 := RawAt.free rr2 1; simp at y10 y11 y20 y21)))
              all_goals
                have R1 : RawAt 23 ((((w6.setCell ⟨w.heap.size, 0, none⟩ (.int .i64 (p - X))).setCell ⟨w.heap.size, 1, none⟩ (.int .i64 (b + d + Y))).setCell ⟨w.heap.size + 1, 0, none⟩ (.int .i64 (p - X))).setCell ⟨w.heap.size + 1, 1, none⟩ (.int .i64 (c + d + Y))) (w.heap.size) #[.int .i64 (p - X), .int .i64 (b + (d + Y))] := ((((rr1.set_ 0 _).set_ 1 _).set_other (by omega) 0 _).set_other (by omega) 1 _).of_eq (by simp [Int.add_assoc])
                have R2 : RawAt 23 ((((w6.setCell ⟨w.heap.size, 0, none⟩ (.int .i64 (p - X))).setCell ⟨w.heap.size, 1, none⟩ (.int .i64 (b + d + Y))).setCell ⟨w.heap.size + 1, 0, none⟩ (.int .i64 (p - X))).setCell ⟨w.heap.size + 1, 1, none⟩ (.int .i64 (c + d + Y))) (w.heap.size + 1) #[.int .i64 (p - X), .int .i64 (c + (d + Y))] := ((((rr2.set_other (by omega) 0 _).set_other (by omega) 1 _).set_ 0 _).set_ 1 _).of_eq (by simp [Int.add_assoc])
                have r3' := r3.below hW0 r3.lt
                have r4' := r4.below hW0 r4.lt
                have R3 : RawAt 23 ((((w6.setCell ⟨w.heap.size, 0, none⟩ (.int .i64 (p - X))).setCell ⟨w.heap.size, 1, none⟩ (.int .i64 (b + d + Y))).setCell ⟨w.heap.size + 1, 0, none⟩ (.int .i64 (p - X))).setCell ⟨w.heap.size + 1, 1, none⟩ (.int .i64 (c + d + Y))) (w.heap.size + 2) #[.int .i64 0, .int .i64 0] := ((((r3'.set_other (by omega) 0 _).set_other (by omega) 1 _).set_other (by omega) 0 _).set_other (by omega) 1 _)
                have R4 : RawAt 23 ((((w6.setCell ⟨w.heap.size, 0, none⟩ (.int .i64 (p - X))).setCell ⟨w.heap.size, 1, none⟩ (.int .i64 (b + d + Y))).setCell ⟨w.heap.size + 1, 0, none⟩ (.int .i64 (p - X))).setCell ⟨w.heap.size + 1, 1, none⟩ (.int .i64 (c + d + Y))) (w.heap.size + 3) #[.int .i64 0, .int .i64 0] := ((((r4'.set_other (by omega) 0 _).set_other (by omega) 1 _).set_other (by omega) 0 _).set_other (by omega) 1 _)
                have HBE : Hid (Below w.heap.size w ((((w6.setCell ⟨w.heap.size, 0, none⟩ (.int .i64 (p - X))).setCell ⟨w.heap.size, 1, none⟩ (.int .i64 (b + d + Y))).setCell ⟨w.heap.size + 1, 0, none⟩ (.int .i64 (p - X))).setCell ⟨w.heap.size + 1, 1, none⟩ (.int .i64 (c + d + Y)))) := Lib.hid (((((HB.out.trans (hW0.mono HB.out.size)).setCell (p := ⟨w.heap.size, 0, none⟩) (by simp) _).setCell (p := ⟨w.heap.size, 1, none⟩) (by simp) _).setCell (p := ⟨w.heap.size + 1, 0, none⟩) (by simp) _).setCell (p := ⟨w.heap.size + 1, 1, none⟩) (by simp) _)
                go_wp2_with fail
                go_roundg (gk - 1)
                case measure => omega
                case rel => exact ⟨j + 1, (p - X), d + Y, by go_num, by omega, by omega, HD1, (by omega), HL1, HR1, R1, R2, R3, R4, HBE⟩
    · obtain rfl : j = m + k := by omega
      have HL1 : Hid (WdL l o p) := Lib.hid (hzl.out.elim id fun h => wdcL_zero (by omega))
      have HR1 : Hid (WdR l o b c d) := Lib.hid (hzr.out.elim id fun h => wdcR_zero (by omega))
      have i2 : ¬ ((m + k : Nat) : Int) < ((m + k : Nat) : Int) := by omega
      clear hzl hzr
      have i3 : ¬ ((m : Int) + (k : Int)) < ((m + k : Nat) : Int) := by omega
      have y10 := RawAt.cell r1 0
      have y11 := RawAt.cell r1 1
      have y20 := RawAt.cell r2 0
      have y21 := RawAt.cell r2 1
      have y30 := RawAt.cell r3 0
      have y31 := RawAt.cell r3 1
      have y40 := RawAt.cell r4 0
      have y41 := RawAt.cell r4 1
      have f30 := RawAt.free r3 0
      have f31 := RawAt.free r3 1
      have f40 := RawAt.free r4 0
      have f41 := RawAt.free r4 1
      simp at y10 y11 y20 y21 y30 y31 y40 y41
      go_wp2_with fail
      go_region
      go_wp2_with fail
      rw [Exit.noGoto_ret]
      have R3 : RawAt 23 ((((((wr.setCell ⟨w.heap.size + 2, 0, none⟩ (.int .i64 p)).setCell ⟨w.heap.size + 2, 1, none⟩ (.int .i64 (b + d))).setCell ⟨w.heap.size + 3, 0, none⟩ (.int .i64 p)).setCell ⟨w.heap.size + 3, 1, none⟩ (.int .i64 (c + d))).drew)) (w.heap.size + 2) #[.int .i64 p, .int .i64 (b + d)] := (((((r3.set_ 0 _).set_ 1 _).set_other (by omega) 0 _).set_other (by omega) 1 _)).of_eq (by simp)
      have R4 : RawAt 23 ((((((wr.setCell ⟨w.heap.size + 2, 0, none⟩ (.int .i64 p)).setCell ⟨w.heap.size + 2, 1, none⟩ (.int .i64 (b + d))).setCell ⟨w.heap.size + 3, 0, none⟩ (.int .i64 p)).setCell ⟨w.heap.size + 3, 1, none⟩ (.int .i64 (c + d))).drew)) (w.heap.size + 3) #[.int .i64 p, .int .i64 (c + d)] := (((((r4.set_other (by omega) 0 _).set_other (by omega) 1 _).set_ 0 _).set_ 1 _)).of_eq (by simp)
      have z30 : ((((((wr.setCell ⟨w.heap.size + 2, 0, none⟩ (.int .i64 p)).setCell ⟨w.heap.size + 2, 1, none⟩ (.int .i64 (b + d))).setCell ⟨w.heap.size + 3, 0, none⟩ (.int .i64 p)).setCell ⟨w.heap.size + 3, 1, none⟩ (.int .i64 (c + d))).drew)).cell? ⟨w.heap.size + 1 + 1, 0, none⟩ = some (.int .i64 p) := RawAt.cell R3 0
      have z31 : ((((((wr.setCell ⟨w.heap.size + 2, 0, none⟩ (.int .i64 p)).setCell ⟨w.heap.size + 2, 1, none⟩ (.int .i64 (b + d))).setCell ⟨w.heap.size + 3, 0, none⟩ (.int .i64 p)).setCell ⟨w.heap.size + 3, 1, none⟩ (.int .i64 (c + d))).drew)).cell? ⟨w.heap.size + 1 + 1, 1, none⟩ = some (.int .i64 (b + d)) := RawAt.cell R3 1
      have z40 : ((((((wr.setCell ⟨w.heap.size + 2, 0, none⟩ (.int .i64 p)).setCell ⟨w.heap.size + 2, 1, none⟩ (.int .i64 (b + d))).setCell ⟨w.heap.size + 3, 0, none⟩ (.int .i64 p)).setCell ⟨w.heap.size + 3, 1, none⟩ (.int .i64 (c + d))).drew)).cell? ⟨w.heap.size + 1 + 1 + 1, 0, none⟩ = some (.int .i64 p) := RawAt.cell R4 0
      have z41 : ((((((wr.setCell ⟨w.heap.size + 2, 0, none⟩ (.int .i64 p)).setCell ⟨w.heap.size + 2, 1, none⟩ (.int .i64 (b + d))).setCell ⟨w.heap.size + 3, 0, none⟩ (.int .i64 p)).setCell ⟨w.heap.size + 3, 1, none⟩ (.int .i64 (c + d))).drew)).cell? ⟨w.heap.size + 1 + 1 + 1, 1, none⟩ = some (.int .i64 (c + d)) := RawAt.cell R4 1
      have HBE : Hid (Below w.heap.size w ((((((wr.setCell ⟨w.heap.size + 2, 0, none⟩ (.int .i64 p)).setCell ⟨w.heap.size + 2, 1, none⟩ (.int .i64 (b + d))).setCell ⟨w.heap.size + 3, 0, none⟩ (.int .i64 p)).setCell ⟨w.heap.size + 3, 1, none⟩ (.int .i64 (c + d))).drew))) := Lib.hid (((((hb.out.setCell (p := ⟨w.heap.size + 2, 0, none⟩) (by simp) _).setCell (p := ⟨w.heap.size + 2, 1, none⟩) (by simp) _).setCell (p := ⟨w.heap.size + 3, 0, none⟩) (by simp) _).setCell (p := ⟨w.heap.size + 3, 1, none⟩) (by simp) _).drew)
      refine bodyPost_ret (v := .tuple #[.agg #[.int .i64 p, .int .i64 (b + d)], .agg #[.int .i64 p, .int .i64 (c + d)]]) (by simp [results, Try.results10, go_sem, z30, z31, z40, z41]) rfl ⟨p, d, rfl, hwd.out, HL1.out, HR1.out, ⟨q0, q3⟩, HBE.out⟩
end Go.Proofs.Ytjkmkobnfhepaaa
