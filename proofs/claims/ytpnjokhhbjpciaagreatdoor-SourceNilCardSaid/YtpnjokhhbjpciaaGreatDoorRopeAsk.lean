/- A text's sizes ahead of a place: the contracts of rope.reach and of its closures. Ropes: how far a place is, as a closure tells it. Ropes: the sizes of what is ahead of a place: the contract of ahead. Ropes: places, bytes and breaks: the contracts of RuneAt, ByteAt, Behind, Ahead. -/
import Derived.Test.YtpnjokhhbjpciaaGreatDoorRopeA
import Derived.Lib.QuoteLoop
import Derived.Shelf.Abstract
import Derived.Test.YtpnjokhhbjpciaaGreatDoorRopePure
namespace Go.Proofs.YtpnjokhhbjpciaaGreatDoor
open Go.RowKit
/-- Three sizes of the first i runes. -/
def hcs (q : List Int) (i : Nat) : Array Value := #[.int .i64 (szl (q.take i) 0), .int .i64 (szl (q.take i) 1), .int .i64 (szl (q.take i) 2)]
theorem iter_off {w : World} {k b : Nat} {s : ByteArray} (p : Nat) {t : TypeId} {cs : Array Value} (h : RawAt t w b cs) (hne : b ≠ k) : RawAt t (w.iterAt k s p) b cs := (Lib.iterAt_other _ _ _ _ _ (by omega)).trans h
theorem hcs_zero (q : List Int) : hcs q 0 = #[.int .i64 0, .int .i64 0, .int .i64 0] := by unfold hcs; rw [List.take_zero, szl_nil, szl_nil, szl_nil]
theorem szl_one1 (r : Int) : szl [r] 1 = 1 := rfl
theorem szl_one2 (r : Int) : szl [r] 2 = if r = 10 then 1 else 0 := by
  unfold szl brks
  by_cases h : r = 10
  · subst h; rfl
  · simp [h]
theorem i32_10 (r : Int) (h : ¬ r = 10) : (r == 10) = false := by simpa using h
set_option maxHeartbeats 4000000 in
set_option maxRecDepth 100000 in
theorem reach_any (K : Nat) (caps : Array Value) (q : List Int) (hq : Cln q) (hz : q.length ≤ 1000000) (P : Nat → Bool) (w : World) (hK : ∀ (args : Array Value) (w : World), (callFunc K args).run Tryz.prog w = .ok (.enter K args) w)
    (CF : ∀ (i : Nat) (W : World), i < q.length → Below w.heap.size w W → Calls Tryz.prog K (#[.agg (hcs q i)] ++ caps) W fun e w' => e = .returned (.bool (P i)) ∧ Below W.heap.size W w') :
    Calls Tryz.prog 132 #[.string (txt q), .func (.func K) #[] caps] w fun e w' => ∃ i, i ≤ q.length ∧ (∀ j, j < i → P j = false) ∧ (i < q.length → P i = true) ∧ e = .returned (.agg (hcs q i)) ∧ Below w.heap.size w w' := by
  have HQ := Lib.hid hq
  have HF := Lib.hid CF
  clear hq CF
  go_enter Tryz.func132, Tryz.ntmps132
  go_wp2
  obtain ⟨hr0, hq0, hb0, hs0⟩ := new2 w 127 127 #[.int .i64 0, .int .i64 0, .int .i64 0] #[.int .i64 0, .int .i64 0, .int .i64 0]
  generalize ((w.alloc (.cells #[.int .i64 0, .int .i64 0, .int .i64 0] 127)).alloc (.cells #[.int .i64 0, .int .i64 0, .int .i64 0] 127)) = W1 at *
  have hI : (W1.iter (txt q) 0).heap[w.heap.size + 2]? = some (.stringIter (txt q) 0) := by rw [← hs0]; exact World.iter_heap W1 _ 0
  have hA : RawAt 127 (W1.iter (txt q) 0) w.heap.size #[.int .i64 0, .int .i64 0, .int .i64 0] := hr0.below ((Below.refl _ _).alloc (Nat.le_refl _) _) hr0.lt
  have hB : RawAt 127 (W1.iter (txt q) 0) (w.heap.size + 1) #[.int .i64 0, .int .i64 (szl (q.take 0) 1), .int .i64 (szl (q.take 0) 2)] := by rw [List.take_zero, szl_nil, szl_nil]; exact hq0.below ((Below.refl _ _).alloc (Nat.le_refl _) _) hq0.lt
  have hB0 : Below w.heap.size w (W1.iter (txt q) 0) := hb0.alloc hb0.size _
  have HI := Lib.hid hI
  have HA := Lib.hid hA
  have HB := Lib.hid hB
  have HS0 := Lib.hid hs0
  clear hI hA hB hr0 hq0 hb0 hs0
  go_loopg [] q.length (fun g wr => ∃ (i : Nat) (x : Int), i ≤ q.length ∧ q.length - i ≤ g ∧ Hid (∀ j, j < i → P j = false) ∧ Below w.heap.size w wr ∧ Hid (RawAt 127 wr w.heap.size #[.int .i64 0, .int .i64 0, .int .i64 0]) ∧ Hid (RawAt 127 wr (w.heap.size + 1) #[.int .i64 x, .int .i64 (szl (q.take i) 1), .int .i64 (szl (q.take i) 2)]) ∧ Hid (wr.heap[w.heap.size + 2]? = some (.stringIter (txt q) (encAll (q.take i)).length)))
  case atStart => exact ⟨0, 0, by omega, by omega, Lib.hid (fun _ h => absurd h (Nat.not_lt_zero _)), hB0, HA, HB, by simpa [encAll] using HI⟩
  case round =>
    obtain ⟨i, x, h1, h2, hP, hb, hA, hB, hI⟩ := hrel
    have hsz : w.heap.size + 2 < wr.heap.size := block_lt hI.out
    by_cases hlt : i < q.length
    · obtain ⟨hd, hp, hn, hr⟩ := iter_at HQ.out hlt
      have hnx : ∀ ty, (Instr.next (.pointer (some ⟨w.heap.size + 1 + 1, 0, none⟩)) true ty).run Tryz.prog wr = _ := fun ty => Lib.run_next_any_at wr (w.heap.size + 2) (txt q) _ ty hI.out hp
      rw [hd] at hnx
      simp only [hn, hr] at hnx
      have s1 := nth_szl hlt 1
      have s2 := nth_szl hlt 2
      rw [szl_one1] at s1
      rw [szl_one2] at s2
      have HS1 := Lib.hid s1
      have HS2 := Lib.hid s2
      have HF1 := Lib.hid fun (W : World) (hW : Below w.heap.size w W) => HF.out i W hlt hW
      have b1 : 0 ≤ szl (q.take i) 1 ∧ szl (q.take i) 1 ≤ 1000000 := by have := List.length_take_le i q; show 0 ≤ ((q.take i).length : Int) ∧ ((q.take i).length : Int) ≤ 1000000; omega
      have b2 : 0 ≤ szl (q.take i) 2 ∧ szl (q.take i) 2 ≤ 4000000 := by have h3 := szl_le (q.take i) 2; have h4 := szl_nonneg (q.take i) 2; have := List.length_take_le i q; omega
      have A2 := Lib.hid (iter_off (s := txt q) (k := w.heap.size + 2) (encAll (q.take (i + 1))).length hA.out (by omega))
      have B2 := Lib.hid (iter_off (s := txt q) (k := w.heap.size + 2) (encAll (q.take (i + 1))).length hB.out (by omega))
      have I2 := Lib.hid (Lib.iterAt_heap wr (w.heap.size + 2) (txt q) _ (encAll (q.take (i + 1))).length hI.out)
      have hb2 := Lib.below_iterAt hb (k := w.heap.size + 2) (by omega) (txt q) (encAll (q.take (i + 1))).length
      generalize wr.iterAt (w.heap.size + 2) (txt q) (encAll (q.take (i + 1))).length = W2 at *
      unfold hcs at HF1
      rw [show szl (q.take i) 0 = ((encAll (q.take i)).length : Int) from rfl] at HF1
      generalize hat : ((encAll (q.take i)).length : Int) = at_ at *
      clear hd hp hn hr s1 s2 hA hB hI hb hsz
      generalize hn1 : szl (q.take i) 1 = n1 at *
      generalize hn2 : szl (q.take i) 2 = n2 at *
      have HCS := Lib.hid (show hcs q i = #[.int .i64 at_, .int .i64 n1, .int .i64 n2] from by unfold hcs; rw [hn1, hn2, ← hat]; rfl)
      clear hat hn1 hn2
      generalize nth q i = r at *
      have y0 := RawAt.free B2.out 0
      have z0 := RawAt.cell B2.out 0
      have z1 := RawAt.cell B2.out 1
      have z2 := RawAt.cell B2.out 2
      simp at z0 z1 z2
      have a3 : Below w.heap.size w (W2.setCell ⟨w.heap.size + 1, 0, none⟩ (.int .i64 at_)) := hb2.setCell (p := ⟨w.heap.size + 1, 0, none⟩) (by simp) _
      have B3 := Lib.hid (RawAt.set_ B2.out 0 (.int .i64 at_))
      have A3 := Lib.hid (RawAt.set_other A2.out (by omega) (b' := w.heap.size + 1) 0 (.int .i64 at_))
      go_wp2_with fail
      refine (HF1.out _ a3).mono ?_
      rintro e w4 ⟨rfl, hb4⟩
      have hsz2 : w.heap.size + 2 < W2.heap.size := block_lt I2.out
      have I3 : (W2.setCell ⟨w.heap.size + 1, 0, none⟩ (.int .i64 at_)).heap[w.heap.size + 2]? = some (.stringIter (txt q) (encAll (q.take (i + 1))).length) := by
        rw [Below.heap_setCell W2 ⟨w.heap.size + 1, 0, none⟩ _ (w.heap.size + 2) (by simp)]; exact I2.out
      have a4 := a3.trans (hb4.mono a3.size)
      have I4 := Lib.hid ((hb4.block (w.heap.size + 2) (block_lt I3)).trans I3)
      have A4 := Lib.hid (RawAt.below A3.out hb4 (RawAt.lt A3.out))
      have B4 := Lib.hid (RawAt.below B3.out hb4 (RawAt.lt B3.out))
      have k0 := RawAt.cell B4.out 0
      have k1 := RawAt.cell B4.out 1
      have k2 := RawAt.cell B4.out 2
      simp at k0 k1 k2
      clear y0 z0 z1 z2 I3 hb2 A2 B2 I2 HF1
      by_cases hPi : P i = true
      · have f0 := RawAt.free A4.out 0
        have f1 := RawAt.free A4.out 1
        have f2 := RawAt.free A4.out 2
        have p0 := RawAt.cell A4.out 0
        have p1 := RawAt.cell A4.out 1
        have p2 := RawAt.cell A4.out 2
        simp at p0 p1 p2
        have HPi := Lib.hid hPi
        rw [HPi.out]
        clear hPi
        have RZ := (RawAt.set_ (RawAt.set_ (RawAt.set_ A4.out 0 (.int .i64 at_)) 1 (.int .i64 n1)) 2 (.int .i64 n2)).of_eq (show _ = #[.int .i64 at_, .int .i64 n1, .int .i64 n2] from by simp)
        have q0 := (RawAt.cell RZ 0).trans (show _ = some (Value.int .i64 at_) from rfl)
        have q1 := (RawAt.cell RZ 1).trans (show _ = some (Value.int .i64 n1) from rfl)
        have q2 := (RawAt.cell RZ 2).trans (show _ = some (Value.int .i64 n2) from rfl)
        clear RZ
        go_wp2
        refine bodyPost_ret (v := .agg (hcs q i)) (by rw [HCS.out]; simp [results, Tryz.results132, go_sem, q0, q1, q2]) rfl ⟨i, h1, hP.out, fun _ => HPi.out, rfl, ?_⟩
        (repeat' (first | (with_reducible exact a4) | (with_reducible refine Below.setCell ?_ ?_ _) | (with_reducible refine Below.drew ?_))) <;> first | exact Nat.le_refl _ | (simp; done)
      · have hPi : P i = false := by simpa using hPi
        have HPi := Lib.hid hPi
        rw [HPi.out]
        clear hPi
        have HP2 := Lib.hid (show ∀ j, j < i + 1 → P j = false from fun j hj => by
          by_cases e : j = i
          · subst e; exact HPi.out
          · exact hP.out j (by omega))
        have f1 := RawAt.free B4.out 1
        have f2 := RawAt.free B4.out 2
        by_cases h10 : r = 10
        · subst h10
          have e1 := HS1.out
          have e2 := HS2.out
          rw [if_pos rfl] at e2
          have E1 := Lib.hid e1
          have E2 := Lib.hid e2
          clear e1 e2
          go_wp2
          go_roundg (gk - 1)
          case measure => omega
          case rel =>
            refine ⟨i + 1, at_, hlt, by omega, HP2, ?_, ?_, ?_, ?_⟩
            · exact (a4.setCell (p := ⟨w.heap.size + 1, 1, none⟩) (by simp) _).setCell (p := ⟨w.heap.size + 1, 2, none⟩) (by simp) _
            · exact Lib.hid ((RawAt.set_other (RawAt.set_other A4.out (by omega) _ _) (by omega) _ _))
            · exact Lib.hid ((RawAt.set_ (RawAt.set_ B4.out 1 (.int .i64 (n1 + 1))) 2 (.int .i64 (n2 + 1))).of_eq (by simp [E1.out, E2.out]))
            · exact Lib.hid (by rw [Below.heap_setCell _ ⟨w.heap.size + 1, 2, none⟩ _ (w.heap.size + 2) (by simp), Below.heap_setCell _ ⟨w.heap.size + 1, 1, none⟩ _ (w.heap.size + 2) (by simp)]; exact I4.out)
        · have hrb := i32_10 r h10
          have e1 := HS1.out
          have e2 := HS2.out
          rw [if_neg h10, Int.add_zero] at e2
          have E1 := Lib.hid e1
          have E2 := Lib.hid e2
          clear e1 e2 h10
          go_wp2
          go_roundg (gk - 1)
          case measure => omega
          case rel =>
            refine ⟨i + 1, at_, hlt, by omega, HP2, ?_, ?_, ?_, ?_⟩
            · exact (a4.setCell (p := ⟨w.heap.size + 1, 1, none⟩) (by simp) _)
            · exact Lib.hid (RawAt.set_other A4.out (by omega) _ _)
            · exact Lib.hid ((RawAt.set_ B4.out 1 (.int .i64 (n1 + 1))).of_eq (by simp [E1.out, E2.out]))
            · exact Lib.hid (by rw [Below.heap_setCell _ ⟨w.heap.size + 1, 1, none⟩ _ (w.heap.size + 2) (by simp)]; exact I4.out)
    · have hi : i = q.length := by omega
      have hp : ¬ (encAll (q.take i)).length < (txt q).size := by rw [txt_size, hi, List.take_of_length_le (Nat.le_refl _)]; omega
      have hnx : ∀ ty, (Instr.next (.pointer (some ⟨w.heap.size + 1 + 1, 0, none⟩)) true ty).run Tryz.prog wr = _ := fun ty => Lib.run_next_end_at wr (w.heap.size + 2) (txt q) _ ty hI.out hp
      have HCS := Lib.hid (show hcs q i = #[.int .i64 ((txt q).size : Int), .int .i64 (szl (q.take i) 1), .int .i64 (szl (q.take i) 2)] from by
        unfold hcs
        rw [show szl (q.take i) 0 = ((txt q).size : Int) from by rw [txt_size, hi, List.take_of_length_le (Nat.le_refl _)]; rfl])
      clear hp hlt
      generalize szl (q.take i) 1 = n1 at *
      generalize szl (q.take i) 2 = n2 at *
      have y0 := RawAt.free hB.out 0
      have z0 := RawAt.cell hB.out 0
      have z1 := RawAt.cell hB.out 1
      have z2 := RawAt.cell hB.out 2
      have f0 := RawAt.free hA.out 0
      have f1 := RawAt.free hA.out 1
      have f2 := RawAt.free hA.out 2
      have p0 := RawAt.cell hA.out 0
      have p1 := RawAt.cell hA.out 1
      have p2 := RawAt.cell hA.out 2
      simp at z0 z1 z2 p0 p1 p2
      have RZ := (RawAt.set_ (RawAt.set_ (RawAt.set_ (RawAt.set_other hA.out (b' := w.heap.size + 1) (by omega) 0 (.int .i64 ((txt q).size : Int))) 0 (.int .i64 ((txt q).size : Int))) 1 (.int .i64 n1)) 2 (.int .i64 n2)).of_eq (show _ = #[.int .i64 ((txt q).size : Int), .int .i64 n1, .int .i64 n2] from by simp)
      have q0 := (RawAt.cell RZ 0).trans (show _ = some (Value.int .i64 ((txt q).size : Int)) from rfl)
      have q1 := (RawAt.cell RZ 1).trans (show _ = some (Value.int .i64 n1) from rfl)
      have q2 := (RawAt.cell RZ 2).trans (show _ = some (Value.int .i64 n2) from rfl)
      clear RZ
      go_wp2
      refine bodyPost_ret (v := .agg (hcs q i)) (by rw [HCS.out]; simp [results, Tryz.results132, go_sem, q0, q1, q2]) rfl ⟨i, h1, hP.out, fun h => by omega, rfl, ?_⟩
      (repeat' (first | (with_reducible exact hb) | (with_reducible refine Below.setCell ?_ ?_ _) | (with_reducible refine Below.drew ?_))) <;> first | exact Nat.le_refl _ | (simp; done)
/-- One of three. -/
def pick3 (a b c : Int) (d : Nat) : Int := if d = 0 then a else if d = 1 then b else c
/-- The closure's three variables. -/
def EnvA (w : World) (a0 a1 a2 : Int) (d : Nat) (v : Int) (b b2 b3 : Nat) : Prop := ∀ W, Below w.heap.size w W → RawAt 127 W b #[.int .i64 a0, .int .i64 a1, .int .i64 a2] ∧ W.cell? ⟨b2, 0, none⟩ = some (.int .i64 d) ∧ W.cell? ⟨b3, 0, none⟩ = some (.int .i64 v)
theorem EnvA.below {w w' : World} {a0 a1 a2 : Int} {d : Nat} {v : Int} {b b2 b3 : Nat} (h : EnvA w a0 a1 a2 d v b b2 b3) (hb : Below w.heap.size w w') : EnvA w' a0 a1 a2 d v b b2 b3 := fun W hW => h W (hb.trans (hW.mono hb.size))
set_option maxHeartbeats 4000000 in
set_option maxRecDepth 100000 in
theorem farA_any (a0 a1 a2 x y z v : Int) (d b b2 b3 : Nat) (w : World) (hd : d ≤ 2) (hE : EnvA w a0 a1 a2 d v b b2 b3) (k0 : 0 ≤ pick3 a0 a1 a2 d ∧ pick3 a0 a1 a2 d ≤ 1000000000) (k1 : 0 ≤ pick3 x y z d ∧ pick3 x y z d ≤ 1000000000) (fb : Bool) (hfb : fb = true ↔ v ≤ pick3 a0 a1 a2 d + pick3 x y z d) :
    Calls Tryz.prog 133 #[.agg #[.int .i64 x, .int .i64 y, .int .i64 z], .pointer (some ⟨b, 0, none⟩), .pointer (some ⟨b2, 0, none⟩), .pointer (some ⟨b3, 0, none⟩)] w fun e w' => e = .returned (.bool fb) ∧ Below w.heap.size w w' := by
  have hb1 : Below w.heap.size w (w.alloc (.cells #[.int .i64 x, .int .i64 y, .int .i64 z] 127)) := (Below.refl _ _).alloc (Nat.le_refl _) _
  obtain ⟨hA, c2, c3⟩ := hE _ hb1
  have r0 := RawAt.cell hA 0
  have r1 := RawAt.cell hA 1
  have r2 := RawAt.cell hA 2
  simp at r0 r1 r2
  have N0 : RawAt 127 (w.alloc (.cells #[.int .i64 x, .int .i64 y, .int .i64 z] 127)) w.heap.size #[.int .i64 x, .int .i64 y, .int .i64 z] := heap_alloc_new w _
  have s0 := RawAt.cell N0 0
  have s1 := RawAt.cell N0 1
  have s2 := RawAt.cell N0 2
  simp at s0 s1 s2
  have HF := Lib.hid hfb
  clear hA N0 hE hfb
  unfold pick3 at k0 k1 HF
  have HB := Lib.hid hb1
  clear hb1
  obtain rfl | rfl | rfl : d = 0 ∨ d = 1 ∨ d = 2 := by omega
  · have HF := Lib.hid (show fb = true ↔ v ≤ a0 + x from HF.out)
    have k0 : 0 ≤ a0 ∧ a0 ≤ 1000000000 := k0
    have k1 : 0 ≤ x ∧ x ≤ 1000000000 := k1
    obtain ⟨l0, u0⟩ := k0
    obtain ⟨l1, u1⟩ := k1
    have hw : IntKind.i64.wrap (a0 + x) = a0 + x := IntWalk.i64_in _ (by omega)
    by_cases hv : v ≤ a0 + x
    · have HX := Lib.hid (ab_yes HF.out hv)
      go_enter Tryz.func133, Tryz.ntmps133
      go_wp2
      go_region
      all_goals
        go_wp2
        go_ret
        exact ⟨ret_bool (by first | exact HX.out | exact (decide_eq_true hv).trans HX.out | simpa [hv] using HX.out), HB.out.drew⟩
    · have HX := Lib.hid (ab_no HF.out hv)
      go_enter Tryz.func133, Tryz.ntmps133
      go_wp2
      go_region
      all_goals
        go_wp2
        go_ret
        exact ⟨ret_bool (by first | exact HX.out | exact (decide_eq_false (by omega)).trans HX.out | simpa [hv] using HX.out), HB.out.drew⟩
  · have HF := Lib.hid (show fb = true ↔ v ≤ a1 + y from HF.out)
    have k0 : 0 ≤ a1 ∧ a1 ≤ 1000000000 := k0
    have k1 : 0 ≤ y ∧ y ≤ 1000000000 := k1
    obtain ⟨l0, u0⟩ := k0
    obtain ⟨l1, u1⟩ := k1
    have hw : IntKind.i64.wrap (a1 + y) = a1 + y := IntWalk.i64_in _ (by omega)
    by_cases hv : v ≤ a1 + y
    · have HX := Lib.hid (ab_yes HF.out hv)
      go_enter Tryz.func133, Tryz.ntmps133
      go_wp2
      go_region
      all_goals
        go_wp2
        go_ret
        exact ⟨ret_bool (by first | exact HX.out | exact (decide_eq_true hv).trans HX.out | simpa [hv] using HX.out), HB.out.drew⟩
    · have HX := Lib.hid (ab_no HF.out hv)
      go_enter Tryz.func133, Tryz.ntmps133
      go_wp2
      go_region
      all_goals
        go_wp2
        go_ret
        exact ⟨ret_bool (by first | exact HX.out | exact (decide_eq_false (by omega)).trans HX.out | simpa [hv] using HX.out), HB.out.drew⟩
  · have HF := Lib.hid (show fb = true ↔ v ≤ a2 + z from HF.out)
    have k0 : 0 ≤ a2 ∧ a2 ≤ 1000000000 := k0
    have k1 : 0 ≤ z ∧ z ≤ 1000000000 := k1
    obtain ⟨l0, u0⟩ := k0
    obtain ⟨l1, u1⟩ := k1
    have hw : IntKind.i64.wrap (a2 + z) = a2 + z := IntWalk.i64_in _ (by omega)
    by_cases hv : v ≤ a2 + z
    · have HX := Lib.hid (ab_yes HF.out hv)
      go_enter Tryz.func133, Tryz.ntmps133
      go_wp2
      go_region
      all_goals
        go_wp2
        go_ret
        exact ⟨ret_bool (by first | exact HX.out | exact (decide_eq_true hv).trans HX.out | simpa [hv] using HX.out), HB.out.drew⟩
    · have HX := Lib.hid (ab_no HF.out hv)
      go_enter Tryz.func133, Tryz.ntmps133
      go_wp2
      go_region
      all_goals
        go_wp2
        go_ret
        exact ⟨ret_bool (by first | exact HX.out | exact (decide_eq_false (by omega)).trans HX.out | simpa [hv] using HX.out), HB.out.drew⟩
/-- The piece at a place of the row; none behind all. -/
def pth (ps : List (List Int)) (m : Nat) : List Int := ps.getD m []
theorem pth_lt {ps : List (List Int)} {m : Nat} (h : m < ps.length) : pth ps m = ps[m] := by simp [pth, List.getD, h]
theorem pth_ge {ps : List (List Int)} {m : Nat} (h : ¬ m < ps.length) : pth ps m = [] := by simp [pth, List.getD, Nat.le_of_not_lt h]
theorem PsOk.pth_cln {ps : List (List Int)} (P : PsOk ps) (m : Nat) : Cln (pth ps m) ∧ (pth ps m).length ≤ 16 := by
  by_cases h : m < ps.length
  · rw [pth_lt h]; exact ⟨P.has _ (List.getElem_mem h), (P.one _ (List.getElem_mem h)).2⟩
  · rw [pth_ge h]; exact ⟨fun _ h => absurd h List.not_mem_nil, Nat.zero_le _⟩
theorem ith_pit {ps : List (List Int)} {m : Nat} (h : m < ps.length) : ith (ps.map pit) m = pit (pth ps m) := by
  rw [pth_lt h]; simp [ith, List.getD, h]
theorem pit_nil : pit [] = ⟨0, 0, 0, 0, 0, 0, ⟨#[]⟩⟩ := by unfold pit; rw [szl_nil, szl_nil, szl_nil]; rfl
section
variable {w : World} {b c : Nat} {row : Option Addr} {ps : List (List Int)} {h m : Nat}
/-- The cursor's item, behind all too. -/
theorem ritem_any (C : CAt TP w b c row (ps.map pit) h m) : Calls Tryz.prog 99 #[.pointer (some ⟨b, 0, none⟩)] w fun e w' => ∃ yes : Bool, e = .returned (.tuple #[.agg (ics (pit (pth ps m))), .bool yes]) ∧ Below w.heap.size w w' := by
  by_cases hm : m < ps.length
  · refine (citem_yes treeQo C (by rw [List.length_map]; exact hm)).mono ?_
    rintro e w' ⟨rfl, hb⟩
    rw [ith_pit hm]
    exact ⟨true, rfl, hb⟩
  · refine (citem_no treeQo C (by rw [List.length_map]; exact hm)).mono ?_
    rintro e w' ⟨rfl, hb⟩
    rw [pth_ge hm, pit_nil]
    exact ⟨false, rfl, hb⟩
end
/-- Where a size is so much at least: the piece, and the place in it. -/
theorem AheadIs.found {ps : List (List Int)} (P : PsOk ps) {d : Nat} (hd : d ≤ 2) {v : Int} {m i : Nat} (hf : FindIs (ps.map pit) d v 0 m) (hs : v ≤ szl ps.flatten d) (hi : i ≤ (pth ps m).length)
    (hno : ∀ j, j < i → szl (ps.take m).flatten d + szl ((pth ps m).take j) d < v) (hyes : i < (pth ps m).length → v ≤ szl (ps.take m).flatten d + szl ((pth ps m).take i) d) :
    AheadIs ps.flatten d v ((ps.take m).flatten.length + i) ∧ ∀ k, szl (ps.flatten.take ((ps.take m).flatten.length + i)) k = szl (ps.take m).flatten k + szl ((pth ps m).take i) k := by
  have hle := hf.le
  rw [List.length_map] at hle
  by_cases hm : m < ps.length
  · rw [pth_lt hm] at hi hno hyes ⊢
    have hy := hf.yes (by rw [List.length_map]; exact hm)
    rw [sdim_pit P (m + 1) hd] at hy
    have hy2 : v ≤ szl (ps.take m).flatten d + szl ps[m] d := by
      have e : (ps.take (m + 1)).flatten = (ps.take m).flatten ++ ps[m] := by rw [List.take_succ_eq_append_getElem hm, List.flatten_append]; simp
      rw [e, szl_append] at hy
      rcases hy with h | ⟨_, h⟩ <;> omega
    have hF : 0 < m → szl (ps.take m).flatten d < v := fun h0 => by
      have := hf.no (m - 1) (by omega)
      rw [sdim_pit P (m - 1 + 1) hd, show m - 1 + 1 = m from by omega] at this
      have h1 : ¬ (v < szl (ps.take m).flatten d) := fun h => this (.inl h)
      have h2 : ¬ (szl (ps.take m).flatten d = v) := fun h => this (.inr ⟨rfl, h⟩)
      omega
    refine ⟨AheadIs.within hm hi hno ?_ hF, fun k => ?_⟩
    · by_cases hlt : i < ps[m].length
      · exact hyes hlt
      · rw [List.take_of_length_le (l := ps[m]) (i := i) (by omega)]; exact hy2
    · rw [piece_split hm, List.take_length_add_append, List.take_append_of_le_length hi, szl_append]
  · have h0 : ps = [] := by
      rcases Nat.eq_zero_or_pos ps.length with h | h
      · exact List.eq_nil_of_length_eq_zero h
      · exfalso
        have := hf.no (ps.length - 1) (by omega)
        rw [sdim_pit P _ hd, show ps.length - 1 + 1 = ps.length from by omega, List.take_of_length_le (Nat.le_refl _)] at this
        apply this
        by_cases e : v < szl ps.flatten d
        · exact .inl e
        · exact .inr ⟨rfl, by omega⟩
    subst h0
    obtain rfl : m = 0 := by simpa using hle
    obtain rfl : i = 0 := by simpa [pth] using hi
    simp only [List.flatten_nil, List.take_nil, szl_nil, List.length_nil] at *
    exact ⟨⟨by simp, fun i hi => by omega, by rw [List.take_nil, szl_nil]; exact hs⟩, fun k => by simp [pth, szl_nil]⟩
theorem hK_far : ∀ (args : Array Value) (w : World), (callFunc 133 args).run Tryz.prog w = .ok (.enter 133 args) w := enters_of Tryz.func133 (by kernel_rfl) rfl
theorem pick3_szl (l : List Int) {d : Nat} (hd : d ≤ 2) : pick3 (szl l 0) (szl l 1) (szl l 2) d = szl l d := by
  obtain rfl | rfl | rfl : d = 0 ∨ d = 1 ∨ d = 2 := by omega
  all_goals rfl
/-- What the walk through a piece tells. -/
theorem rreach_any {ps : List (List Int)} (P : PsOk ps) {d : Nat} (hd : d ≤ 2) {v : Int} {m : Nat} (hf : FindIs (ps.map pit) d v 0 m) (hs : v ≤ szl ps.flatten d) (b b2 b3 : Nat) (w : World)
    (hE : EnvA w (szl (ps.take m).flatten 0) (szl (ps.take m).flatten 1) (szl (ps.take m).flatten 2) d v b b2 b3) :
    Calls Tryz.prog 132 #[.string (txt (pth ps m)), .func (.func 133) #[] #[.pointer (some ⟨b, 0, none⟩), .pointer (some ⟨b2, 0, none⟩), .pointer (some ⟨b3, 0, none⟩)]] w fun e w' => ∃ j, AheadIs ps.flatten d v j ∧ ∃ x y z, e = .returned (.agg #[.int .i64 x, .int .i64 y, .int .i64 z]) ∧ Below w.heap.size w w' ∧ szl (ps.flatten.take j) 0 = szl (ps.take m).flatten 0 + x ∧ szl (ps.flatten.take j) 1 = szl (ps.take m).flatten 1 + y ∧ szl (ps.flatten.take j) 2 = szl (ps.take m).flatten 2 + z := by
  obtain ⟨hc, hl⟩ := P.pth_cln m
  have bnd : ∀ l : List Int, l.length ≤ 20000 → ∀ k, 0 ≤ szl l k ∧ szl l k ≤ 1000000000 := fun l h k => by have := szl_le l k; have := szl_nonneg l k; omega
  have hml : (ps.take m).flatten.length ≤ 20000 := by
    have h1 : ps.flatten.length = (ps.take m).flatten.length + (ps.drop m).flatten.length := by
      conv => lhs; rw [← List.take_append_drop m ps, List.flatten_append, List.length_append]
    have := P.most
    omega
  refine (reach_any 133 #[.pointer (some ⟨b, 0, none⟩), .pointer (some ⟨b2, 0, none⟩), .pointer (some ⟨b3, 0, none⟩)] (pth ps m) hc (by omega) (fun i => decide (v ≤ szl (ps.take m).flatten d + szl ((pth ps m).take i) d)) w hK_far ?_).mono ?_
  · intro i W hi hW
    refine farA_any _ _ _ _ _ _ v d b b2 b3 W hd (hE.below hW) ?_ ?_ _ ?_
    · rw [pick3_szl _ hd]; exact bnd _ hml _
    · rw [pick3_szl _ hd]; exact bnd _ (by rw [List.length_take]; omega) _
    · rw [pick3_szl _ hd, pick3_szl _ hd, decide_eq_true_iff]
  · rintro e w' ⟨i, hi, hno, hyes, rfl, hb⟩
    obtain ⟨ha, hz⟩ := AheadIs.found P hd hf hs hi (fun j hj => by have := hno j hj; simpa using this) (fun h => by have := hyes h; simpa using this)
    exact ⟨_, ha, _, _, _, rfl, hb, hz 0, hz 1, hz 2⟩
section
variable {p : Option Addr} {ps : List (List Int)} {h : Nat} {w : World}
theorem fld_rd3 (a b c d e g : Int) (w : World) : (Instr.field 129 (.agg #[.int .i64 a, .int .i64 b, .int .i64 c, .int .i64 d, .int .i64 e, .int .i64 g]) 1).run Tryz.prog w = .ok (.agg #[.int .i64 b, .int .i64 c, .int .i64 d]) w := by kernel_rfl
set_option maxHeartbeats 4000000 in
set_option maxRecDepth 100000 in
theorem rahead_any (hr : RP w p ps h) (d : Nat) (hd : d ≤ 2) (v : Int) (hv : 0 ≤ v) (hs : v ≤ szl ps.flatten d) :
    Calls Tryz.prog 103 #[.pointer p, .int .i64 d, .int .i64 v] w fun e w' => ∃ j, AheadIs ps.flatten d v j ∧ e = .returned (.agg (hcs ps.flatten j)) ∧ Below w.heap.size w w' := by
  have hmf : ∀ (fn : Fn) (first cap : Array Value) (w : World), (Instr.makeFunc fn first cap).run Tryz.prog w = .ok (.func fn first cap) w := fun _ _ _ _ => rfl
  have HP := Lib.hid hr.1
  have C1 := Lib.hid fun (W : World) (hW : Below w.heap.size w W) => rto_any (hr.below hW) d hd v hv hs
  have HD := Lib.hid hd
  have HSS := Lib.hid hs
  clear hr hd hv hs
  have x0 := (Below.refl w.heap.size w).alloc (Nat.le_refl _) (.cells #[.int .i64 (d : Int)] 3)
  have x1 := x0.alloc x0.size (.cells #[.int .i64 v] 3)
  have x2 := x1.alloc x1.size (.cells #[.int .i64 0, .int .i64 0, .int .i64 0] 127)
  have e0 : ((w.alloc (.cells #[.int .i64 (d : Int)] 3)).alloc (.cells #[.int .i64 v] 3)).heap.size = w.heap.size + 1 + 1 := by simp
  have R0 : RawAt 3 (((w.alloc (.cells #[.int .i64 (d : Int)] 3)).alloc (.cells #[.int .i64 v] 3)).alloc (.cells #[.int .i64 0, .int .i64 0, .int .i64 0] 127)) w.heap.size #[.int .i64 (d : Int)] := RawAt.below (RawAt.below (heap_alloc_new w _) ((Below.refl _ _).alloc (Nat.le_refl _) _) (by simp)) ((Below.refl _ _).alloc (Nat.le_refl _) _) (by simp <;> omega)
  have R1 : RawAt 3 (((w.alloc (.cells #[.int .i64 (d : Int)] 3)).alloc (.cells #[.int .i64 v] 3)).alloc (.cells #[.int .i64 0, .int .i64 0, .int .i64 0] 127)) (w.heap.size + 1) #[.int .i64 v] := RawAt.below (new2 w _ _ _ _).2.1 ((Below.refl _ _).alloc (Nat.le_refl _) _) (by simp)
  have R2 : RawAt 127 (((w.alloc (.cells #[.int .i64 (d : Int)] 3)).alloc (.cells #[.int .i64 v] 3)).alloc (.cells #[.int .i64 0, .int .i64 0, .int .i64 0] 127)) (w.heap.size + 2) #[.int .i64 0, .int .i64 0, .int .i64 0] := by have := heap_alloc_new ((w.alloc (.cells #[.int .i64 (d : Int)] 3)).alloc (.cells #[.int .i64 v] 3)) (.cells #[.int .i64 0, .int .i64 0, .int .i64 0] 127); rw [e0] at this; exact this
  go_enter Tryz.func103, Tryz.ntmps103
  go_wp2_with fail
  generalize (((w.alloc (.cells #[.int .i64 (d : Int)] 3)).alloc (.cells #[.int .i64 v] 3)).alloc (.cells #[.int .i64 0, .int .i64 0, .int .i64 0] 127)) = W3 at *
  clear x0 x1 e0
  have HR0 := Lib.hid R0
  have HR1 := Lib.hid R1
  have HR2 := Lib.hid R2
  clear R0 R1 R2
  refine (C1.out _ x2).mono ?_
  rintro e w4 ⟨b, m, row, rfl, hf, hbs, hT, hC, hb4⟩
  have a4 := x2.trans (hb4.mono x2.size)
  have HFI := Lib.hid hf
  have C2 := Lib.hid (ritem_any hC)
  have C3 := Lib.hid fun (W : World) (hW : Below w4.heap.size w4 W) => cstart_any (hC.keep hW)
  have HZ := Lib.hid (sall_pit_take HP.out m)
  clear hf hT hC
  generalize hq : pth ps m = q at C2
  have HQ := Lib.hid hq; clear hq
  generalize sall ((ps.map pit).take m) = s at *
  generalize hx : pit q = x at *
  have HX := Lib.hid hx; clear hx
  unfold ics at C2
  unfold scs at C3
  go_wp2_with fail
  refine C2.out.mono ?_
  rintro e w5 ⟨yes, rfl, hb5⟩
  have a5 := a4.trans (hb5.mono a4.size)
  have q6 : Below w4.heap.size w4 (w5.alloc (.cells (ics x) 162)) := hb5.alloc hb5.size _
  have RX : RawAt 162 (w5.alloc (.cells (ics x) 162)) w5.heap.size (ics x) := heap_alloc_new w5 _
  unfold ics at q6 RX
  obtain ⟨xb, hxb⟩ : ∃ xb, xb = w5.heap.size := ⟨_, rfl⟩
  rw [← hxb] at RX
  have HXB := Lib.hid hxb
  clear hxb
  go_wp2_with fail
  rw [← HXB.out]
  generalize (w5.alloc (.cells #[.int .i64 x.tag, .int .i64 x.id, .int .i64 x.d0, .int .i64 x.d1, .int .i64 x.d2, .int .i64 x.mx, .string x.tx] 162)) = W6 at *
  have HRX := Lib.hid RX
  clear RX HXB
  have a6 := a4.trans (q6.mono a4.size)
  refine (C3.out _ q6).mono ?_
  rintro e w7 ⟨rfl, hb7⟩
  have HRX7 := Lib.hid (RawAt.below HRX.out hb7 (RawAt.lt HRX.out))
  have q7 := q6.trans (hb7.mono q6.size)
  have tf := fld_rd3
  have x8 : Below w7.heap.size w7 (w7.alloc (.cells #[.int .i64 s.d0, .int .i64 s.d1, .int .i64 s.d2] 127)) := (Below.refl _ _).alloc (Nat.le_refl _) _
  have HRX8 := Lib.hid (RawAt.below HRX7.out x8 (RawAt.lt HRX7.out))
  have RA : RawAt 127 (w7.alloc (.cells #[.int .i64 s.d0, .int .i64 s.d1, .int .i64 s.d2] 127)) w7.heap.size #[.int .i64 s.d0, .int .i64 s.d1, .int .i64 s.d2] := heap_alloc_new w7 _
  have q8 := q7.trans (x8.mono q7.size)
  obtain ⟨ab, hab⟩ : ∃ ab, ab = w7.heap.size := ⟨_, rfl⟩
  rw [← hab] at RA
  have hab4 : w4.heap.size ≤ ab := by rw [hab]; exact q7.size
  have HAB := Lib.hid hab
  clear hab
  have tx8 : (w7.alloc (.cells #[.int .i64 s.d0, .int .i64 s.d1, .int .i64 s.d2] 127)).cell? ⟨xb, 6, none⟩ = some (.string x.tx) := RawAt.cell HRX8.out 6
  go_wp2_with fail
  rw [← HAB.out]
  generalize (w7.alloc (.cells #[.int .i64 s.d0, .int .i64 s.d1, .int .i64 s.d2] 127)) = W8 at *
  have HRA := Lib.hid RA
  clear RA tx8
  have a8 := a4.trans (q8.mono a4.size)
  have HE : EnvA W8 s.d0 s.d1 s.d2 d v ab w.heap.size (w.heap.size + 1) := fun W hW => by
    have g3 : Below W3.heap.size W3 W := hb4.trans ((q8.trans (hW.mono q8.size)).mono hb4.size)
    exact ⟨RawAt.below HRA.out hW (RawAt.lt HRA.out), RawAt.cell (RawAt.below HR0.out g3 (RawAt.lt HR0.out)) 0, RawAt.cell (RawAt.below HR1.out g3 (RawAt.lt HR1.out)) 0⟩
  have CR := Lib.hid (rreach_any HP.out HD.out HFI.out HSS.out ab w.heap.size (w.heap.size + 1) W8 (by rw [← HZ.out.1, ← HZ.out.2.1, ← HZ.out.2.2]; exact HE))
  rw [← HZ.out.1, ← HZ.out.2.1, ← HZ.out.2.2, HQ.out, show txt q = x.tx from by rw [← HX.out]; rfl] at CR
  clear HE
  refine CR.out.mono ?_
  rintro e w9 ⟨j, hj, X, Y, Z, rfl, hb9, j0, j1, j2⟩
  have HJ := Lib.hid hj
  have HJ0 := Lib.hid j0
  have HJ1 := Lib.hid j1
  have HJ2 := Lib.hid j2
  clear hj j0 j1 j2 CR
  have x10 : Below w9.heap.size w9 (w9.alloc (.cells #[.int .i64 X, .int .i64 Y, .int .i64 Z] 127)) := (Below.refl _ _).alloc (Nat.le_refl _) _
  have RN : RawAt 127 (w9.alloc (.cells #[.int .i64 X, .int .i64 Y, .int .i64 Z] 127)) w9.heap.size #[.int .i64 X, .int .i64 Y, .int .i64 Z] := heap_alloc_new w9 _
  obtain ⟨nb, hnb⟩ : ∃ nb, nb = w9.heap.size := ⟨_, rfl⟩
  rw [← hnb] at RN
  have hnb8 : W8.heap.size ≤ nb := by rw [hnb]; exact hb9.size
  have HNB := Lib.hid hnb
  clear hnb
  have HRN := Lib.hid RN
  clear RN
  have a10 := a8.trans ((hb9.trans (x10.mono hb9.size)).mono a8.size)
  have R10 := Lib.hid (RawAt.below HR2.out (hb4.trans ((q8.trans ((hb9.trans (x10.mono hb9.size)).mono q8.size)).mono hb4.size)) (RawAt.lt HR2.out))
  have RA10 := Lib.hid (RawAt.below HRA.out (hb9.trans (x10.mono hb9.size)) (RawAt.lt HRA.out))
  have hx0 := fun W => idx3_0 X Y Z W
  have hx1 := fun W => idx3_1 X Y Z W
  have hx2 := fun W => idx3_2 X Y Z W
  have bnd : ∀ k, 0 ≤ szl (ps.flatten.take j) k ∧ szl (ps.flatten.take j) k ≤ 1000000000 := fun k => by
    have h1 := szl_le (ps.flatten.take j) k
    have h2 := szl_nonneg (ps.flatten.take j) k
    have h3 := List.length_take_le j ps.flatten
    have h4 := HP.out.most
    have h5 : (ps.flatten.take j).length ≤ ps.flatten.length := by rw [List.length_take]; omega
    omega
  have b0 := bnd 0
  have b1 := bnd 1
  have b2 := bnd 2
  rw [HJ0.out] at b0
  rw [HJ1.out] at b1
  rw [HJ2.out] at b2
  clear bnd
  have hw0 : IntKind.i64.wrap (s.d0 + X) = s.d0 + X := IntWalk.i64_in _ (by omega)
  have hw1 : IntKind.i64.wrap (s.d1 + Y) = s.d1 + Y := IntWalk.i64_in _ (by omega)
  have hw2 : IntKind.i64.wrap (s.d2 + Z) = s.d2 + Z := IntWalk.i64_in _ (by omega)
  go_wp2_with fail
  generalize (w9.alloc (.cells #[.int .i64 X, .int .i64 Y, .int .i64 Z] 127)) = W10 at *
  have habw : w.heap.size + 3 ≤ ab := by have := RawAt.lt HR2.out; have := hb4.size; omega
  go_loopg [31] 3 (fun g i wr => ∃ k : Nat, i = .int .i64 k ∧ k ≤ 3 ∧ 3 - k ≤ g ∧ Below w.heap.size w wr ∧ Hid (RawAt 127 wr (w.heap.size + 2) #[.int .i64 0, .int .i64 0, .int .i64 0]) ∧ ((k = 0 ∧ Hid (RawAt 127 wr ab #[.int .i64 s.d0, .int .i64 s.d1, .int .i64 s.d2])) ∨ (k = 1 ∧ Hid (RawAt 127 wr ab #[.int .i64 (s.d0 + X), .int .i64 s.d1, .int .i64 s.d2])) ∨ (k = 2 ∧ Hid (RawAt 127 wr ab #[.int .i64 (s.d0 + X), .int .i64 (s.d1 + Y), .int .i64 s.d2])) ∨ (k = 3 ∧ Hid (RawAt 127 wr ab #[.int .i64 (s.d0 + X), .int .i64 (s.d1 + Y), .int .i64 (s.d2 + Z)]))))
  case atStart => exact ⟨0, rfl, by omega, by omega, a10, R10, .inl ⟨rfl, RA10⟩⟩
  case round =>
    obtain ⟨k, rfl, h1, h2, hb, hR, ⟨rfl, hA⟩ | ⟨rfl, hA⟩ | ⟨rfl, hA⟩ | ⟨rfl, hA⟩⟩ := hrel
    · have f0 := RawAt.free hA.out 0
      have c0 := RawAt.cell hA.out 0
      simp at c0
      go_wp2
      go_roundg (gk - 1)
      case measure => omega
      case rel => exact ⟨1, rfl, by omega, by omega, hb.setCell (p := ⟨ab, 0, none⟩) (by simp; omega) _, Lib.hid (RawAt.set_other hR.out (by omega) _ _), .inr (.inl ⟨rfl, Lib.hid ((RawAt.set_ hA.out 0 (.int .i64 (s.d0 + X))).of_eq (by simp))⟩)⟩
    · have f1 := RawAt.free hA.out 1
      have c1 := RawAt.cell hA.out 1
      simp at c1
      go_wp2
      go_roundg (gk - 1)
      case measure => omega
      case rel => exact ⟨2, rfl, by omega, by omega, hb.setCell (p := ⟨ab, 1, none⟩) (by simp; omega) _, Lib.hid (RawAt.set_other hR.out (by omega) _ _), .inr (.inr (.inl ⟨rfl, Lib.hid ((RawAt.set_ hA.out 1 (.int .i64 (s.d1 + Y))).of_eq (by simp))⟩))⟩
    · have f2 := RawAt.free hA.out 2
      have c2 := RawAt.cell hA.out 2
      simp at c2
      go_wp2
      go_roundg (gk - 1)
      case measure => omega
      case rel => exact ⟨3, rfl, by omega, by omega, hb.setCell (p := ⟨ab, 2, none⟩) (by simp; omega) _, Lib.hid (RawAt.set_other hR.out (by omega) _ _), .inr (.inr (.inr ⟨rfl, Lib.hid ((RawAt.set_ hA.out 2 (.int .i64 (s.d2 + Z))).of_eq (by simp))⟩))⟩
    · have c0 := RawAt.cell hA.out 0
      have c1 := RawAt.cell hA.out 1
      have c2 := RawAt.cell hA.out 2
      have f0 := RawAt.free hR.out 0
      have f1 := RawAt.free hR.out 1
      have f2 := RawAt.free hR.out 2
      have p0 := RawAt.cell hR.out 0
      have p1 := RawAt.cell hR.out 1
      have p2 := RawAt.cell hR.out 2
      simp at c0 c1 c2 p0 p1 p2
      have RZ := (RawAt.set_ (RawAt.set_ (RawAt.set_ hR.out 0 (.int .i64 (s.d0 + X))) 1 (.int .i64 (s.d1 + Y))) 2 (.int .i64 (s.d2 + Z))).of_eq (show _ = #[.int .i64 (s.d0 + X), .int .i64 (s.d1 + Y), .int .i64 (s.d2 + Z)] from by simp)
      have q0 := (RawAt.cell RZ 0).trans (show _ = some (Value.int .i64 (s.d0 + X)) from rfl)
      have q1 := (RawAt.cell RZ 1).trans (show _ = some (Value.int .i64 (s.d1 + Y)) from rfl)
      have q2 := (RawAt.cell RZ 2).trans (show _ = some (Value.int .i64 (s.d2 + Z)) from rfl)
      clear RZ
      go_wp2
      refine bodyPost_ret (v := .agg #[.int .i64 (s.d0 + X), .int .i64 (s.d1 + Y), .int .i64 (s.d2 + Z)]) (by simp [results, Tryz.results103, go_sem, q0, q1, q2]) rfl ⟨j, HJ.out, by unfold hcs; rw [HJ0.out, HJ1.out, HJ2.out], ?_⟩
      (repeat' (first | (with_reducible exact hb) | (with_reducible refine Below.setCell ?_ ?_ _) | (with_reducible refine Below.drew ?_))) <;> (simp <;> omega)
end
/-- What is told of a place, by a size of what is ahead of it. -/
def SizeIs (l : List Int) (k : Nat) (at_ a e : Int) : Prop := (¬ (0 ≤ at_ ∧ at_ ≤ l.length) ∧ a = 0 ∧ e = 1) ∨ (0 ≤ at_ ∧ at_ ≤ l.length ∧ a = szl (l.take at_.toNat) k ∧ e = 0)
theorem SizeIs.unique {l : List Int} {k : Nat} {t a e a' e' : Int} (h : SizeIs l k t a e) (g : SizeIs l k t a' e') : a = a' ∧ e = e' := by
  rcases h with ⟨h1, rfl, rfl⟩ | ⟨h1, h2, rfl, rfl⟩ <;> rcases g with ⟨g1, rfl, rfl⟩ | ⟨g1, g2, rfl, rfl⟩
  · exact ⟨rfl, rfl⟩
  · exact absurd ⟨g1, g2⟩ h1
  · exact absurd ⟨h1, h2⟩ g1
  · exact ⟨rfl, rfl⟩
section
variable {p : Option Addr} {ps : List (List Int)} {h : Nat} {w : World}
set_option maxHeartbeats 2000000 in
set_option maxRecDepth 100000 in
theorem raheadOf_any (hr : RP w p ps h) (at_ : Int) : Calls Tryz.prog 93 #[.pointer p, .int .i64 at_] w fun e w' => ∃ a c, SizeIs ps.flatten 2 at_ a c ∧ e = .returned (.tuple #[.int .i64 a, .int .i64 c]) ∧ Below w.heap.size w w' := by
  by_cases hp : 0 ≤ at_ ∧ at_ ≤ ps.flatten.length
  · have C1 := Lib.hid (place_any hr at_ true ⟨fun _ => hp, fun _ => rfl⟩)
    have C2 := Lib.hid fun (W : World) (hW : Below w.heap.size w W) => rahead_any (hr.below hW) 1 (by omega) at_ hp.1 hp.2
    have H := Lib.hid (show ∀ j, AheadIs ps.flatten 1 at_ j → SizeIs ps.flatten 2 at_ (szl (ps.flatten.take j) 2) 0 from fun j hj => by
      have e : at_.toNat = j := by
        have h2 := AheadIs.runes (l := ps.flatten) (v := at_.toNat) (by omega)
        rw [show ((at_.toNat : Nat) : Int) = at_ from by omega] at h2
        exact h2.unique hj
      exact .inr ⟨hp.1, hp.2, by rw [e], rfl⟩)
    have hx0 := fun (a b c : Int) W => idx3_0 a b c W
    have hx2 := fun (a b c : Int) W => idx3_2 a b c W
    clear hr hp
    unfold hcs at C2
    go_enter Tryz.func93, Tryz.ntmps93
    go_wp2_with fail
    refine C1.out.mono ?_
    rintro e w1 ⟨rfl, hb1⟩
    go_wp2_with fail
    refine (C2.out _ hb1).mono ?_
    rintro e w2 ⟨j, hj, rfl, hb2⟩
    have HJ := Lib.hid (H.out j hj)
    clear hj
    have a2 := hb1.trans (hb2.mono hb1.size)
    generalize szl (ps.flatten.take j) 0 = x0 at *
    generalize szl (ps.flatten.take j) 1 = x1 at *
    generalize szl (ps.flatten.take j) 2 = x2 at *
    go_wp2
    refine bodyPost_ret (v := .tuple #[.int .i64 x2, .int .i64 0]) (by simp [results, Tryz.results93, go_sem]) rfl ⟨_, _, HJ.out, rfl, a2⟩
  · have C1 := Lib.hid (place_any hr at_ false ⟨fun e => absurd e (by simp), fun e => absurd e hp⟩)
    have H := Lib.hid (show SizeIs ps.flatten 2 at_ 0 1 from .inl ⟨hp, rfl, rfl⟩)
    clear hr hp
    go_enter Tryz.func93, Tryz.ntmps93
    go_wp2_with fail
    refine C1.out.mono ?_
    rintro e w1 ⟨rfl, hb1⟩
    go_wp2
    refine bodyPost_ret (v := .tuple #[.int .i64 0, .int .i64 1]) (by simp [results, Tryz.results93, go_sem]) rfl ⟨_, _, H.out, rfl, hb1⟩
set_option maxHeartbeats 2000000 in
set_option maxRecDepth 100000 in
theorem behind_any (hr : RP w p ps h) (at_ : Int) : Calls Tryz.prog 94 #[.pointer p, .int .i64 at_] w fun e w' => ∃ a c, BehindIs ps.flatten at_ a c ∧ e = .returned (.tuple #[.int .i64 a, .int .i64 c]) ∧ Below w.heap.size w w' := by
  have C1 := Lib.hid (rbreaks_any hr)
  by_cases h0 : at_ < 0
  · have H := Lib.hid (show BehindIs ps.flatten at_ 0 1 from .inl ⟨fun h => by omega, rfl, rfl⟩)
    clear hr
    go_enter Tryz.func94, Tryz.ntmps94
    go_wp2
    refine bodyPost_ret (v := .tuple #[.int .i64 0, .int .i64 1]) (by simp [results, Tryz.results94, go_sem]) rfl ⟨_, _, H.out, rfl, Below.refl _ _⟩
  · by_cases h1 : (brks ps.flatten : Int) < at_
    · have H := Lib.hid (show BehindIs ps.flatten at_ 0 1 from .inl ⟨fun h => by omega, rfl, rfl⟩)
      clear hr
      generalize (brks ps.flatten : Int) = n at *
      go_enter Tryz.func94, Tryz.ntmps94
      go_wp2_with fail
      refine C1.out.mono ?_
      rintro e w1 ⟨rfl, hb1⟩
      go_wp2
      refine bodyPost_ret (v := .tuple #[.int .i64 0, .int .i64 1]) (by simp [results, Tryz.results94, go_sem]) rfl ⟨_, _, H.out, rfl, hb1⟩
    · have C2 := Lib.hid fun (W : World) (hW : Below w.heap.size w W) => rahead_any (hr.below hW) 2 (by omega) at_ (by omega) (show at_ ≤ szl ps.flatten 2 from by first | omega | (show at_ ≤ (brks ps.flatten : Int); omega))
      have HG := Lib.hid (show 0 ≤ at_ ∧ at_ ≤ (brks ps.flatten : Int) from ⟨by omega, by omega⟩)
      have hx0 := fun (a b c : Int) W => idx3_0 a b c W
      have hx1 := fun (a b c : Int) W => idx3_1 a b c W
      clear hr
      unfold hcs at C2
      generalize hn : (brks ps.flatten : Int) = n at *
      have HN := Lib.hid hn; clear hn
      go_enter Tryz.func94, Tryz.ntmps94
      go_wp2_with fail
      refine C1.out.mono ?_
      rintro e w1 ⟨rfl, hb1⟩
      go_wp2_with fail
      refine (C2.out _ hb1).mono ?_
      rintro e w2 ⟨j, hj, rfl, hb2⟩
      have HJ := Lib.hid hj
      clear hj
      have a2 := hb1.trans (hb2.mono hb1.size)
      have H := Lib.hid (show BehindIs ps.flatten at_ (szl (ps.flatten.take j) 1) 0 from .inr ⟨HG.out.1, by rw [HN.out]; exact HG.out.2, j, HJ.out, by show ((ps.flatten.take j).length : Int) = j; rw [List.length_take]; have := HJ.out.le; omega, rfl⟩)
      generalize szl (ps.flatten.take j) 0 = x0 at *
      generalize szl (ps.flatten.take j) 1 = x1 at *
      generalize szl (ps.flatten.take j) 2 = x2 at *
      go_wp2
      refine bodyPost_ret (v := .tuple #[.int .i64 x1, .int .i64 0]) (by simp [results, Tryz.results94, go_sem]) rfl ⟨_, _, H.out, rfl, a2⟩
end
end Go.Proofs.YtpnjokhhbjpciaaGreatDoor
