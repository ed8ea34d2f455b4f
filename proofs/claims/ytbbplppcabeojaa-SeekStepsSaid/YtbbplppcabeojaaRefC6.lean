/- The document's own cursor (package bodkinref06). -/
import Derived.Test.YtbbplppcabeojaaSeekP
import Derived.Test.YtbbplppcabeojaaRefAsks
import Derived.Test.YtbbplppcabeojaaItCut
import Derived.Test.YtbbplppcabeojaaItOwn
import Derived.Test.YtbbplppcabeojaaOwnBase
import Derived.Test.YtbbplppcabeojaaSeekB
import Derived.Deep.AppendLies
namespace Go.Proofs.Ytbbplppcabeojaa
open Go.RowKit
theorem fld_p6 (k n a b c m p : Int) (w : World) : (Instr.field 137 (.agg #[.int .i64 k, .int .i64 n, .int .i64 a, .int .i64 b, .int .i64 c, .int .i64 m, .int .i64 p]) 0).run Try.prog w = .ok (.int .i64 k) w := by kernel_rfl
/-- The cells of the document's cursor. -/
def rcs (A : Option Addr) (n c k : Nat) : Array Value := #[.slice A n c, .int .i64 k]
set_option maxHeartbeats 4000000 in
set_option maxRecDepth 100000 in
theorem rto_yes (b : Nat) (A : Option Addr) (n c k : Nat) (l : List I7) (dim v bias : Int) (w : World) (hr : RawAt 44 w b (rcs A n c k)) (hA : ItsAt w A l) (hl : l.length = n) (hn : n ≤ 100000) (hc : n ≤ c) (ho : Okl l) (hq : AskOk l dim v bias) :
    Calls Try.prog 65 #[.pointer (some ⟨b, 0, none⟩), .int .i64 dim, .agg #[.int .i64 v, .int .i64 bias]] w fun e w' => ∃ m, FindIs l dim.toNat v bias m ∧ e = .returned (.bool true) ∧ RawAt 44 w' b (rcs A n c m) ∧ Off b b w w' := by
  have hbs := RawAt.lt hr
  have q0 : Below w.heap.size w (w.alloc (.cells #[.int .i64 v, .int .i64 bias] 36)) := (Below.refl _ _).alloc (Nat.le_refl _) _
  have X0 := Lib.hid (show RawAt 36 (w.alloc (.cells #[.int .i64 v, .int .i64 bias] 36)) w.heap.size #[.int .i64 v, .int .i64 bias] from heap_alloc_new w _)
  have d3 : dim.toNat ≤ 3 := by have h1 := hq.1; have h2 := hq.2.1; omega
  have hdz : ((dim.toNat : Nat) : Int) = dim := Int.toNat_of_nonneg hq.1
  have CA := Lib.hid fun (W : World) (hW : Below w.heap.size w W) => asks_any A n c l dim v bias W (hA.below hW) hl hn ho true ⟨fun _ => hq, fun _ => rfl⟩
  have CF := Lib.hid fun (W : World) (hW : Below w.heap.size w W) => rfind_any A n c l dim.toNat v bias W (hA.below hW) hl hn hc ho d3
  rw [hdz] at CF
  unfold pcs at CF
  have hfp := fld_p6
  have HR := Lib.hid fun (W : World) (hW : Below w.heap.size w W) => RawAt.below hr hW hbs
  have c0 : w.cell? ⟨b, 0, none⟩ = some (.slice A n c) := RawAt.cell hr 0
  have c1 : w.cell? ⟨b, 1, none⟩ = some (.int .i64 k) := RawAt.cell hr 1
  clear hr hA ho hq d3 hdz
  go_enter Try.func65, Try.ntmps65
  go_wp2_with fail
  generalize (w.alloc (.cells #[.int .i64 v, .int .i64 bias] 36)) = W0 at *
  obtain ⟨x, hx⟩ : ∃ x, x = w.heap.size := ⟨_, rfl⟩
  rw [← hx] at X0 ⊢
  have HX := Lib.hid hx; clear hx
  have hr0 := HR.out _ q0
  have MK : Hid (∀ W, Below W0.heap.size W0 W → W.cell? ⟨b, 0, none⟩ = some (.slice A n c) ∧ W.cell? ⟨b, 1, none⟩ = some (.int .i64 k) ∧ W.cell? ⟨x, 0, none⟩ = some (.int .i64 v) ∧ W.cell? ⟨x, 1, none⟩ = some (.int .i64 bias) ∧ Below W0.heap.size W0 W) := fun W hW => by
    have h1 := RawAt.below hr0 hW (RawAt.lt hr0)
    have h2 := RawAt.below X0.out hW (RawAt.lt X0.out)
    exact ⟨RawAt.cell h1 0, RawAt.cell h1 1, RawAt.cell h2 0, RawAt.cell h2 1, hW⟩
  have HR0 := Lib.hid fun (W : World) (hW : Below W0.heap.size W0 W) => RawAt.below hr0 hW (RawAt.lt hr0)
  have hW2 : Below W0.heap.size W0 W0.drew := (Below.refl _ _).drew
  clear hr0 X0 c0 c1
  go_region_held3 (fun W => W.cell? ⟨b, 0, none⟩ = some (.slice A n c) ∧ W.cell? ⟨b, 1, none⟩ = some (.int .i64 k) ∧ W.cell? ⟨x, 0, none⟩ = some (.int .i64 v) ∧ W.cell? ⟨x, 1, none⟩ = some (.int .i64 bias) ∧ Below W0.heap.size W0 W) (first | (with_reducible exact MK.out _ hW2) | (with_reducible exact MK.out _ (Below.refl _ _)) | go_keep)
    (first
      | (go_at_call 97; ((with_reducible refine (CA.out _ (q0.trans (hW2.mono q0.size))).mono ?_); rintro e w2 ⟨rfl, hb2⟩); have hW2 := hW2.trans (hb2.mono hW2.size)))
  go_wp2_with fail
  obtain ⟨m1, m2, m3, m4, hw2⟩ := MK.out _ hW2
  generalize w2 = W2 at *
  have hW3 : Below W0.heap.size W0 W2.drew := hW2.drew
  go_region_with (first
    | (go_at_call 98; ((with_reducible refine (CF.out _ (q0.trans (hW3.mono q0.size))).mono ?_); rintro e w3 ⟨m, hf, rfl, hb3⟩); have hW4 := hW3.trans (hb3.mono hW3.size); have R4 := HR0.out _ hW4; have y1 := RawAt.free R4 1; have y0 := RawAt.free R4 0; obtain ⟨z0, z1, _⟩ := MK.out _ hW4))
  all_goals
    have a4 := q0.trans (hW4.mono q0.size)
    have k1 := (R4.set_ 1 (.int .i64 m)).of_eq (show _ = rcs A n c m from by simp [rcs])
    have K1 := Lib.hid k1
    have K2 := Lib.hid ((Off.of (b := b) (c := b) a4).set 1 (.int .i64 m))
    have HF := Lib.hid hf
    clear k1 hf hW2 hW3 hW4 hb3 R4 y0 y1 z0 z1
    go_wp2
    go_ret
    exact ⟨m, HF.out, rfl, K1.out, K2.out⟩
set_option maxHeartbeats 4000000 in
set_option maxRecDepth 100000 in
theorem rto_no (b : Nat) (A : Option Addr) (n c k : Nat) (l : List I7) (dim v bias : Int) (w : World) (hr : RawAt 44 w b (rcs A n c k)) (hA : ItsAt w A l) (hl : l.length = n) (hn : n ≤ 100000) (ho : Okl l) (hq : ¬ AskOk l dim v bias) :
    Calls Try.prog 65 #[.pointer (some ⟨b, 0, none⟩), .int .i64 dim, .agg #[.int .i64 v, .int .i64 bias]] w fun e w' => e = .returned (.bool false) ∧ Below w.heap.size w w' := by
  have hbs := RawAt.lt hr
  have q0 : Below w.heap.size w (w.alloc (.cells #[.int .i64 v, .int .i64 bias] 36)) := (Below.refl _ _).alloc (Nat.le_refl _) _
  have X0 := Lib.hid (show RawAt 36 (w.alloc (.cells #[.int .i64 v, .int .i64 bias] 36)) w.heap.size #[.int .i64 v, .int .i64 bias] from heap_alloc_new w _)
  have CA := Lib.hid fun (W : World) (hW : Below w.heap.size w W) => asks_any A n c l dim v bias W (hA.below hW) hl hn ho false ⟨fun h => absurd h (by simp), fun h => absurd h hq⟩
  have HR := Lib.hid fun (W : World) (hW : Below w.heap.size w W) => RawAt.below hr hW hbs
  have c0 : w.cell? ⟨b, 0, none⟩ = some (.slice A n c) := RawAt.cell hr 0
  have c1 : w.cell? ⟨b, 1, none⟩ = some (.int .i64 k) := RawAt.cell hr 1
  clear hr hA ho hq
  go_enter Try.func65, Try.ntmps65
  go_wp2_with fail
  generalize (w.alloc (.cells #[.int .i64 v, .int .i64 bias] 36)) = W0 at *
  obtain ⟨x, hx⟩ : ∃ x, x = w.heap.size := ⟨_, rfl⟩
  rw [← hx] at X0 ⊢
  have HX := Lib.hid hx; clear hx
  have hr0 := HR.out _ q0
  have MK : Hid (∀ W, Below W0.heap.size W0 W → W.cell? ⟨b, 0, none⟩ = some (.slice A n c) ∧ W.cell? ⟨b, 1, none⟩ = some (.int .i64 k) ∧ W.cell? ⟨x, 0, none⟩ = some (.int .i64 v) ∧ W.cell? ⟨x, 1, none⟩ = some (.int .i64 bias) ∧ Below W0.heap.size W0 W) := fun W hW => by
    have h1 := RawAt.below hr0 hW (RawAt.lt hr0)
    have h2 := RawAt.below X0.out hW (RawAt.lt X0.out)
    exact ⟨RawAt.cell h1 0, RawAt.cell h1 1, RawAt.cell h2 0, RawAt.cell h2 1, hW⟩
  have hW2 : Below W0.heap.size W0 W0.drew := (Below.refl _ _).drew
  clear hr0 X0 c0 c1
  go_region_held3 (fun W => W.cell? ⟨b, 0, none⟩ = some (.slice A n c) ∧ W.cell? ⟨b, 1, none⟩ = some (.int .i64 k) ∧ W.cell? ⟨x, 0, none⟩ = some (.int .i64 v) ∧ W.cell? ⟨x, 1, none⟩ = some (.int .i64 bias) ∧ Below W0.heap.size W0 W) (first | (with_reducible exact MK.out _ hW2) | (with_reducible exact MK.out _ (Below.refl _ _)) | go_keep)
    (first
      | (go_at_call 97; ((with_reducible refine (CA.out _ (q0.trans (hW2.mono q0.size))).mono ?_); rintro e w2 ⟨rfl, hb2⟩); have hW2 := hW2.trans (hb2.mono hW2.size)))
  go_wp2
  go_ret
  exact ⟨rfl, q0.trans (hW2.mono q0.size)⟩
set_option maxHeartbeats 4000000 in
set_option maxRecDepth 100000 in
theorem rstart_any (b : Nat) (A : Option Addr) (n c k : Nat) (l : List I7) (w : World) (hr : RawAt 44 w b (rcs A n c k)) (hA : ItsAt w A l) (hl : l.length = n) (hn : n ≤ 100000) (hc : n ≤ c) (ho : Okl l) (hk : k ≤ n) :
    Calls Try.prog 63 #[.pointer (some ⟨b, 0, none⟩)] w fun e w' => e = .returned (.agg (scs (sall (l.take k)))) ∧ Below w.heap.size w w' := by
  obtain ⟨i0, hi0, _, _, _⟩ := info_parts ritem_info
  have hbs := RawAt.lt hr
  have c0 : w.cell? ⟨b, 0, none⟩ = some (.slice A n c) := RawAt.cell hr 0
  have c1 : w.cell? ⟨b, 1, none⟩ = some (.int .i64 k) := RawAt.cell hr 1
  have s2 := fun W : World => cut_front (P := Try.prog) Try.underlying30 hi0 A n c k (by omega) W
  have CR := Lib.hid fun (W : World) (hW : Below w.heap.size w W) => rall_any A k c (l.take k) W ((hA.front k).below hW) (by rw [List.length_take, hl]; omega) (by omega) (ho.take_ k)
  clear hr hA ho
  generalize sall (l.take k) = s at *
  unfold scs at *
  go_enter Try.func63, Try.ntmps63
  have q0 : Below w.heap.size w (w.alloc (.cells (scs s0) 93)) := (Below.refl _ _).alloc (Nat.le_refl _) _
  have R0 := Lib.hid (show RawAt 93 (w.alloc (.cells (scs s0) 93)) w.heap.size (scs s0) from heap_alloc_new w _)
  unfold scs s0 at q0
  have RR := Lib.hid fun (W : World) (hW : Below (w.alloc (.cells (scs s0) 93)).heap.size (w.alloc (.cells (scs s0) 93)) W) => RawAt.below R0.out hW (RawAt.lt R0.out)
  unfold scs s0 at RR
  go_wp2_with fail
  have hW2 : Below (w.alloc (.cells #[.int .i64 0, .int .i64 0, .int .i64 0, .int .i64 0, .int .i64 0, .int .i64 0] 93)).heap.size (w.alloc (.cells #[.int .i64 0, .int .i64 0, .int .i64 0, .int .i64 0, .int .i64 0, .int .i64 0] 93)) (w.alloc (.cells #[.int .i64 0, .int .i64 0, .int .i64 0, .int .i64 0, .int .i64 0, .int .i64 0] 93)).drew := (Below.refl _ _).drew
  go_region_with (first
    | (go_at_call 59; ((with_reducible refine (CR.out _ (q0.trans (hW2.mono q0.size))).mono ?_); rintro e w3 ⟨rfl, hb3⟩); have hW4 := hW2.trans (hb3.mono hW2.size); have R4 := RR.out _ hW4; have y0 := RawAt.free R4 0; have y1 := RawAt.free R4 1; have y2 := RawAt.free R4 2; have y3 := RawAt.free R4 3; have y4 := RawAt.free R4 4; have y5 := RawAt.free R4 5; obtain ⟨z0, z1, z2, z3, z4, z5⟩ := raw_scs (s := s0) R4))
  all_goals
    have a4 := q0.trans (hW4.mono q0.size)
    simp only [s0] at z0 z1 z2 z3 z4 z5
    clear hW2 hW4 hb3 R4 RR CR R0
    go_wp2
    refine bodyPost_ret (v := .agg #[.int .i64 s.n, .int .i64 s.d0, .int .i64 s.d1, .int .i64 s.d2, .int .i64 s.mx, .int .i64 s.pl]) (by simp [results, Try.results63, go_sem, z0, z1, z2, z3, z4, z5]) rfl ⟨rfl, ?_⟩
    (repeat' (first | (with_reducible exact a4) | (with_reducible refine Below.setCell ?_ ?_ _) | (with_reducible refine Below.drew ?_))) <;> first | exact Nat.le_refl _ | (simp; done)
set_option maxHeartbeats 4000000 in
set_option maxRecDepth 100000 in
theorem rend_no (b : Nat) (A : Option Addr) (n c k : Nat) (l : List I7) (w : World) (hr : RawAt 44 w b (rcs A n c k)) (hA : ItsAt w A l) (hl : l.length = n) (hn : n ≤ 100000) (hc : n ≤ c) (ho : Okl l) (hk : k = n) :
    Calls Try.prog 64 #[.pointer (some ⟨b, 0, none⟩)] w fun e w' => e = .returned (.agg (scs (sall (l.take k)))) ∧ Below w.heap.size w w' := by
  have hbs := RawAt.lt hr
  have CS := Lib.hid fun (W : World) (hW : Below w.heap.size w W) => rstart_any b A n c k l W (RawAt.below hr hW hbs) (hA.below hW) hl hn hc ho (by omega)
  have c0 : w.cell? ⟨b, 0, none⟩ = some (.slice A n c) := RawAt.cell hr 0
  have c1 : w.cell? ⟨b, 1, none⟩ = some (.int .i64 k) := RawAt.cell hr 1
  have hd : (k : Int) = (n : Int) := by omega
  rw [hd] at c1
  clear hr hA ho hd hk
  generalize sall (l.take k) = s at *
  unfold scs at *
  have q0 : Below w.heap.size w (w.alloc (.cells (scs s0) 93)) := (Below.refl _ _).alloc (Nat.le_refl _) _
  have R0 := Lib.hid (show RawAt 93 (w.alloc (.cells (scs s0) 93)) w.heap.size (scs s0) from heap_alloc_new w _)
  unfold scs s0 at q0
  have RR := Lib.hid fun (W : World) (hW : Below (w.alloc (.cells (scs s0) 93)).heap.size (w.alloc (.cells (scs s0) 93)) W) => RawAt.below R0.out hW (RawAt.lt R0.out)
  unfold scs s0 at RR
  go_enter Try.func64, Try.ntmps64
  go_wp2_with fail
  go_region
  go_wp2_with fail
  have hW2 : Below (w.alloc (.cells #[.int .i64 0, .int .i64 0, .int .i64 0, .int .i64 0, .int .i64 0, .int .i64 0] 93)).heap.size (w.alloc (.cells #[.int .i64 0, .int .i64 0, .int .i64 0, .int .i64 0, .int .i64 0, .int .i64 0] 93)) (w.alloc (.cells #[.int .i64 0, .int .i64 0, .int .i64 0, .int .i64 0, .int .i64 0, .int .i64 0] 93)).drew := (Below.refl _ _).drew
  refine (CS.out _ (q0.trans (hW2.mono q0.size))).mono ?_
  rintro e w3 ⟨rfl, hb3⟩
  have hW4 := hW2.trans (hb3.mono hW2.size)
  have R4 := RR.out _ hW4
  have y0 := RawAt.free R4 0; have y1 := RawAt.free R4 1; have y2 := RawAt.free R4 2; have y3 := RawAt.free R4 3; have y4 := RawAt.free R4 4; have y5 := RawAt.free R4 5; obtain ⟨z0, z1, z2, z3, z4, z5⟩ := raw_scs (s := s0) R4
  · have a4 := q0.trans (hW4.mono q0.size)
    simp only [s0] at z0 z1 z2 z3 z4 z5
    clear hW2 hW4 hb3 R4 RR CS R0
    go_wp2
    refine bodyPost_ret (v := .agg #[.int .i64 s.n, .int .i64 s.d0, .int .i64 s.d1, .int .i64 s.d2, .int .i64 s.mx, .int .i64 s.pl]) (by simp [results, Try.results64, go_sem, z0, z1, z2, z3, z4, z5]) rfl ⟨rfl, ?_⟩
    (repeat' (first | (with_reducible exact a4) | (with_reducible refine Below.setCell ?_ ?_ _) | (with_reducible refine Below.drew ?_))) <;> first | exact Nat.le_refl _ | (simp; done)
set_option maxHeartbeats 4000000 in
set_option maxRecDepth 100000 in
theorem rend_yes (b : Nat) (A : Option Addr) (n c k : Nat) (l : List I7) (w : World) (hr : RawAt 44 w b (rcs A n c k)) (hA : ItsAt w A l) (hl : l.length = n) (hn : n ≤ 100000) (hc : n ≤ c) (ho : Okl l) (hk : k < n) :
    Calls Try.prog 64 #[.pointer (some ⟨b, 0, none⟩)] w fun e w' => e = .returned (.agg (scs (sall (l.take (k + 1))))) ∧ Below w.heap.size w w' := by
  obtain ⟨i0, hi0, _, _, _⟩ := info_parts ritem_info
  have hbs := RawAt.lt hr
  have c0 : w.cell? ⟨b, 0, none⟩ = some (.slice A n c) := RawAt.cell hr 0
  have c1 : w.cell? ⟨b, 1, none⟩ = some (.int .i64 k) := RawAt.cell hr 1
  have hw1 : IntKind.i64.wrap ((k : Int) + 1) = (k : Int) + 1 := IntWalk.i64_in _ (by omega)
  have hd2 : ((k : Int) == (n : Int)) = false := by simp; omega
  have hd3 : ¬ ((k : Int) = (n : Int)) := by omega
  have s2 : ∀ W : World, (Instr.slice 30 (.slice A n c) none (some (.int .i64 ((k : Int) + 1))) none).run Try.prog W = .ok (.slice A (k + 1) c) W := fun W => by
    have := cut_front (P := Try.prog) Try.underlying30 hi0 A n c (k + 1) (by omega) W
    rwa [show ((k + 1 : Nat) : Int) = (k : Int) + 1 from by omega] at this
  have CR := Lib.hid fun (W : World) (hW : Below w.heap.size w W) => rall_any A (k + 1) c (l.take (k + 1)) W ((hA.front (k + 1)).below hW) (by rw [List.length_take, hl]; omega) (by omega) (ho.take_ (k + 1))
  clear hr hA ho
  generalize sall (l.take (k + 1)) = s at *
  unfold scs at *
  have q0 : Below w.heap.size w (w.alloc (.cells (scs s0) 93)) := (Below.refl _ _).alloc (Nat.le_refl _) _
  have R0 := Lib.hid (show RawAt 93 (w.alloc (.cells (scs s0) 93)) w.heap.size (scs s0) from heap_alloc_new w _)
  unfold scs s0 at q0
  have RR := Lib.hid fun (W : World) (hW : Below (w.alloc (.cells (scs s0) 93)).heap.size (w.alloc (.cells (scs s0) 93)) W) => RawAt.below R0.out hW (RawAt.lt R0.out)
  unfold scs s0 at RR
  go_enter Try.func64, Try.ntmps64
  go_wp2_with fail
  go_region
  go_wp2_with fail
  have hW2 : Below (w.alloc (.cells #[.int .i64 0, .int .i64 0, .int .i64 0, .int .i64 0, .int .i64 0, .int .i64 0] 93)).heap.size (w.alloc (.cells #[.int .i64 0, .int .i64 0, .int .i64 0, .int .i64 0, .int .i64 0, .int .i64 0] 93)) (w.alloc (.cells #[.int .i64 0, .int .i64 0, .int .i64 0, .int .i64 0, .int .i64 0, .int .i64 0] 93)).drew.drew := (Below.refl _ _).drew.drew
  go_region_with (first
    | (go_at_call 59; ((with_reducible refine (CR.out _ (q0.trans (hW2.mono q0.size))).mono ?_); rintro e w3 ⟨rfl, hb3⟩); have hW4 := hW2.trans (hb3.mono hW2.size); have R4 := RR.out _ hW4; have y0 := RawAt.free R4 0; have y1 := RawAt.free R4 1; have y2 := RawAt.free R4 2; have y3 := RawAt.free R4 3; have y4 := RawAt.free R4 4; have y5 := RawAt.free R4 5; obtain ⟨z0, z1, z2, z3, z4, z5⟩ := raw_scs (s := s0) R4))
  all_goals
    have a4 := q0.trans (hW4.mono q0.size)
    simp only [s0] at z0 z1 z2 z3 z4 z5
    clear hW2 hW4 hb3 R4 RR CR R0
    go_wp2
    refine bodyPost_ret (v := .agg #[.int .i64 s.n, .int .i64 s.d0, .int .i64 s.d1, .int .i64 s.d2, .int .i64 s.mx, .int .i64 s.pl]) (by simp [results, Try.results64, go_sem, z0, z1, z2, z3, z4, z5]) rfl ⟨rfl, ?_⟩
    (repeat' (first | (with_reducible exact a4) | (with_reducible refine Below.setCell ?_ ?_ _) | (with_reducible refine Below.drew ?_))) <;> first | exact Nat.le_refl _ | (simp; done)
theorem fld_d4 (n a b c m p : Int) (w : World) : (Instr.field 93 (.agg #[.int .i64 n, .int .i64 a, .int .i64 b, .int .i64 c, .int .i64 m, .int .i64 p]) 1).run Try.prog w = .ok (.agg #[.int .i64 a, .int .i64 b, .int .i64 c]) w := by kernel_rfl
set_option maxHeartbeats 4000000 in
set_option maxRecDepth 100000 in
theorem rtake_none (b : Nat) (dim v : Int) (hd : ¬ (0 ≤ dim ∧ dim ≤ 3)) (w : World) : Calls Try.prog 66 #[.pointer (some ⟨b, 0, none⟩), .int .i64 dim, .int .i64 v] w fun e w' => e = .returned (.slice none 0 0) ∧ Below w.heap.size w w' := by
  by_cases g1 : dim < 0
  · clear hd
    have hz : decide ((0 : Int) ≤ dim) = false := decide_eq_false (by omega)
    have hz' : ¬ (0 : Int) ≤ dim := by omega
    go_enter Try.func66, Try.ntmps66
    go_wp2
    go_loopg [7] 1 (fun g vv wr => vv = .slice none 0 0 ∧ 1 ≤ g ∧ Below w.heap.size w wr)
    case atStart => exact ⟨rfl, Nat.le_refl _, Below.refl _ _⟩
    case round =>
      obtain ⟨rfl, _, hb⟩ := hrel
      go_wp2_with fail
      refine wp_region_noPanic ?_
      refine wp_region_held_drew (S := fun W => Below w.heap.size w W) (by kernel_rfl) (hb.drew) (fun hHeld => ?_)
      refine wpAnyH_take (i := 0) (v := ?_) rfl (by kernel_rfl) (by kernel_rfl) (by kernel_rfl) (fun _ _ _ h => h) (Or.inl ⟨by rfl, ?_⟩) hHeld ?_
      rotate_left
      · intro w hSw
        (try dsimp only at hSw)
        go_simp
        try with_reducible rfl
      go_simp
      refine wpAnyH_take (i := 1) (v := ?_) rfl (by kernel_rfl) (by kernel_rfl) (by kernel_rfl) (fun _ _ _ h => h) (Or.inl ⟨by rfl, ?_⟩) hHeld ?_
      rotate_left
      · intro w hSw
        (try dsimp only at hSw)
        go_simp
        try with_reducible rfl
      go_simp
      refine wpAnyH_take (i := 2) (v := ?_) rfl (by kernel_rfl) (by kernel_rfl) (by kernel_rfl) (fun _ _ _ h => h) (Or.inl ⟨by rfl, ?_⟩) hHeld ?_
      rotate_left
      · intro w hSw
        (try dsimp only at hSw)
        go_simp
        try with_reducible rfl
      go_simp
      refine wpAnyH_take (i := 3) (v := undef) rfl (by kernel_rfl) (by kernel_rfl) (by kernel_rfl) (fun _ _ _ h => h) (Or.inr ⟨by rfl, rfl⟩) hHeld ?_
      go_simp
      refine wpAnyH_take (i := 4) (v := undef) rfl (by kernel_rfl) (by kernel_rfl) (by kernel_rfl) (fun _ _ _ h => h) (Or.inr ⟨by rfl, rfl⟩) hHeld ?_
      go_simp
      refine wpAnyH_take (i := 5) (v := ?_) rfl (by kernel_rfl) (by kernel_rfl) (by kernel_rfl) (fun _ _ _ h => h) (Or.inl ⟨by rfl, ?_⟩) hHeld ?_
      rotate_left
      · intro w hSw
        (try dsimp only at hSw)
        go_simp
        try with_reducible rfl
      go_simp
      refine wpAnyH_take (i := 6) (v := ?_) rfl (by kernel_rfl) (by kernel_rfl) (by kernel_rfl) (fun _ _ _ h => h) (Or.inl ⟨by rfl, ?_⟩) hHeld ?_
      rotate_left
      · intro w hSw
        (try dsimp only at hSw)
        go_simp
        try with_reducible rfl
      go_simp
      refine wpAnyH_take (i := 7) (v := undef) rfl (by kernel_rfl) (by kernel_rfl) (by kernel_rfl) (fun _ _ _ h => h) (Or.inr ⟨by rfl, rfl⟩) hHeld ?_
      go_simp
      refine wpAnyH_take (i := 8) (v := undef) rfl (by kernel_rfl) (by kernel_rfl) (by kernel_rfl) (fun _ _ _ h => h) (Or.inr ⟨by rfl, rfl⟩) hHeld ?_
      go_simp
      refine wpAnyH_take (i := 9) (v := undef) rfl (by kernel_rfl) (by kernel_rfl) (by kernel_rfl) (fun _ _ _ h => h) (Or.inr ⟨by rfl, rfl⟩) hHeld ?_
      go_simp
      refine wpAnyH_take (i := 10) (v := undef) rfl (by kernel_rfl) (by kernel_rfl) (by kernel_rfl) (fun _ _ _ h => h) (Or.inr ⟨by rfl, rfl⟩) hHeld ?_
      go_simp
      refine wpAnyH_take (i := 11) (v := undef) rfl (by kernel_rfl) (by kernel_rfl) (by kernel_rfl) (fun _ _ _ h => h) (Or.inr ⟨by rfl, rfl⟩) hHeld ?_
      go_simp
      refine wpAnyH_take (i := 12) (v := undef) rfl (by kernel_rfl) (by kernel_rfl) (by kernel_rfl) (fun _ _ _ h => h) (Or.inr ⟨by rfl, rfl⟩) hHeld ?_
      go_simp
      refine wpAnyH_take (i := 13) (v := undef) rfl (by kernel_rfl) (by kernel_rfl) (by kernel_rfl) (fun _ _ _ h => h) (Or.inr ⟨by rfl, rfl⟩) hHeld ?_
      go_simp
      refine wpAnyH_take (i := 14) (v := undef) rfl (by kernel_rfl) (by kernel_rfl) (by kernel_rfl) (fun _ _ _ h => h) (Or.inr ⟨by rfl, rfl⟩) hHeld ?_
      go_simp
      refine wpAnyH_take (i := 15) (v := undef) rfl (by kernel_rfl) (by kernel_rfl) (by kernel_rfl) (fun _ _ _ h => h) (Or.inr ⟨by rfl, rfl⟩) hHeld ?_
      go_simp
      refine wpAnyH_take (i := 16) (v := undef) rfl (by kernel_rfl) (by kernel_rfl) (by kernel_rfl) (fun _ _ _ h => h) (Or.inr ⟨by rfl, rfl⟩) hHeld ?_
      go_simp
      refine wpAnyH_take (i := 17) (v := ?_) rfl (by kernel_rfl) (by kernel_rfl) (by kernel_rfl) (fun _ _ _ h => h) (Or.inl ⟨by rfl, ?_⟩) hHeld ?_
      rotate_left
      · intro w hSw
        (try dsimp only at hSw)
        go_simp
        try with_reducible rfl
      go_simp
      refine wpAnyH_done (by kernel_rfl) ?_ _
      refine NoPanic.normal ?_
      go_wp2
      go_ret
      exact ⟨rfl, hHeld⟩
  · have g2 : ¬ dim < 4 := by omega
    have hz : decide ((0 : Int) ≤ dim) = true := decide_eq_true (by omega)
    have hz' : (0 : Int) ≤ dim := by omega
    have hz4 : decide (dim < 4) = false := decide_eq_false g2
    clear hd
    go_enter Try.func66, Try.ntmps66
    go_wp2
    go_loopg [7] 1 (fun g vv wr => vv = .slice none 0 0 ∧ 1 ≤ g ∧ Below w.heap.size w wr)
    case atStart => exact ⟨rfl, Nat.le_refl _, Below.refl _ _⟩
    case round =>
      obtain ⟨rfl, _, hb⟩ := hrel
      go_wp2_with fail
      refine wp_region_noPanic ?_
      refine wp_region_held_drew (S := fun W => Below w.heap.size w W) (by kernel_rfl) (hb.drew) (fun hHeld => ?_)
      refine wpAnyH_take (i := 0) (v := ?_) rfl (by kernel_rfl) (by kernel_rfl) (by kernel_rfl) (fun _ _ _ h => h) (Or.inl ⟨by rfl, ?_⟩) hHeld ?_
      rotate_left
      · intro w hSw
        (try dsimp only at hSw)
        go_simp
        try with_reducible rfl
      go_simp
      refine wpAnyH_take (i := 1) (v := ?_) rfl (by kernel_rfl) (by kernel_rfl) (by kernel_rfl) (fun _ _ _ h => h) (Or.inl ⟨by rfl, ?_⟩) hHeld ?_
      rotate_left
      · intro w hSw
        (try dsimp only at hSw)
        go_simp
        try with_reducible rfl
      go_simp
      refine wpAnyH_take (i := 2) (v := ?_) rfl (by kernel_rfl) (by kernel_rfl) (by kernel_rfl) (fun _ _ _ h => h) (Or.inl ⟨by rfl, ?_⟩) hHeld ?_
      rotate_left
      · intro w hSw
        (try dsimp only at hSw)
        go_simp
        try with_reducible rfl
      go_simp
      refine wpAnyH_take (i := 3) (v := ?_) rfl (by kernel_rfl) (by kernel_rfl) (by kernel_rfl) (fun _ _ _ h => h) (Or.inl ⟨by rfl, ?_⟩) hHeld ?_
      rotate_left
      · intro w hSw
        (try dsimp only at hSw)
        go_simp
        try with_reducible rfl
      go_simp
      refine wpAnyH_take (i := 4) (v := ?_) rfl (by kernel_rfl) (by kernel_rfl) (by kernel_rfl) (fun _ _ _ h => h) (Or.inl ⟨by rfl, ?_⟩) hHeld ?_
      rotate_left
      · intro w hSw
        (try dsimp only at hSw)
        go_simp
        try with_reducible rfl
      go_simp
      refine wpAnyH_take (i := 5) (v := ?_) rfl (by kernel_rfl) (by kernel_rfl) (by kernel_rfl) (fun _ _ _ h => h) (Or.inl ⟨by rfl, ?_⟩) hHeld ?_
      rotate_left
      · intro w hSw
        (try dsimp only at hSw)
        go_simp
        try with_reducible rfl
      go_simp
      refine wpAnyH_take (i := 6) (v := ?_) rfl (by kernel_rfl) (by kernel_rfl) (by kernel_rfl) (fun _ _ _ h => h) (Or.inl ⟨by rfl, ?_⟩) hHeld ?_
      rotate_left
      · intro w hSw
        (try dsimp only at hSw)
        go_simp
        try with_reducible rfl
      go_simp
      refine wpAnyH_take (i := 7) (v := undef) rfl (by kernel_rfl) (by kernel_rfl) (by kernel_rfl) (fun _ _ _ h => h) (Or.inr ⟨by rfl, rfl⟩) hHeld ?_
      go_simp
      refine wpAnyH_take (i := 8) (v := undef) rfl (by kernel_rfl) (by kernel_rfl) (by kernel_rfl) (fun _ _ _ h => h) (Or.inr ⟨by rfl, rfl⟩) hHeld ?_
      go_simp
      refine wpAnyH_take (i := 9) (v := undef) rfl (by kernel_rfl) (by kernel_rfl) (by kernel_rfl) (fun _ _ _ h => h) (Or.inr ⟨by rfl, rfl⟩) hHeld ?_
      go_simp
      refine wpAnyH_take (i := 10) (v := undef) rfl (by kernel_rfl) (by kernel_rfl) (by kernel_rfl) (fun _ _ _ h => h) (Or.inr ⟨by rfl, rfl⟩) hHeld ?_
      go_simp
      refine wpAnyH_take (i := 11) (v := undef) rfl (by kernel_rfl) (by kernel_rfl) (by kernel_rfl) (fun _ _ _ h => h) (Or.inr ⟨by rfl, rfl⟩) hHeld ?_
      go_simp
      refine wpAnyH_take (i := 12) (v := undef) rfl (by kernel_rfl) (by kernel_rfl) (by kernel_rfl) (fun _ _ _ h => h) (Or.inr ⟨by rfl, rfl⟩) hHeld ?_
      go_simp
      refine wpAnyH_take (i := 13) (v := undef) rfl (by kernel_rfl) (by kernel_rfl) (by kernel_rfl) (fun _ _ _ h => h) (Or.inr ⟨by rfl, rfl⟩) hHeld ?_
      go_simp
      refine wpAnyH_take (i := 14) (v := undef) rfl (by kernel_rfl) (by kernel_rfl) (by kernel_rfl) (fun _ _ _ h => h) (Or.inr ⟨by rfl, rfl⟩) hHeld ?_
      go_simp
      refine wpAnyH_take (i := 15) (v := undef) rfl (by kernel_rfl) (by kernel_rfl) (by kernel_rfl) (fun _ _ _ h => h) (Or.inr ⟨by rfl, rfl⟩) hHeld ?_
      go_simp
      refine wpAnyH_take (i := 16) (v := undef) rfl (by kernel_rfl) (by kernel_rfl) (by kernel_rfl) (fun _ _ _ h => h) (Or.inr ⟨by rfl, rfl⟩) hHeld ?_
      go_simp
      refine wpAnyH_take (i := 17) (v := ?_) rfl (by kernel_rfl) (by kernel_rfl) (by kernel_rfl) (fun _ _ _ h => h) (Or.inl ⟨by rfl, ?_⟩) hHeld ?_
      rotate_left
      · intro w hSw
        (try dsimp only at hSw)
        go_simp
        try with_reducible rfl
      go_simp
      refine wpAnyH_done (by kernel_rfl) ?_ _
      refine NoPanic.normal ?_
      go_wp2
      go_ret
      exact ⟨rfl, hHeld⟩
set_option maxHeartbeats 4000000 in
set_option maxRecDepth 100000 in
theorem rtake_any (b : Nat) (A : Option Addr) (n c k : Nat) (l : List I7) (dim : Nat) (v : Int) (w : World) (hr : RawAt 44 w b (rcs A n c k)) (hA : ∀ W, Off b b w W → ItsAt W A l) (hl : l.length = n) (hn : n ≤ 100000) (hc : n ≤ c) (ho : Okl l) (hk : k ≤ n) (hd : dim ≤ 3) :
    Calls Try.prog 66 #[.pointer (some ⟨b, 0, none⟩), .int .i64 dim, .int .i64 v] w fun e w' => ∃ (m : Nat) (A' : Option Addr) (c' : Nat), TakeIs l dim v k m ∧ e = .returned (.slice A' (m - k) c') ∧ ItsAt w' A' ((l.drop k).take (m - k)) ∧ Caps A' (m - k) c' ∧ RawAt 44 w' b (rcs A n c m) ∧ Off b b w w' := by
  obtain ⟨i0, hi0, hz0, hz1, hz2⟩ := info_parts ritem_info
  have hbs := RawAt.lt hr
  have HR := Lib.hid hr
  have HA := Lib.hid hA
  have HL := Lib.hid hl
  have HO := Lib.hid ho
  have hdm := hd
  clear hr hA hl ho
  go_enter Try.func66, Try.ntmps66
  go_wp2
  go_loopg [7] (n + 1) (fun g vv wr => ∃ q j : Nat, Hid (q = k + j) ∧ q ≤ n ∧ n + 1 - q ≤ g ∧ Off b b w wr ∧ Hid (RawAt 44 wr b (rcs A n c q)) ∧ Hid (wr.ownsRow w.heap.size 75 7 vv j (iflat ((l.drop k).take j))) ∧ Hid (∀ i, k ≤ i → i < q → sdim (l.take (i + 1)) dim ≤ v))
  case atStart => exact ⟨k, 0, rfl, hk, by omega, Off.refl _ _ _, HR, World.ownsRow_nil _ _ _ _, fun i h1 h2 => by omega⟩
  case round =>
    obtain ⟨q, j, HQ, g1, g2, ho, hr, hown, hno⟩ := hrel
    have HJ : Hid (q - k = j) := by have := HQ.out; show q - k = j; omega
    have MK : Hid (∀ W, Below wr.heap.size wr W → (fun W => W.cell? ⟨b, 0, none⟩ = some (.slice A n c) ∧ W.cell? ⟨b, 1, none⟩ = some (.int .i64 (q : Int)) ∧ Below wr.heap.size wr W) W) := fun W hW => by
      have h1 := RawAt.below hr.out hW (RawAt.lt hr.out)
      exact ⟨RawAt.cell h1 0, RawAt.cell h1 1, hW⟩
    have hd0 : decide ((0 : Int) ≤ (dim : Int)) = true := decide_eq_true (by omega)
    have hd4 : decide ((dim : Int) < 4) = true := decide_eq_true (by omega)
    have hW2 : Below wr.heap.size wr wr.drew := (Below.refl _ _).drew
    by_cases hk : q < n
    · have hlt : (q : Int) < (n : Int) := by omega
      go_wp2_with fail
      go_region_held3 (fun W => W.cell? ⟨b, 0, none⟩ = some (.slice A n c) ∧ W.cell? ⟨b, 1, none⟩ = some (.int .i64 (q : Int)) ∧ Below wr.heap.size wr W) (first | (with_reducible exact MK.out _ hW2) | (with_reducible exact MK.out _ (Below.refl _ _)) | go_keep) (fail)
      have hw1 : IntKind.i64.wrap ((q : Int) + 1) = (q : Int) + 1 := IntWalk.i64_in _ (by omega)
      have CE := Lib.hid fun (W : World) (hW : Below wr.heap.size wr W) => rend_yes b A n c q l W (RawAt.below hr.out hW (RawAt.lt hr.out)) ((HA.out W (ho.trans (Off.of hW)))) HL.out hn hc HO.out hk
      have HE3 : Hid (sdim (l.take (q + 1)) 3 = (q : Int) + 1) := by
        have := HL.out
        show _ = _
        unfold sdim
        rw [if_pos rfl, List.length_take, Nat.min_eq_left (by omega)]
        omega
      have HE0 : Hid (sdim (l.take (q + 1)) 0 = (sall (l.take (q + 1))).d0) := rfl
      have HE1 : Hid (sdim (l.take (q + 1)) 1 = (sall (l.take (q + 1))).d1) := rfl
      have HE2 : Hid (sdim (l.take (q + 1)) 2 = (sall (l.take (q + 1))).d2) := rfl
      have hfd := fld_d4
      have hx0 := fun a b c W => idx3_0 a b c W
      have hx1 := fun a b c W => idx3_1 a b c W
      have hx2 := fun a b c W => idx3_2 a b c W
      generalize sall (l.take (q + 1)) = u at *
      unfold scs at CE
      obtain ⟨m1, m2, _⟩ := MK.out _ hW2
      obtain ⟨A2, c2, rfl, hI2, hl2, hcap2⟩ := its_of_own hown.out
      obtain rfl | rfl | rfl | rfl : dim = 3 ∨ dim = 0 ∨ dim = 1 ∨ dim = 2 := by omega
      · rcases Int.lt_or_le v ((q : Int) + 1) with hv | hv
        · have HTK : Hid (TakeIs l 3 v k q) := ⟨by have := HQ.out; omega, by have := HL.out; omega, hno.out, fun _ => by rw [HE3.out]; exact hv⟩
          go_wp2
          go_ret
          exact ⟨q, A2, c2, HTK.out, by rw [HJ.out]; rfl, by rw [HJ.out]; exact hI2.below hW2, by rw [HJ.out]; exact hcap2, RawAt.below hr.out hW2 (RawAt.lt hr.out), ho.trans (Off.of hW2)⟩
        · go_wp2_with fail
          have hW0 := hW2
          generalize wr.drew = W0 at *
          have HNO : Hid (∀ i, k ≤ i → i < q + 1 → sdim (l.take (i + 1)) 3 ≤ v) := fun i h1 h2 => by
            by_cases e : i = q
            · subst e; rw [HE3.out]; exact hv
            · exact hno.out i h1 (by omega)
          obtain ⟨bA, off, rfl, hbA, _⟩ := HA.out w (Off.refl _ _ _) (by have := HL.out; omega)
          obtain ⟨bA', off', he, _, hcell⟩ := HA.out W0 (ho.trans (Off.of hW0)) (by have := HL.out; omega)
          cases he
          obtain ⟨e0, e1, e2, e3, e4, e5, e6⟩ := hcell q (by have := HL.out; omega)
          clear hcell
          have hT : (l.drop k).take (j + 1) = (l.drop k).take j ++ [ith l q] := by
            have hdl : j < (l.drop k).length := by rw [List.length_drop]; have := HL.out; have := HQ.out; omega
            rw [take_ith _ hdl]
            congr 2
            rw [HQ.out]
            simp [ith, List.getD]
          generalize hx : ith l q = x at *
          have HX := Lib.hid hx; clear hx
          have HT := Lib.hid hT; clear hT
          have R0 := RawAt.below hr.out hW0 (RawAt.lt hr.out)
          have HR0 := Lib.hid R0
          have hown0 := own_below hown.out hW0
          have M7 : Hid (∀ W : World, W.heap[b]? = W0.heap[b]? ∧ W.heap[bA]? = W0.heap[bA]? → (fun W => W.cell? ⟨b, 0, none⟩ = some (.slice (some ⟨bA, off, none⟩) n c) ∧ W.cell? ⟨b, 1, none⟩ = some (.int .i64 (q : Int)) ∧ W.cell? ⟨bA, off + q * 7, none⟩ = some (.int .i64 x.tag) ∧ W.cell? ⟨bA, off + q * 7 + 1, none⟩ = some (.int .i64 x.id) ∧ W.cell? ⟨bA, off + q * 7 + 2, none⟩ = some (.int .i64 x.d0) ∧ W.cell? ⟨bA, off + q * 7 + 3, none⟩ = some (.int .i64 x.d1) ∧ W.cell? ⟨bA, off + q * 7 + 4, none⟩ = some (.int .i64 x.d2) ∧ W.cell? ⟨bA, off + q * 7 + 5, none⟩ = some (.int .i64 x.mx) ∧ W.cell? ⟨bA, off + q * 7 + 6, none⟩ = some (.string x.tx)) W) := fun W hW => by
            have h1 : RawAt _ W b _ := hW.1.trans HR0.out
            have hc : ∀ o, W.cell? ⟨bA, o, none⟩ = W0.cell? ⟨bA, o, none⟩ := fun o => World.cell?_of_block (a := ⟨bA, o, none⟩) hW.2
            exact ⟨RawAt.cell h1 0, RawAt.cell h1 1, (hc _).trans e0, (hc _).trans e1, (hc _).trans e2, (hc _).trans e3, (hc _).trans e4, (hc _).trans e5, (hc _).trans e6⟩
          have hsz0 : w.heap.size ≤ W0.heap.size := Nat.le_trans ho.size hW0.size
          have hP1 : W0.drew.heap[b]? = W0.heap[b]? ∧ W0.drew.heap[bA]? = W0.heap[bA]? := ⟨rfl, rfl⟩
          have hP2 : (W0.alloc (.cells (ics x) 75)).drew.heap[b]? = W0.heap[b]? ∧ (W0.alloc (.cells (ics x) 75)).drew.heap[bA]? = W0.heap[bA]? := ⟨Below.heap_alloc _ _ _ (by omega), Below.heap_alloc _ _ _ (by omega)⟩
          unfold ics at hP2
          have i1 : (q : Int) < (n : Int) := by omega
          have i2 : (0 : Int) ≤ (q : Int) := by omega
          have hlt4 := fun g hg => hown.out.lt g hg
          have hjn : j ≤ 100000 := by have := HQ.out; omega
          have HOW := Lib.hid (ho.trans (Off.of hW0))
          clear R0 e0 e1 e2 e3 e4 e5 e6 MK CE hI2 hcap2 hl2
          go_region_held3 (fun W => W.cell? ⟨b, 0, none⟩ = some (.slice (some ⟨bA, off, none⟩) n c) ∧ W.cell? ⟨b, 1, none⟩ = some (.int .i64 (q : Int)) ∧ W.cell? ⟨bA, off + q * 7, none⟩ = some (.int .i64 x.tag) ∧ W.cell? ⟨bA, off + q * 7 + 1, none⟩ = some (.int .i64 x.id) ∧ W.cell? ⟨bA, off + q * 7 + 2, none⟩ = some (.int .i64 x.d0) ∧ W.cell? ⟨bA, off + q * 7 + 3, none⟩ = some (.int .i64 x.d1) ∧ W.cell? ⟨bA, off + q * 7 + 4, none⟩ = some (.int .i64 x.d2) ∧ W.cell? ⟨bA, off + q * 7 + 5, none⟩ = some (.int .i64 x.mx) ∧ W.cell? ⟨bA, off + q * 7 + 6, none⟩ = some (.string x.tx)) (first | (with_reducible exact M7.out _ hP1) | (with_reducible exact M7.out _ hP2) | (with_reducible exact M7.out _ hP3) | go_keep)
            ((refine step_append_lies _ (by rfl) _ _ _ (by rfl) w.heap.size 75 i0 _ 7 64 Try.underlying30 hi0 hz0 hz1 hz2 rfl (by omega) (.slice A2 j c2) j (iflat ((l.drop k).take j)) (by rfl) ((hown0.alloc _).drew) ⟨W0.heap.size, 0, none⟩ 1 1 (iflat [x]) (by rfl) (by rfl) (news_new W0 _ x) (iflat_one _) (by omega) (by unfold maxLen; omega) (by omega) (by simp; omega) (W0.heap.size + 1) (by simp) ?_; intro gg cap w4 hown4 hg4 hat hlt5; have hP3 : w4.heap[b]? = W0.heap[b]? ∧ w4.heap[bA]? = W0.heap[bA]? := ⟨(hg4.block b (by simp; omega) (fun e => by have := (hlt4 _ e.symm).1; omega)).trans hP2.1, (hg4.block bA (by simp; omega) (fun e => by have := (hlt4 _ e.symm).1; omega)).trans hP2.2⟩))
          have hO4 : Off b b w w4 := Off.grown (HOW.out.trans (Off.of (((Below.refl _ W0).alloc (Nat.le_refl _) (.cells (ics x) 75)).drew))) hg4 (fun g hg => (hlt4 g hg).1)
          have R4 : RawAt 44 w4 b (rcs (some ⟨bA, off, none⟩) n c q) := hP3.1.trans HR0.out
          have y1 := RawAt.free R4 1
          have z1 : w4.cell? ⟨b, 1, none⟩ = some (.int .i64 (q : Int)) := RawAt.cell R4 1
          have hown5 := own_off hown4 ((Off.refl b b w4).set 1 (.int .i64 ((q : Int) + 1))) hbs
          rw [← iflat_append, ← HT.out] at hown5
          have HOWN := Lib.hid hown5
          have R5 := Lib.hid ((R4.set_ 1 (.int .i64 ((q : Int) + 1))).of_eq (show _ = rcs (some ⟨bA, off, none⟩) n c (q + 1) from by simp [rcs]))
          have HO5 := Lib.hid (hO4.set 1 (.int .i64 ((q : Int) + 1)))
          have HQ5 : Hid (q + 1 = k + (j + 1)) := by have := HQ.out; show _ = _; omega
          have g5 : n + 1 - (q + 1) ≤ gk - 1 := by omega
          clear hown4 hown5 R4 hO4 hP1 hP2 hP3 hlt4 M7
          go_wp2
          go_roundg (gk - 1)
          case measure => omega
          case rel => exact ⟨q + 1, j + 1, HQ5, by omega, g5, HO5.out, R5, HOWN, HNO⟩
      · rcases Int.lt_or_le v u.d0 with hv | hv
        · go_wp2_with fail
          refine (CE.out _ hW2).mono ?_
          rintro e w3 ⟨rfl, hb3⟩
          have hW3 := hW2.trans (hb3.mono hW2.size)
          have HTK : Hid (TakeIs l 0 v k q) := ⟨by have := HQ.out; omega, by have := HL.out; omega, hno.out, fun _ => by rw [HE0.out]; exact hv⟩
          go_wp2
          go_ret
          exact ⟨q, A2, c2, HTK.out, by rw [HJ.out]; rfl, by rw [HJ.out]; exact hI2.below hW3, by rw [HJ.out]; exact hcap2, RawAt.below hr.out hW3 (RawAt.lt hr.out), ho.trans (Off.of hW3)⟩
        · go_wp2_with fail
          refine (CE.out _ hW2).mono ?_
          rintro e W0 ⟨rfl, hb3⟩
          have hW0 := hW2.trans (hb3.mono hW2.size)
          go_wp2_with fail
          have HNO : Hid (∀ i, k ≤ i → i < q + 1 → sdim (l.take (i + 1)) 0 ≤ v) := fun i h1 h2 => by
            by_cases e : i = q
            · subst e; rw [HE0.out]; exact hv
            · exact hno.out i h1 (by omega)
          obtain ⟨bA, off, rfl, hbA, _⟩ := HA.out w (Off.refl _ _ _) (by have := HL.out; omega)
          obtain ⟨bA', off', he, _, hcell⟩ := HA.out W0 (ho.trans (Off.of hW0)) (by have := HL.out; omega)
          cases he
          obtain ⟨e0, e1, e2, e3, e4, e5, e6⟩ := hcell q (by have := HL.out; omega)
          clear hcell
          have hT : (l.drop k).take (j + 1) = (l.drop k).take j ++ [ith l q] := by
            have hdl : j < (l.drop k).length := by rw [List.length_drop]; have := HL.out; have := HQ.out; omega
            rw [take_ith _ hdl]
            congr 2
            rw [HQ.out]
            simp [ith, List.getD]
          generalize hx : ith l q = x at *
          have HX := Lib.hid hx; clear hx
          have HT := Lib.hid hT; clear hT
          have R0 := RawAt.below hr.out hW0 (RawAt.lt hr.out)
          have HR0 := Lib.hid R0
          have hown0 := own_below hown.out hW0
          have M7 : Hid (∀ W : World, W.heap[b]? = W0.heap[b]? ∧ W.heap[bA]? = W0.heap[bA]? → (fun W => W.cell? ⟨b, 0, none⟩ = some (.slice (some ⟨bA, off, none⟩) n c) ∧ W.cell? ⟨b, 1, none⟩ = some (.int .i64 (q : Int)) ∧ W.cell? ⟨bA, off + q * 7, none⟩ = some (.int .i64 x.tag) ∧ W.cell? ⟨bA, off + q * 7 + 1, none⟩ = some (.int .i64 x.id) ∧ W.cell? ⟨bA, off + q * 7 + 2, none⟩ = some (.int .i64 x.d0) ∧ W.cell? ⟨bA, off + q * 7 + 3, none⟩ = some (.int .i64 x.d1) ∧ W.cell? ⟨bA, off + q * 7 + 4, none⟩ = some (.int .i64 x.d2) ∧ W.cell? ⟨bA, off + q * 7 + 5, none⟩ = some (.int .i64 x.mx) ∧ W.cell? ⟨bA, off + q * 7 + 6, none⟩ = some (.string x.tx)) W) := fun W hW => by
            have h1 : RawAt _ W b _ := hW.1.trans HR0.out
            have hc : ∀ o, W.cell? ⟨bA, o, none⟩ = W0.cell? ⟨bA, o, none⟩ := fun o => World.cell?_of_block (a := ⟨bA, o, none⟩) hW.2
            exact ⟨RawAt.cell h1 0, RawAt.cell h1 1, (hc _).trans e0, (hc _).trans e1, (hc _).trans e2, (hc _).trans e3, (hc _).trans e4, (hc _).trans e5, (hc _).trans e6⟩
          have hsz0 : w.heap.size ≤ W0.heap.size := Nat.le_trans ho.size hW0.size
          have hP1 : W0.drew.heap[b]? = W0.heap[b]? ∧ W0.drew.heap[bA]? = W0.heap[bA]? := ⟨rfl, rfl⟩
          have hP2 : (W0.alloc (.cells (ics x) 75)).drew.heap[b]? = W0.heap[b]? ∧ (W0.alloc (.cells (ics x) 75)).drew.heap[bA]? = W0.heap[bA]? := ⟨Below.heap_alloc _ _ _ (by omega), Below.heap_alloc _ _ _ (by omega)⟩
          unfold ics at hP2
          have i1 : (q : Int) < (n : Int) := by omega
          have i2 : (0 : Int) ≤ (q : Int) := by omega
          have hlt4 := fun g hg => hown.out.lt g hg
          have hjn : j ≤ 100000 := by have := HQ.out; omega
          have HOW := Lib.hid (ho.trans (Off.of hW0))
          clear R0 e0 e1 e2 e3 e4 e5 e6 MK CE hI2 hcap2 hl2
          go_region_held3 (fun W => W.cell? ⟨b, 0, none⟩ = some (.slice (some ⟨bA, off, none⟩) n c) ∧ W.cell? ⟨b, 1, none⟩ = some (.int .i64 (q : Int)) ∧ W.cell? ⟨bA, off + q * 7, none⟩ = some (.int .i64 x.tag) ∧ W.cell? ⟨bA, off + q * 7 + 1, none⟩ = some (.int .i64 x.id) ∧ W.cell? ⟨bA, off + q * 7 + 2, none⟩ = some (.int .i64 x.d0) ∧ W.cell? ⟨bA, off + q * 7 + 3, none⟩ = some (.int .i64 x.d1) ∧ W.cell? ⟨bA, off + q * 7 + 4, none⟩ = some (.int .i64 x.d2) ∧ W.cell? ⟨bA, off + q * 7 + 5, none⟩ = some (.int .i64 x.mx) ∧ W.cell? ⟨bA, off + q * 7 + 6, none⟩ = some (.string x.tx)) (first | (with_reducible exact M7.out _ hP1) | (with_reducible exact M7.out _ hP2) | (with_reducible exact M7.out _ hP3) | go_keep)
            ((refine step_append_lies _ (by rfl) _ _ _ (by rfl) w.heap.size 75 i0 _ 7 64 Try.underlying30 hi0 hz0 hz1 hz2 rfl (by omega) (.slice A2 j c2) j (iflat ((l.drop k).take j)) (by rfl) ((hown0.alloc _).drew) ⟨W0.heap.size, 0, none⟩ 1 1 (iflat [x]) (by rfl) (by rfl) (news_new W0 _ x) (iflat_one _) (by omega) (by unfold maxLen; omega) (by omega) (by simp; omega) (W0.heap.size + 1) (by simp) ?_; intro gg cap w4 hown4 hg4 hat hlt5; have hP3 : w4.heap[b]? = W0.heap[b]? ∧ w4.heap[bA]? = W0.heap[bA]? := ⟨(hg4.block b (by simp; omega) (fun e => by have := (hlt4 _ e.symm).1; omega)).trans hP2.1, (hg4.block bA (by simp; omega) (fun e => by have := (hlt4 _ e.symm).1; omega)).trans hP2.2⟩))
          have hO4 : Off b b w w4 := Off.grown (HOW.out.trans (Off.of (((Below.refl _ W0).alloc (Nat.le_refl _) (.cells (ics x) 75)).drew))) hg4 (fun g hg => (hlt4 g hg).1)
          have R4 : RawAt 44 w4 b (rcs (some ⟨bA, off, none⟩) n c q) := hP3.1.trans HR0.out
          have y1 := RawAt.free R4 1
          have z1 : w4.cell? ⟨b, 1, none⟩ = some (.int .i64 (q : Int)) := RawAt.cell R4 1
          have hown5 := own_off hown4 ((Off.refl b b w4).set 1 (.int .i64 ((q : Int) + 1))) hbs
          rw [← iflat_append, ← HT.out] at hown5
          have HOWN := Lib.hid hown5
          have R5 := Lib.hid ((R4.set_ 1 (.int .i64 ((q : Int) + 1))).of_eq (show _ = rcs (some ⟨bA, off, none⟩) n c (q + 1) from by simp [rcs]))
          have HO5 := Lib.hid (hO4.set 1 (.int .i64 ((q : Int) + 1)))
          have HQ5 : Hid (q + 1 = k + (j + 1)) := by have := HQ.out; show _ = _; omega
          have g5 : n + 1 - (q + 1) ≤ gk - 1 := by omega
          clear hown4 hown5 R4 hO4 hP1 hP2 hP3 hlt4 M7
          go_wp2
          go_roundg (gk - 1)
          case measure => omega
          case rel => exact ⟨q + 1, j + 1, HQ5, by omega, g5, HO5.out, R5, HOWN, HNO⟩
      · rcases Int.lt_or_le v u.d1 with hv | hv
        · go_wp2_with fail
          refine (CE.out _ hW2).mono ?_
          rintro e w3 ⟨rfl, hb3⟩
          have hW3 := hW2.trans (hb3.mono hW2.size)
          have HTK : Hid (TakeIs l 1 v k q) := ⟨by have := HQ.out; omega, by have := HL.out; omega, hno.out, fun _ => by rw [HE1.out]; exact hv⟩
          go_wp2
          go_ret
          exact ⟨q, A2, c2, HTK.out, by rw [HJ.out]; rfl, by rw [HJ.out]; exact hI2.below hW3, by rw [HJ.out]; exact hcap2, RawAt.below hr.out hW3 (RawAt.lt hr.out), ho.trans (Off.of hW3)⟩
        · go_wp2_with fail
          refine (CE.out _ hW2).mono ?_
          rintro e W0 ⟨rfl, hb3⟩
          have hW0 := hW2.trans (hb3.mono hW2.size)
          go_wp2_with fail
          have HNO : Hid (∀ i, k ≤ i → i < q + 1 → sdim (l.take (i + 1)) 1 ≤ v) := fun i h1 h2 => by
            by_cases e : i = q
            · subst e; rw [HE1.out]; exact hv
            · exact hno.out i h1 (by omega)
          obtain ⟨bA, off, rfl, hbA, _⟩ := HA.out w (Off.refl _ _ _) (by have := HL.out; omega)
          obtain ⟨bA', off', he, _, hcell⟩ := HA.out W0 (ho.trans (Off.of hW0)) (by have := HL.out; omega)
          cases he
          obtain ⟨e0, e1, e2, e3, e4, e5, e6⟩ := hcell q (by have := HL.out; omega)
          clear hcell
          have hT : (l.drop k).take (j + 1) = (l.drop k).take j ++ [ith l q] := by
            have hdl : j < (l.drop k).length := by rw [List.length_drop]; have := HL.out; have := HQ.out; omega
            rw [take_ith _ hdl]
            congr 2
            rw [HQ.out]
            simp [ith, List.getD]
          generalize hx : ith l q = x at *
          have HX := Lib.hid hx; clear hx
          have HT := Lib.hid hT; clear hT
          have R0 := RawAt.below hr.out hW0 (RawAt.lt hr.out)
          have HR0 := Lib.hid R0
          have hown0 := own_below hown.out hW0
          have M7 : Hid (∀ W : World, W.heap[b]? = W0.heap[b]? ∧ W.heap[bA]? = W0.heap[bA]? → (fun W => W.cell? ⟨b, 0, none⟩ = some (.slice (some ⟨bA, off, none⟩) n c) ∧ W.cell? ⟨b, 1, none⟩ = some (.int .i64 (q : Int)) ∧ W.cell? ⟨bA, off + q * 7, none⟩ = some (.int .i64 x.tag) ∧ W.cell? ⟨bA, off + q * 7 + 1, none⟩ = some (.int .i64 x.id) ∧ W.cell? ⟨bA, off + q * 7 + 2, none⟩ = some (.int .i64 x.d0) ∧ W.cell? ⟨bA, off + q * 7 + 3, none⟩ = some (.int .i64 x.d1) ∧ W.cell? ⟨bA, off + q * 7 + 4, none⟩ = some (.int .i64 x.d2) ∧ W.cell? ⟨bA, off + q * 7 + 5, none⟩ = some (.int .i64 x.mx) ∧ W.cell? ⟨bA, off + q * 7 + 6, none⟩ = some (.string x.tx)) W) := fun W hW => by
            have h1 : RawAt _ W b _ := hW.1.trans HR0.out
            have hc : ∀ o, W.cell? ⟨bA, o, none⟩ = W0.cell? ⟨bA, o, none⟩ := fun o => World.cell?_of_block (a := ⟨bA, o, none⟩) hW.2
            exact ⟨RawAt.cell h1 0, RawAt.cell h1 1, (hc _).trans e0, (hc _).trans e1, (hc _).trans e2, (hc _).trans e3, (hc _).trans e4, (hc _).trans e5, (hc _).trans e6⟩
          have hsz0 : w.heap.size ≤ W0.heap.size := Nat.le_trans ho.size hW0.size
          have hP1 : W0.drew.heap[b]? = W0.heap[b]? ∧ W0.drew.heap[bA]? = W0.heap[bA]? := ⟨rfl, rfl⟩
          have hP2 : (W0.alloc (.cells (ics x) 75)).drew.heap[b]? = W0.heap[b]? ∧ (W0.alloc (.cells (ics x) 75)).drew.heap[bA]? = W0.heap[bA]? := ⟨Below.heap_alloc _ _ _ (by omega), Below.heap_alloc _ _ _ (by omega)⟩
          unfold ics at hP2
          have i1 : (q : Int) < (n : Int) := by omega
          have i2 : (0 : Int) ≤ (q : Int) := by omega
          have hlt4 := fun g hg => hown.out.lt g hg
          have hjn : j ≤ 100000 := by have := HQ.out; omega
          have HOW := Lib.hid (ho.trans (Off.of hW0))
          clear R0 e0 e1 e2 e3 e4 e5 e6 MK CE hI2 hcap2 hl2
          go_region_held3 (fun W => W.cell? ⟨b, 0, none⟩ = some (.slice (some ⟨bA, off, none⟩) n c) ∧ W.cell? ⟨b, 1, none⟩ = some (.int .i64 (q : Int)) ∧ W.cell? ⟨bA, off + q * 7, none⟩ = some (.int .i64 x.tag) ∧ W.cell? ⟨bA, off + q * 7 + 1, none⟩ = some (.int .i64 x.id) ∧ W.cell? ⟨bA, off + q * 7 + 2, none⟩ = some (.int .i64 x.d0) ∧ W.cell? ⟨bA, off + q * 7 + 3, none⟩ = some (.int .i64 x.d1) ∧ W.cell? ⟨bA, off + q * 7 + 4, none⟩ = some (.int .i64 x.d2) ∧ W.cell? ⟨bA, off + q * 7 + 5, none⟩ = some (.int .i64 x.mx) ∧ W.cell? ⟨bA, off + q * 7 + 6, none⟩ = some (.string x.tx)) (first | (with_reducible exact M7.out _ hP1) | (with_reducible exact M7.out _ hP2) | (with_reducible exact M7.out _ hP3) | go_keep)
            ((refine step_append_lies _ (by rfl) _ _ _ (by rfl) w.heap.size 75 i0 _ 7 64 Try.underlying30 hi0 hz0 hz1 hz2 rfl (by omega) (.slice A2 j c2) j (iflat ((l.drop k).take j)) (by rfl) ((hown0.alloc _).drew) ⟨W0.heap.size, 0, none⟩ 1 1 (iflat [x]) (by rfl) (by rfl) (news_new W0 _ x) (iflat_one _) (by omega) (by unfold maxLen; omega) (by omega) (by simp; omega) (W0.heap.size + 1) (by simp) ?_; intro gg cap w4 hown4 hg4 hat hlt5; have hP3 : w4.heap[b]? = W0.heap[b]? ∧ w4.heap[bA]? = W0.heap[bA]? := ⟨(hg4.block b (by simp; omega) (fun e => by have := (hlt4 _ e.symm).1; omega)).trans hP2.1, (hg4.block bA (by simp; omega) (fun e => by have := (hlt4 _ e.symm).1; omega)).trans hP2.2⟩))
          have hO4 : Off b b w w4 := Off.grown (HOW.out.trans (Off.of (((Below.refl _ W0).alloc (Nat.le_refl _) (.cells (ics x) 75)).drew))) hg4 (fun g hg => (hlt4 g hg).1)
          have R4 : RawAt 44 w4 b (rcs (some ⟨bA, off, none⟩) n c q) := hP3.1.trans HR0.out
          have y1 := RawAt.free R4 1
          have z1 : w4.cell? ⟨b, 1, none⟩ = some (.int .i64 (q : Int)) := RawAt.cell R4 1
          have hown5 := own_off hown4 ((Off.refl b b w4).set 1 (.int .i64 ((q : Int) + 1))) hbs
          rw [← iflat_append, ← HT.out] at hown5
          have HOWN := Lib.hid hown5
          have R5 := Lib.hid ((R4.set_ 1 (.int .i64 ((q : Int) + 1))).of_eq (show _ = rcs (some ⟨bA, off, none⟩) n c (q + 1) from by simp [rcs]))
          have HO5 := Lib.hid (hO4.set 1 (.int .i64 ((q : Int) + 1)))
          have HQ5 : Hid (q + 1 = k + (j + 1)) := by have := HQ.out; show _ = _; omega
          have g5 : n + 1 - (q + 1) ≤ gk - 1 := by omega
          clear hown4 hown5 R4 hO4 hP1 hP2 hP3 hlt4 M7
          go_wp2
          go_roundg (gk - 1)
          case measure => omega
          case rel => exact ⟨q + 1, j + 1, HQ5, by omega, g5, HO5.out, R5, HOWN, HNO⟩
      · rcases Int.lt_or_le v u.d2 with hv | hv
        · go_wp2_with fail
          refine (CE.out _ hW2).mono ?_
          rintro e w3 ⟨rfl, hb3⟩
          have hW3 := hW2.trans (hb3.mono hW2.size)
          have HTK : Hid (TakeIs l 2 v k q) := ⟨by have := HQ.out; omega, by have := HL.out; omega, hno.out, fun _ => by rw [HE2.out]; exact hv⟩
          go_wp2
          go_ret
          exact ⟨q, A2, c2, HTK.out, by rw [HJ.out]; rfl, by rw [HJ.out]; exact hI2.below hW3, by rw [HJ.out]; exact hcap2, RawAt.below hr.out hW3 (RawAt.lt hr.out), ho.trans (Off.of hW3)⟩
        · go_wp2_with fail
          refine (CE.out _ hW2).mono ?_
          rintro e W0 ⟨rfl, hb3⟩
          have hW0 := hW2.trans (hb3.mono hW2.size)
          go_wp2_with fail
          have HNO : Hid (∀ i, k ≤ i → i < q + 1 → sdim (l.take (i + 1)) 2 ≤ v) := fun i h1 h2 => by
            by_cases e : i = q
            · subst e; rw [HE2.out]; exact hv
            · exact hno.out i h1 (by omega)
          obtain ⟨bA, off, rfl, hbA, _⟩ := HA.out w (Off.refl _ _ _) (by have := HL.out; omega)
          obtain ⟨bA', off', he, _, hcell⟩ := HA.out W0 (ho.trans (Off.of hW0)) (by have := HL.out; omega)
          cases he
          obtain ⟨e0, e1, e2, e3, e4, e5, e6⟩ := hcell q (by have := HL.out; omega)
          clear hcell
          have hT : (l.drop k).take (j + 1) = (l.drop k).take j ++ [ith l q] := by
            have hdl : j < (l.drop k).length := by rw [List.length_drop]; have := HL.out; have := HQ.out; omega
            rw [take_ith _ hdl]
            congr 2
            rw [HQ.out]
            simp [ith, List.getD]
          generalize hx : ith l q = x at *
          have HX := Lib.hid hx; clear hx
          have HT := Lib.hid hT; clear hT
          have R0 := RawAt.below hr.out hW0 (RawAt.lt hr.out)
          have HR0 := Lib.hid R0
          have hown0 := own_below hown.out hW0
          have M7 : Hid (∀ W : World, W.heap[b]? = W0.heap[b]? ∧ W.heap[bA]? = W0.heap[bA]? → (fun W => W.cell? ⟨b, 0, none⟩ = some (.slice (some ⟨bA, off, none⟩) n c) ∧ W.cell? ⟨b, 1, none⟩ = some (.int .i64 (q : Int)) ∧ W.cell? ⟨bA, off + q * 7, none⟩ = some (.int .i64 x.tag) ∧ W.cell? ⟨bA, off + q * 7 + 1, none⟩ = some (.int .i64 x.id) ∧ W.cell? ⟨bA, off + q * 7 + 2, none⟩ = some (.int .i64 x.d0) ∧ W.cell? ⟨bA, off + q * 7 + 3, none⟩ = some (.int .i64 x.d1) ∧ W.cell? ⟨bA, off + q * 7 + 4, none⟩ = some (.int .i64 x.d2) ∧ W.cell? ⟨bA, off + q * 7 + 5, none⟩ = some (.int .i64 x.mx) ∧ W.cell? ⟨bA, off + q * 7 + 6, none⟩ = some (.string x.tx)) W) := fun W hW => by
            have h1 : RawAt _ W b _ := hW.1.trans HR0.out
            have hc : ∀ o, W.cell? ⟨bA, o, none⟩ = W0.cell? ⟨bA, o, none⟩ := fun o => World.cell?_of_block (a := ⟨bA, o, none⟩) hW.2
            exact ⟨RawAt.cell h1 0, RawAt.cell h1 1, (hc _).trans e0, (hc _).trans e1, (hc _).trans e2, (hc _).trans e3, (hc _).trans e4, (hc _).trans e5, (hc _).trans e6⟩
          have hsz0 : w.heap.size ≤ W0.heap.size := Nat.le_trans ho.size hW0.size
          have hP1 : W0.drew.heap[b]? = W0.heap[b]? ∧ W0.drew.heap[bA]? = W0.heap[bA]? := ⟨rfl, rfl⟩
          have hP2 : (W0.alloc (.cells (ics x) 75)).drew.heap[b]? = W0.heap[b]? ∧ (W0.alloc (.cells (ics x) 75)).drew.heap[bA]? = W0.heap[bA]? := ⟨Below.heap_alloc _ _ _ (by omega), Below.heap_alloc _ _ _ (by omega)⟩
          unfold ics at hP2
          have i1 : (q : Int) < (n : Int) := by omega
          have i2 : (0 : Int) ≤ (q : Int) := by omega
          have hlt4 := fun g hg => hown.out.lt g hg
          have hjn : j ≤ 100000 := by have := HQ.out; omega
          have HOW := Lib.hid (ho.trans (Off.of hW0))
          clear R0 e0 e1 e2 e3 e4 e5 e6 MK CE hI2 hcap2 hl2
          go_region_held3 (fun W => W.cell? ⟨b, 0, none⟩ = some (.slice (some ⟨bA, off, none⟩) n c) ∧ W.cell? ⟨b, 1, none⟩ = some (.int .i64 (q : Int)) ∧ W.cell? ⟨bA, off + q * 7, none⟩ = some (.int .i64 x.tag) ∧ W.cell? ⟨bA, off + q * 7 + 1, none⟩ = some (.int .i64 x.id) ∧ W.cell? ⟨bA, off + q * 7 + 2, none⟩ = some (.int .i64 x.d0) ∧ W.cell? ⟨bA, off + q * 7 + 3, none⟩ = some (.int .i64 x.d1) ∧ W.cell? ⟨bA, off + q * 7 + 4, none⟩ = some (.int .i64 x.d2) ∧ W.cell? ⟨bA, off + q * 7 + 5, none⟩ = some (.int .i64 x.mx) ∧ W.cell? ⟨bA, off + q * 7 + 6, none⟩ = some (.string x.tx)) (first | (with_reducible exact M7.out _ hP1) | (with_reducible exact M7.out _ hP2) | (with_reducible exact M7.out _ hP3) | go_keep)
            ((refine step_append_lies _ (by rfl) _ _ _ (by rfl) w.heap.size 75 i0 _ 7 64 Try.underlying30 hi0 hz0 hz1 hz2 rfl (by omega) (.slice A2 j c2) j (iflat ((l.drop k).take j)) (by rfl) ((hown0.alloc _).drew) ⟨W0.heap.size, 0, none⟩ 1 1 (iflat [x]) (by rfl) (by rfl) (news_new W0 _ x) (iflat_one _) (by omega) (by unfold maxLen; omega) (by omega) (by simp; omega) (W0.heap.size + 1) (by simp) ?_; intro gg cap w4 hown4 hg4 hat hlt5; have hP3 : w4.heap[b]? = W0.heap[b]? ∧ w4.heap[bA]? = W0.heap[bA]? := ⟨(hg4.block b (by simp; omega) (fun e => by have := (hlt4 _ e.symm).1; omega)).trans hP2.1, (hg4.block bA (by simp; omega) (fun e => by have := (hlt4 _ e.symm).1; omega)).trans hP2.2⟩))
          have hO4 : Off b b w w4 := Off.grown (HOW.out.trans (Off.of (((Below.refl _ W0).alloc (Nat.le_refl _) (.cells (ics x) 75)).drew))) hg4 (fun g hg => (hlt4 g hg).1)
          have R4 : RawAt 44 w4 b (rcs (some ⟨bA, off, none⟩) n c q) := hP3.1.trans HR0.out
          have y1 := RawAt.free R4 1
          have z1 : w4.cell? ⟨b, 1, none⟩ = some (.int .i64 (q : Int)) := RawAt.cell R4 1
          have hown5 := own_off hown4 ((Off.refl b b w4).set 1 (.int .i64 ((q : Int) + 1))) hbs
          rw [← iflat_append, ← HT.out] at hown5
          have HOWN := Lib.hid hown5
          have R5 := Lib.hid ((R4.set_ 1 (.int .i64 ((q : Int) + 1))).of_eq (show _ = rcs (some ⟨bA, off, none⟩) n c (q + 1) from by simp [rcs]))
          have HO5 := Lib.hid (hO4.set 1 (.int .i64 ((q : Int) + 1)))
          have HQ5 : Hid (q + 1 = k + (j + 1)) := by have := HQ.out; show _ = _; omega
          have g5 : n + 1 - (q + 1) ≤ gk - 1 := by omega
          clear hown4 hown5 R4 hO4 hP1 hP2 hP3 hlt4 M7
          go_wp2
          go_roundg (gk - 1)
          case measure => omega
          case rel => exact ⟨q + 1, j + 1, HQ5, by omega, g5, HO5.out, R5, HOWN, HNO⟩
    · have hlt : ¬ (q : Int) < (n : Int) := by omega
      obtain ⟨A2, c2, rfl, hI2, hl2, hcap2⟩ := its_of_own hown.out
      go_wp2_with fail
      go_region_held3 (fun W => W.cell? ⟨b, 0, none⟩ = some (.slice A n c) ∧ W.cell? ⟨b, 1, none⟩ = some (.int .i64 (q : Int)) ∧ Below wr.heap.size wr W) (first | (with_reducible exact MK.out _ hW2) | (with_reducible exact MK.out _ (Below.refl _ _)) | go_keep) (fail)
      have HTK : Hid (TakeIs l dim v k q) := ⟨by have := HQ.out; omega, by have := HL.out; omega, hno.out, fun h => absurd h (by have := HL.out; omega)⟩
      go_wp2
      go_ret
      exact ⟨q, A2, c2, HTK.out, by rw [HJ.out]; rfl, by rw [HJ.out]; exact hI2.below hW2, by rw [HJ.out]; exact hcap2, RawAt.below hr.out hW2 (RawAt.lt hr.out), ho.trans (Off.of hW2)⟩
end Go.Proofs.Ytbbplppcabeojaa
