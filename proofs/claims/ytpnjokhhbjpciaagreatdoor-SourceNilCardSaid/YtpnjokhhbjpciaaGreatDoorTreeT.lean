/- A node's items behind a row: the contract of tree.gather. A tree lies at an address; its small methods: root, Sum, Height, Items, At, spans, Sound. Methods of trees: Items, At, spans, Sound. Methods of trees: Height. -/
import Derived.Test.YtpnjokhhbjpciaaGreatDoorTop
import Derived.Test.YtpnjokhhbjpciaaGreatDoorTreeQ
import Derived.Test.YtpnjokhhbjpciaaGreatDoorCutP
import Derived.Deep.RegionWith
namespace Go.Proofs.YtpnjokhhbjpciaaGreatDoor
open Go.RowKit
/-- A tree's address, or none. -/
def TP (w : World) (p : Option Addr) (l : List I7) (h : Nat) : Prop :=
  (p = none ∧ l = [] ∧ h = 0) ∨ (∃ b v, p = some ⟨b, 0, none⟩ ∧ RawAt 188 w b #[v] ∧ Top w v l h ∧ Okl l ∧ l.length ≤ 30000)
theorem TP.below {w w' : World} {p : Option Addr} {l : List I7} {h : Nat} (ht : TP w p l h) (hb : Below w.heap.size w w') : TP w' p l h := by
  rcases ht with h1 | ⟨b, v, h1, h2, h3, h4⟩
  · exact .inl h1
  · exact .inr ⟨b, v, h1, h2.below hb h2.lt, h3.below hb, h4⟩
theorem TP.okl {w : World} {p : Option Addr} {l : List I7} {h : Nat} (ht : TP w p l h) : Okl l ∧ l.length ≤ 30000 := by
  rcases ht with ⟨_, rfl, _⟩ | ⟨b, v, h1, h2, h3, h4, h5⟩
  · exact ⟨fun i hi => absurd hi (by simp), by simp⟩
  · exact ⟨h4, h5⟩
theorem root_any (p : Option Addr) (l : List I7) (h : Nat) (w : World) (ht : TP w p l h) :
    Calls Tryz.prog 111 #[.pointer p] w fun e w' => ∃ v, e = .returned v ∧ Top w v l h ∧ w' = w := by
  rcases ht with ⟨rfl, rfl, rfl⟩ | ⟨b, v, rfl, h2, h3, _⟩
  · have HX : Hid (Top w .nilIface [] 0) := .inl ⟨rfl, rfl, rfl⟩
    go_enter Tryz.func111, Tryz.ntmps111
    go_wp2
    go_ret
    exact ⟨_, rfl, HX.out, rfl⟩
  · have HX := Lib.hid h3
    have e0 : w.cell? ⟨b, 0, none⟩ = some v := RawAt.cell h2 0
    clear h3 h2
    go_enter Tryz.func111, Tryz.ntmps111
    go_wp2
    go_ret
    exact ⟨_, rfl, HX.out, rfl⟩
theorem Top.sumK {w : World} {v : Value} {l : List I7} {h : Nat} (ht : Top w v l h) (c : Nat) : SumK w ⟨v, l, c⟩ := by
  rcases ht with ⟨_, rfl, rfl⟩ | ⟨c', hk, _⟩
  · exact ⟨fun i hi => absurd hi (by simp), .inl ⟨rfl, rfl⟩⟩
  · exact hk.sumK
theorem Top.one {w : World} {v : Value} {l : List I7} {h : Nat} (ht : Top w v l h) : v = .nilIface ∨ ∃ t x, v = .iface t x := by
  rcases ht with ⟨_, rfl, rfl⟩ | ⟨c', hk, _⟩
  · exact .inl rfl
  · exact .inr hk.ifc
theorem raw_six' {t : TypeId} {w : World} {b : Nat} {a0 a1 a2 a3 a4 a5 : Value} (h : RawAt t w b #[a0, a1, a2, a3, a4, a5]) : w.cell? ⟨b, 0, none⟩ = some a0 ∧ w.cell? ⟨b, 1, none⟩ = some a1 ∧ w.cell? ⟨b, 2, none⟩ = some a2 ∧ w.cell? ⟨b, 3, none⟩ = some a3 ∧ w.cell? ⟨b, 4, none⟩ = some a4 ∧ w.cell? ⟨b, 5, none⟩ = some a5 :=
  ⟨RawAt.cell h 0, RawAt.cell h 1, RawAt.cell h 2, RawAt.cell h 3, RawAt.cell h 4, RawAt.cell h 5⟩
theorem one_vs {w : World} {b : Nat} {x : Value} {t : TypeId} (h : w.heap[b]? = some (.cells #[x] t (0, 0))) : VsAt w (some ⟨b, 0, none⟩) [x] := by
  intro _
  refine ⟨b, 0, rfl, block_lt h, fun k hk => ?_⟩
  rw [cell_of_row w b _ _ _ _ h, Nat.zero_add]
  obtain rfl : k = 0 := by simpa using hk
  rfl
set_option maxHeartbeats 4000000 in
set_option maxRecDepth 100000 in
theorem tsum_any (p : Option Addr) (l : List I7) (h : Nat) (w : World) (ht : TP w p l h) :
    Calls Tryz.prog 109 #[.pointer p] w fun e w' => e = .returned (.agg (scs (sall l))) ∧ Below w.heap.size w w' := by
  have hb1 : Below w.heap.size w (w.alloc (.cells (scs s0) 129)) := (Below.refl _ _).alloc (Nat.le_refl _) _
  have r1 : RawAt 129 (w.alloc (.cells (scs s0) 129)) w.heap.size (scs s0) := heap_alloc_new w _
  have hs1 : (w.alloc (.cells (scs s0) 129)).heap.size = w.heap.size + 1 := by simp
  have C1 := root_any p l h _ (ht.below hb1)
  obtain ⟨ho, hz⟩ := ht.okl
  clear ht
  unfold scs s0 at hb1 r1 C1 hs1
  obtain ⟨W1, hW1⟩ : ∃ W1, W1 = w.alloc (.cells #[.int .i64 0, .int .i64 0, .int .i64 0, .int .i64 0, .int .i64 0, .int .i64 0] 129) := ⟨_, rfl⟩
  rw [← hW1] at hb1 r1 C1 hs1
  have HR1 := Lib.hid r1; clear r1
  have HS1 := Lib.hid hs1; clear hs1
  have HC1 := Lib.hid C1; clear C1
  have HO := Lib.hid ho; clear ho
  go_enter Tryz.func109, Tryz.ntmps109
  go_wp2_with fail
  rw [← hW1]
  clear hW1
  refine HC1.out.mono ?_
  rintro e w1 ⟨v, rfl, hT, rfl⟩
  have hbv : Below w1.heap.size w1 (w1.alloc (.cells #[v] 183)) := (Below.refl _ _).alloc (Nat.le_refl _) _
  have CS := Lib.hid (sumOf_any (some ⟨w1.heap.size, 0, none⟩) 1 1 [⟨v, l, 1⟩] (w1.alloc (.cells #[v] 183)) (one_vs (heap_alloc_new w1 _)) rfl (by omega) (fun k hk => by rw [List.mem_singleton.1 hk]; exact (hT.sumK 1).below hbv) (by simp [fl]; omega))
  rw [fl_one] at CS
  unfold scs at CS
  have hv := hT.one
  clear hT
  generalize hs : sall l = s at *
  have HSS := Lib.hid hs; clear hs
  rcases hv with rfl | ⟨t, x, rfl⟩
  all_goals
    go_wp2_with fail
    refine CS.out.mono ?_
    rintro e w2 ⟨rfl, hb2⟩
    have a2 : Below w.heap.size w w2 := (hb1.trans (hbv.mono hb1.size)).trans (hb2.mono (by simp; have := hb1.size; omega))
    have r2 := (HR1.out.below hbv HR1.out.lt).below hb2 (by simp; have := HS1.out; omega)
    have f0 := r2.free 0
    have f1 := r2.free 1
    have f2 := r2.free 2
    have f3 := r2.free 3
    have f4 := r2.free 4
    have f5 := r2.free 5
    obtain ⟨c0, c1, c2, c3, c4, c5⟩ := raw_six' r2
    go_wp2
    refine bodyPost_ret (v := .agg #[.int .i64 s.n, .int .i64 s.d0, .int .i64 s.d1, .int .i64 s.d2, .int .i64 s.mx, .int .i64 s.pl]) (by simp [results, Tryz.results109, go_sem, c0, c1, c2, c3, c4, c5]) rfl ⟨by rw [HSS.out]; rfl, ?_⟩
    (repeat' (first | (with_reducible exact a2) | (with_reducible refine Below.setCell ?_ ?_ _) | (with_reducible refine Below.drew ?_))) <;> first | exact Nat.le_refl _ | (simp; done) | (simp; omega)
theorem tsum_n (p : Option Addr) (l : List I7) (h : Nat) (w : World) (ht : TP w p l h) :
    Calls Tryz.prog 109 #[.pointer p] w fun e w' => e = .returned (.agg #[.int .i64 l.length, .int .i64 (sall l).d0, .int .i64 (sall l).d1, .int .i64 (sall l).d2, .int .i64 (sall l).mx, .int .i64 (sall l).pl]) ∧ Below w.heap.size w w' := by
  have := tsum_any p l h w ht
  unfold scs at this
  rwa [sall_n _ ht.okl.1] at this
theorem root_nil (w : World) : Calls Tryz.prog 111 #[.pointer none] w fun e w' => e = .returned .nilIface ∧ w' = w := by
  go_enter Tryz.func111, Tryz.ntmps111
  go_wp2
  go_ret
  exact ⟨rfl, rfl⟩
theorem root_some (b : Nat) (v : Value) (w : World) (e0 : w.cell? ⟨b, 0, none⟩ = some v) : Calls Tryz.prog 111 #[.pointer (some ⟨b, 0, none⟩)] w fun e w' => e = .returned v ∧ w' = w := by
  go_enter Tryz.func111, Tryz.ntmps111
  go_wp2
  go_ret
  exact ⟨rfl, rfl⟩
theorem root_fix {p : Option Addr} {l : List I7} {h : Nat} {w : World} (ht : TP w p l h) : ∃ v, Top w v l h ∧ ∀ W, Below w.heap.size w W → Calls Tryz.prog 111 #[.pointer p] W fun e w' => e = .returned v ∧ w' = W := by
  rcases ht with ⟨rfl, rfl, rfl⟩ | ⟨b, v, rfl, h2, h3, _⟩
  · exact ⟨_, .inl ⟨rfl, rfl, rfl⟩, fun W _ => root_nil W⟩
  · exact ⟨v, h3, fun W hW => root_some b v W (RawAt.cell (h2.below hW h2.lt) 0)⟩
theorem make_items (N : Nat) (hN : N ≤ 1000000) : ∃ M : Array Value, M.size = N * 7 ∧ ∀ W : World, (Instr.makeSlice 138 (.int .i64 0) (.int .i64 N)).run Tryz.prog W = .ok (.slice (some ⟨W.heap.size, 0, none⟩) 0 N) (W.alloc (.cells M 162)) := by
  obtain ⟨i0, hi0, hz0, hz1, hz2⟩ := info_parts item_info
  refine ⟨madeCells (Value.agg #[.int .i64 0, .int .i64 0, .int .i64 0, .int .i64 0, .int .i64 0, .int .i64 0, .string ⟨#[]⟩]).cells (N * i0.size), by rw [size_madeCells, hz1], fun W => ?_⟩
  have := run_make (P := Tryz.prog) W 138 162 i0 _ Tryz.underlying138 hi0 hz0 .i64 .i64 0 (N : Int) (by omega) (by omega) (by rw [hz2]; omega) (by omega)
  simpa only [Int.toNat_zero, Int.toNat_natCast] using this
theorem own_make (w : World) (N : Nat) (hN : N ≤ 1000000) (M : Array Value) (hM : M.size = N * 7) : (w.alloc (.cells M 162)).ownsRow w.heap.size 162 7 (.slice (some ⟨w.heap.size, 0, none⟩) 0 N) 0 [] :=
  ⟨by simp, .inr ⟨w.heap.size, N, _, rfl, Nat.le_refl _, heap_alloc_new w _, Nat.zero_le _, by unfold maxLen; omega, hM, by simp⟩⟩
set_option maxHeartbeats 4000000 in
set_option maxRecDepth 100000 in
theorem spans_any (p : Option Addr) (l : List I7) (h : Nat) (x y : Int) (w : World) (ht : TP w p l h) (sb : Bool) (hsb : sb = true ↔ 0 ≤ x ∧ x ≤ y ∧ y ≤ l.length) :
    Calls Tryz.prog 107 #[.pointer p, .int .i64 x, .int .i64 y] w fun e w' => e = .returned (.bool sb) ∧ Below w.heap.size w w' := by
  have C1 := Lib.hid (tsum_n p l h w ht)
  have tf := fld_n
  have HF := Lib.hid hsb; clear hsb
  clear ht
  by_cases g1 : x < 0
  · have HX := Lib.hid (ab_no HF.out (fun h => by omega))
    go_enter Tryz.func107, Tryz.ntmps107
    go_wp2_with fail
    go_ret
    exact ⟨ret_bool HX.out, Below.refl _ _⟩
  · by_cases g2 : y < x
    · have HX := Lib.hid (ab_no HF.out (fun h => by omega))
      go_enter Tryz.func107, Tryz.ntmps107
      go_wp2_with fail
      go_ret
      exact ⟨ret_bool HX.out, Below.refl _ _⟩
    · by_cases g3 : y ≤ l.length
      · have HX := Lib.hid (ab_yes HF.out ⟨by omega, by omega, g3⟩)
        go_enter Tryz.func107, Tryz.ntmps107
        go_wp2_with fail
        refine C1.out.mono ?_
        rintro e w1 ⟨rfl, hb1⟩
        go_wp2_with fail
        go_ret
        exact ⟨ret_bool (by simpa using HX.out), hb1⟩
      · have HX := Lib.hid (ab_no HF.out (fun h => by omega))
        go_enter Tryz.func107, Tryz.ntmps107
        go_wp2_with fail
        refine C1.out.mono ?_
        rintro e w1 ⟨rfl, hb1⟩
        go_wp2_with fail
        go_ret
        exact ⟨ret_bool (by first | exact HX.out | exact (decide_eq_false (by omega)).trans HX.out), hb1⟩
end Go.Proofs.YtpnjokhhbjpciaaGreatDoor
