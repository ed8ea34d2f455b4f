/- The contracts of newLeaf and newBranch. -/
import Derived.Test.YtnfjleobcfhpnaaClone
import Derived.Test.YtnfjleobcfhpnaaSumOf
import Derived.Test.YtnfjleobcfhpnaaItAll
namespace Go.Proofs.Ytnfjleobcfhpnaa
open Go.RowKit
set_option maxHeartbeats 4000000 in
set_option maxRecDepth 100000 in
theorem newLeaf_any (A : Option Addr) (n c : Nat) (l : List I7) (w : World) (hA : ItsAt w A l) (hl : l.length = n) (hp : 0 < n) (hn : n ≤ 8) (hc : Caps A n c) (ho : Okl l) :
    Calls Try.prog 97 #[.slice A n c] w fun e w' => ∃ b, e = .returned (.pointer (some ⟨b, 0, none⟩)) ∧ (∀ W, Agr w.heap.size w'.heap.size w' W → NodeAt 1 W ⟨lfv b, l, n⟩) ∧ Below w.heap.size w w' := by
  have C1 := Lib.hid (cloneI_any A n c l w hA hl hp (by omega) hc)
  have C2 := Lib.hid fun (W : World) (hW : Below w.heap.size w W) => iall_any A n c l W (hA.below hW) hl (by omega) ho
  have HL := Lib.hid hl
  have HO := Lib.hid ho
  clear hA hl hc ho
  generalize hs : sall l = s at *
  have HS := Lib.hid hs; clear hs
  go_enter Try.func97, Try.ntmps97
  go_wp2_with fail
  refine C1.out.mono ?_
  rintro e w1 ⟨A1, c1, rfl, hb1, hI1, hC1⟩
  have HI := Lib.hid hI1; clear hI1
  have HC := Lib.hid hC1; clear hC1
  go_wp2_with fail
  refine (C2.out _ hb1).mono ?_
  rintro e w2 ⟨rfl, hb2⟩
  have a2 := hb1.trans (hb2.mono hb1.size)
  have a3 := a2.alloc a2.size (.cells (lcs A1 n c1 s) 164)
  have q3 : Below w2.heap.size w2 (w2.alloc (.cells (lcs A1 n c1 s) 164)) := (Below.refl _ _).alloc (Nat.le_refl _) _
  have HI3 : Hid (∀ W, Agr w.heap.size (w2.alloc (.cells (lcs A1 n c1 s) 164)).heap.size (w2.alloc (.cells (lcs A1 n c1 s) 164)) W → ItsAt W A1 l) := fun W hW => HI.out W (hW.below (hb2.trans (q3.mono hb2.size)))
  have hr : RawAt 164 (w2.alloc (.cells (lcs A1 n c1 s) 164)) w2.heap.size (lcs A1 n c1 s) := heap_alloc_new w2 _
  unfold scs
  go_wp2
  go_ret
  refine ⟨w2.heap.size, rfl, fun W hW => ⟨w2.heap.size, A1, c1, rfl, ?_, HI3.out W hW, HL.out, HC.out, hp, hn, HO.out⟩, a3⟩
  rw [HS.out]
  exact (hW.2 _ a2.size (by simp)).trans hr
theorem lt_p4 : ∀ h, h < p4 h
  | 0 => Nat.zero_lt_one
  | h + 1 => by have := lt_p4 h; show h + 1 < 4 * p4 h; omega
theorem Row.high {h : Nat} {w : World} {ks : List Kd} (hr : Row (h + 1) w ks) (hp : 0 < ks.length) : h < (fl ks).length := by
  have h1 := hr _ (kth_mem ks hp)
  have h2 := h1.size
  have h3 := h1.cnt.1
  have h4 := lt_p4 h
  have h5 := Nat.mul_le_mul_right (p4 (h + 1 - 1)) h3
  rw [Nat.one_mul, show h + 1 - 1 = h from rfl] at h5
  rw [show h + 1 - 1 = h from rfl] at h2
  have h6 : (kth ks 0).l.length ≤ (fl ks).length := by
    have e := fl_take ks hp
    have e2 : fl ks = fl (ks.take 1) ++ fl (ks.drop 1) := by rw [← fl_append, List.take_append_drop]
    rw [e2, e, List.length_append, List.length_append]
    omega
  omega
set_option maxHeartbeats 4000000 in
set_option maxRecDepth 100000 in
theorem newBranch_any (h : Nat) (A : Option Addr) (n c : Nat) (ks : List Kd) (w : World) (hA : VsAt w A (kvs ks)) (hl : ks.length = n) (hp : 0 < n) (hn : n ≤ 8) (hc : Caps A n c) (hr : Row (h + 1) w ks) (hw : Wd ks) (hz : (fl ks).length ≤ 100000) :
    Calls Try.prog 115 #[.slice A n c] w fun e w' => ∃ b, e = .returned (.pointer (some ⟨b, 0, none⟩)) ∧ (∀ W, Agr w.heap.size w'.heap.size w' W → Row (h + 1) W ks → NodeAt (h + 2) W ⟨brv b, fl ks, n⟩) ∧ Below w.heap.size w w' := by
  have hh : h ≤ 100000 := by have := hr.high (by omega); omega
  have C1 := Lib.hid fun (W : World) (hW : Below w.heap.size w W) => cloneV_any A n c (kvs ks) W (hA.below hW) hr.one (by rw [kvs_length]; exact hl) hp (by omega) hc
  have C2 := Lib.hid fun (W : World) (hW : Below w.heap.size w W) => sumOf_any A n c ks W (hA.below hW) hl (by omega) (fun k hk => ((hr k hk).below hW).sumK) hz
  have hm : 0 < ks.length := by omega
  have C3 := Lib.hid fun (W : World) (hW : Below w.heap.size w W) => heightOf_any (h + 1) W (kth ks 0) ((hr _ (kth_mem ks hm)).below hW)
  obtain ⟨b, off, rfl, hbs, hcell⟩ := hA (by rw [kvs_length]; omega)
  have E := Lib.hid fun (W : World) (hW : Below w.heap.size w W) => ((old_cells hW).1 b off hbs).trans (hcell 0 (by rw [kvs_length]; exact hm))
  rw [vth_kvs ks hm] at E
  have HL := Lib.hid hl
  have HR := Lib.hid hr
  have HW := Lib.hid hw
  clear hA hl hc hw hcell hr hz
  have e0 := E.out _ (Below.refl _ _)
  generalize hs : sall (fl ks) = s at *
  have HS := Lib.hid hs; clear hs
  generalize (kth ks 0).v = v at *
  go_enter Try.func115, Try.ntmps115
  unfold scs at C2
  go_wp2_with fail
  have hW2 : Below w.heap.size w w.drew := (Below.refl _ _).drew
  have hwr : IntKind.i64.wrap ((h : Int) + 1 + 1) = ((h + 2 : Nat) : Int) := by rw [IntWalk.i64_in _ (by omega)]; omega
  go_region_with (first
    | (go_at_call 124; ((with_reducible refine (C1.out _ hW2).mono ?_); rintro e w1 ⟨A1, c1, rfl, hb1, hI1, hC1⟩); have b1 := hW2.trans (hb1.mono hW2.size); have g1 := E.out _ b1)
    | (go_at_call 92; ((with_reducible refine (C2.out _ b1).mono ?_); rintro e w2 ⟨rfl, hb2⟩); have b2 := b1.trans (hb2.mono b1.size); have g2 := E.out _ b2)
    | (go_at_call 93; ((with_reducible refine (C3.out _ b2).mono ?_); rintro e w3 ⟨rfl, rfl⟩)))
  all_goals
    have b4 : Below w.heap.size w (w3.alloc (.cells (bcs A1 n c1 s (h + 2)) 183)) := b2.alloc b2.size _
    have q4 : Below w3.heap.size w3 (w3.alloc (.cells (bcs A1 n c1 s (h + 2)) 183)) := (Below.refl _ _).alloc (Nat.le_refl _) _
    have hv4 := fun W (hW : Agr w.heap.size (w3.alloc (.cells (bcs A1 n c1 s (h + 2)) 183)).heap.size (w3.alloc (.cells (bcs A1 n c1 s (h + 2)) 183)) W) => hI1 W (hW.below (hb2.trans (q4.mono hb2.size)))
    have r4 : RawAt 183 (w3.alloc (.cells (bcs A1 n c1 s (h + 2)) 183)) w3.heap.size (bcs A1 n c1 s (h + 2)) := heap_alloc_new w3 _
    have HX : Hid (∃ b', (Value.pointer (some ⟨w3.heap.size, 0, none⟩)) = .pointer (some ⟨b', 0, none⟩) ∧ (∀ W, Agr w.heap.size (w3.alloc (.cells (bcs A1 n c1 s (h + 2)) 183)).heap.size (w3.alloc (.cells (bcs A1 n c1 s (h + 2)) 183)) W → Row (h + 1) W ks → NodeAt (h + 2) W ⟨brv b', fl ks, n⟩) ∧ Below w.heap.size w (w3.alloc (.cells (bcs A1 n c1 s (h + 2)) 183))) :=
      ⟨w3.heap.size, rfl, fun W hW hr => ⟨w3.heap.size, A1, c1, ks, ⟨rfl, by rw [HS.out]; exact (hW.2 _ b2.size (by simp)).trans r4, hv4 W hW, HL.out, hC1, hp, hn, HR.out.okl, rfl⟩, fun x hx => ⟨hr x hx, HW.out x hx⟩⟩, b4⟩
    clear hv4 r4 q4 b4 hI1
    unfold bcs at HX
    go_wp2
    go_ret
    obtain ⟨b', e1, e2, e3⟩ := HX.out
    injection e1 with e1
    injection e1 with e1
    injection e1 with e1 _
    subst e1
    exact ⟨w3.heap.size, rfl, e2, e3⟩
end Go.Proofs.Ytnfjleobcfhpnaa
