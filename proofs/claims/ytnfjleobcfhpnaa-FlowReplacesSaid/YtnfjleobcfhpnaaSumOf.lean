/- The sum of nodes: the contract of tree.sumOf. -/
import Derived.Test.YtnfjleobcfhpnaaClone
import Derived.Test.YtnfjleobcfhpnaaItAdd
import Derived.Deep.RegionWith
namespace Go.Proofs.Ytnfjleobcfhpnaa
open Go.RowKit
/-- What sumOf asks of a node, or of none. -/
def SumK (w : World) (k : Kd) : Prop := Okl k.l ∧ ((k.v = .nilIface ∧ k.l = []) ∨ (∃ b A n c, k.v = lfv b ∧ RawAt 164 w b (lcs A n c (sall k.l))) ∨ (∃ b A n c h, k.v = brv b ∧ RawAt 183 w b (bcs A n c (sall k.l) h)))
theorem SumK.below {w w' : World} {k : Kd} (h : SumK w k) (hb : Below w.heap.size w w') : SumK w' k := by
  obtain ⟨ho, h | ⟨b, A, n, c, h1, h2⟩ | ⟨b, A, n, c, i, h1, h2⟩⟩ := h
  · exact ⟨ho, .inl h⟩
  · exact ⟨ho, .inr (.inl ⟨b, A, n, c, h1, h2.below hb h2.lt⟩)⟩
  · exact ⟨ho, .inr (.inr ⟨b, A, n, c, i, h1, h2.below hb h2.lt⟩)⟩
theorem NodeAt.sumK {h : Nat} {w : World} {k : Kd} (hk : NodeAt h w k) : SumK w k := by
  match h, hk with
  | 1, ⟨b, A, c, q⟩ => exact ⟨q.ok, .inr (.inl ⟨b, A, k.c, c, q.v, q.raw⟩)⟩
  | h + 2, ⟨b, A, c, ks, q, _⟩ => exact ⟨q.ok, .inr (.inr ⟨b, A, k.c, c, h + 2, q.v, q.raw⟩)⟩
theorem sall_fl {ks : List Kd} {j : Nat} (hj : j < ks.length) (ho : ∀ k ∈ ks, Okl k.l) : sall (fl (ks.take (j + 1))) = sadd (sall (fl (ks.take j))) (sall (kth ks j).l) := by
  rw [fl_take ks hj]
  refine sall_append _ _ _ rfl (fun i hi => ?_) (ho _ (kth_mem ks hj))
  obtain ⟨k, hk, h2⟩ := List.mem_flatMap.1 hi
  exact ho k (List.mem_of_mem_take hk) i h2
theorem ne_n (w : World) : (binOp .neq 135 .nilIface .nilIface).run Try.prog w = .ok (.bool false) w := by kernel_rfl
theorem ne_l (w : World) (b : Nat) : (binOp .neq 135 (lfv b) .nilIface).run Try.prog w = .ok (.bool true) w := by kernel_rfl
theorem ne_b (w : World) (b : Nat) : (binOp .neq 135 (brv b) .nilIface).run Try.prog w = .ok (.bool true) w := by kernel_rfl
set_option maxHeartbeats 4000000 in
set_option maxRecDepth 100000 in
theorem sumOf_any (A : Option Addr) (n c : Nat) (ks : List Kd) (w : World) (hA : VsAt w A (kvs ks)) (hl : ks.length = n) (hn : n ≤ 100000) (hk : ∀ k ∈ ks, SumK w k) (hs : (fl ks).length ≤ 100000) :
    Calls Try.prog 92 #[.slice A n c] w fun e w' => e = .returned (.agg (scs (sall (fl ks)))) ∧ Below w.heap.size w w' := by
  have HA := Lib.hid hA; clear hA
  have HL := Lib.hid hl; clear hl
  have HK := Lib.hid hk; clear hk
  have HZ := Lib.hid hs; clear hs
  have n1 := ne_n
  have n2 := ne_l
  have n3 := ne_b
  have m1 := na_l
  have m2 := na_b
  have m3 := me_l
  have m4 := me_b
  go_enter Try.func92, Try.ntmps92
  go_wp2
  obtain ⟨hr0, hq0, hb0, hs0⟩ := new2 w 128 128 (scs s0) (scs s0)
  change Code.wp _ _ _ _ ((w.alloc (.cells (scs s0) 128)).alloc (.cells (scs s0) 128))
  generalize ((w.alloc (.cells (scs s0) 128)).alloc (.cells (scs s0) 128)) = W1 at *
  have HQ := Lib.hid hq0; clear hq0
  have HR := Lib.hid hr0; clear hr0
  have HS := Lib.hid hs0; clear hs0
  go_loopg [8] n (fun k i wr => ∃ j : Nat, i = .int .i64 j ∧ j ≤ n ∧ n - j ≤ k ∧ Below (w.heap.size + 1) W1 wr ∧ Hid (RawAt 128 wr (w.heap.size + 1) (scs (sall (fl (ks.take j))))))
  case atStart => exact ⟨0, rfl, by omega, by omega, (Below.refl _ _).mono (Nat.le_of_eq rfl), HQ⟩
  case round =>
    obtain ⟨j, rfl, h1, h2, hb, hq⟩ := hrel
    have hsz : w.heap.size + 2 ≤ wr.heap.size := by have := HS.out; have := hb.size; omega
    have hbw := hb0.trans (hb.mono (Nat.le_succ _))
    by_cases hlt : j < n
    · have hm : j < ks.length := by rw [HL.out]; exact hlt
      obtain ⟨b, off, rfl, hbs, hc⟩ := HA.out (by rw [kvs_length]; omega)
      have e0 := hc j (by rw [kvs_length]; exact hm)
      rw [vth_kvs ks hm] at e0
      clear hc
      obtain ⟨H1, H2⟩ := old_cells hbw
      have hkj := (HK.out _ (kth_mem ks hm)).below hbw
      have hst := sall_fl hm (fun k hk => (HK.out k hk).1)
      have hfl : fl (ks.take (j + 1)) = fl (ks.take j) ++ (kth ks j).l := fl_take ks hm
      have hlen : (fl (ks.take (j + 1))).length ≤ 100000 := by
        have := HZ.out
        rw [← List.take_append_drop (j + 1) ks, fl_append, List.length_append] at this
        omega
      rw [hfl, List.length_append] at hlen
      have hok := sall_ok _ (fl (ks.take j)) rfl (fun i hi => by
        obtain ⟨k, hk, h2⟩ := List.mem_flatMap.1 hi
        exact (HK.out k (List.mem_of_mem_take hk)).1 i h2)
      have hoi := sall_ok _ (kth ks j).l rfl hkj.1
      have CD := Lib.hid fun (W : World) => iadd_any _ _ _ _ _ hok hoi (by omega) (by omega) hst.symm W
      clear hok hoi
      obtain ⟨_, hkj⟩ := hkj
      rcases hkj with ⟨hv, hnil⟩ | ⟨bk, Ak, nk, ck, hv, hraw⟩ | ⟨bk, Ak, nk, ck, ik, hv, hraw⟩
      · have HX := Lib.hid (show fl (ks.take (j + 1)) = fl (ks.take j) by rw [hfl, hnil, List.append_nil])
        rw [hv] at e0
        clear hfl hst CD hv hnil
        go_wp2_with fail
        go_roundg (gk - 1)
        case measure => omega
        case rel => exact ⟨j + 1, by go_num, by omega, by omega, hb, by rw [HX.out]; exact hq⟩
      · rw [hv] at e0
        have CS := Lib.hid fun (W : World) (hW : Below wr.heap.size wr W) => lsum_any bk nk ck Ak _ W (hraw.below hW hraw.lt)
        clear hfl hraw hv hst
        generalize hu : sall (fl (ks.take (j + 1))) = u at *
        have HU := Lib.hid hu; clear hu
        generalize sall (fl (ks.take j)) = z at *
        generalize sall (kth ks j).l = y at *
        unfold lfv at *
        unfold scs at CS CD
        have hzl := RawAt.lt hq.out
        obtain ⟨z0, z1, z2, z3, z4, z5⟩ := raw_scs hq.out
        have HZ1 := Lib.hid hq.out; clear hq
        go_wp2_with fail
        go_region_with (first
          | (go_at_call 147; ((with_reducible refine (CS.out _ (by first | exact Below.refl _ _ | exact (Below.refl _ _).drew)).mono ?_); rintro e w2 ⟨rfl, hb2⟩); have hr2 := RawAt.below (RawAt.drew_ HZ1.out) hb2 hzl; obtain ⟨d0, d1, d2, d3, d4, d5⟩ := raw_scs hr2)
          | (go_at_call 108; ((with_reducible refine (CD.out _).mono ?_); rintro e w3 ⟨rfl, hb3⟩); have hr3 := RawAt.below hr2 hb3 (RawAt.lt hr2); obtain ⟨g0, g1, g2, g3, g4, g5⟩ := raw_scs hr3; have f0 := RawAt.free hr3 0; have f1 := RawAt.free hr3 1; have f2 := RawAt.free hr3 2; have f3 := RawAt.free hr3 3; have f4 := RawAt.free hr3 4; have f5 := RawAt.free hr3 5))
        all_goals
          have hb4 := hb.drew.trans (hb2.mono (Nat.le_of_lt hzl))
          have hb5 := hb4.trans (hb3.mono (Nat.le_of_lt (RawAt.lt hr2)))
          go_wp2
          go_roundg (gk - 1)
          case measure => omega
          case rel => exact ⟨j + 1, by go_num, by omega, by omega, by first | exact ((((((hb5.setCell (p := ⟨w.heap.size + 1, _, none⟩) (Nat.le_refl _) _).setCell (p := ⟨w.heap.size + 1, _, none⟩) (Nat.le_refl _) _).setCell (p := ⟨w.heap.size + 1, _, none⟩) (Nat.le_refl _) _).setCell (p := ⟨w.heap.size + 1, _, none⟩) (Nat.le_refl _) _).setCell (p := ⟨w.heap.size + 1, _, none⟩) (Nat.le_refl _) _).setCell (p := ⟨w.heap.size + 1, _, none⟩) (Nat.le_refl _) _) | exact ((((((hb5.setCell (p := ⟨w.heap.size + 1, _, none⟩) (Nat.le_refl _) _).setCell (p := ⟨w.heap.size + 1, _, none⟩) (Nat.le_refl _) _).setCell (p := ⟨w.heap.size + 1, _, none⟩) (Nat.le_refl _) _).setCell (p := ⟨w.heap.size + 1, _, none⟩) (Nat.le_refl _) _).setCell (p := ⟨w.heap.size + 1, _, none⟩) (Nat.le_refl _) _).setCell (p := ⟨w.heap.size + 1, _, none⟩) (Nat.le_refl _) _).drew, by rw [HU.out]; refine Lib.hid ?_; exact (RawAt.set_ (RawAt.set_ (RawAt.set_ (RawAt.set_ (RawAt.set_ (RawAt.set_ hr3 _ _) _ _) _ _) _ _) _ _) _ _).of_eq (by simp [scs])⟩
      · rw [hv] at e0
        have CS := Lib.hid fun (W : World) (hW : Below wr.heap.size wr W) => bsum_any bk nk ck ik Ak _ W (hraw.below hW hraw.lt)
        clear hfl hraw hv hst
        generalize hu : sall (fl (ks.take (j + 1))) = u at *
        have HU := Lib.hid hu; clear hu
        generalize sall (fl (ks.take j)) = z at *
        generalize sall (kth ks j).l = y at *
        unfold brv at *
        unfold scs at CS CD
        have hzl := RawAt.lt hq.out
        obtain ⟨z0, z1, z2, z3, z4, z5⟩ := raw_scs hq.out
        have HZ1 := Lib.hid hq.out; clear hq
        go_wp2_with fail
        go_region_with (first
          | (go_at_call 148; ((with_reducible refine (CS.out _ (by first | exact Below.refl _ _ | exact (Below.refl _ _).drew)).mono ?_); rintro e w2 ⟨rfl, hb2⟩); have hr2 := RawAt.below (RawAt.drew_ HZ1.out) hb2 hzl; obtain ⟨d0, d1, d2, d3, d4, d5⟩ := raw_scs hr2)
          | (go_at_call 108; ((with_reducible refine (CD.out _).mono ?_); rintro e w3 ⟨rfl, hb3⟩); have hr3 := RawAt.below hr2 hb3 (RawAt.lt hr2); obtain ⟨g0, g1, g2, g3, g4, g5⟩ := raw_scs hr3; have f0 := RawAt.free hr3 0; have f1 := RawAt.free hr3 1; have f2 := RawAt.free hr3 2; have f3 := RawAt.free hr3 3; have f4 := RawAt.free hr3 4; have f5 := RawAt.free hr3 5))
        all_goals
          have hb4 := hb.drew.trans (hb2.mono (Nat.le_of_lt hzl))
          have hb5 := hb4.trans (hb3.mono (Nat.le_of_lt (RawAt.lt hr2)))
          go_wp2
          go_roundg (gk - 1)
          case measure => omega
          case rel => exact ⟨j + 1, by go_num, by omega, by omega, by first | exact ((((((hb5.setCell (p := ⟨w.heap.size + 1, _, none⟩) (Nat.le_refl _) _).setCell (p := ⟨w.heap.size + 1, _, none⟩) (Nat.le_refl _) _).setCell (p := ⟨w.heap.size + 1, _, none⟩) (Nat.le_refl _) _).setCell (p := ⟨w.heap.size + 1, _, none⟩) (Nat.le_refl _) _).setCell (p := ⟨w.heap.size + 1, _, none⟩) (Nat.le_refl _) _).setCell (p := ⟨w.heap.size + 1, _, none⟩) (Nat.le_refl _) _) | exact ((((((hb5.setCell (p := ⟨w.heap.size + 1, _, none⟩) (Nat.le_refl _) _).setCell (p := ⟨w.heap.size + 1, _, none⟩) (Nat.le_refl _) _).setCell (p := ⟨w.heap.size + 1, _, none⟩) (Nat.le_refl _) _).setCell (p := ⟨w.heap.size + 1, _, none⟩) (Nat.le_refl _) _).setCell (p := ⟨w.heap.size + 1, _, none⟩) (Nat.le_refl _) _).setCell (p := ⟨w.heap.size + 1, _, none⟩) (Nat.le_refl _) _).drew, by rw [HU.out]; refine Lib.hid ?_; exact (RawAt.set_ (RawAt.set_ (RawAt.set_ (RawAt.set_ (RawAt.set_ (RawAt.set_ hr3 _ _) _ _) _ _) _ _) _ _) _ _).of_eq (by simp [scs])⟩
    · have hj : j = n := by omega
      rw [List.take_of_length_le (by rw [HL.out]; omega)] at hq
      have hr1 := HR.out.below hb (Nat.lt_succ_self _)
      obtain ⟨c0, c1, c2, c3, c4, c5⟩ := raw_scs hq.out
      obtain ⟨r0, r1, r2, r3, r4, r5⟩ := raw_scs hr1
      have f0 := hr1.free 0
      have f1 := hr1.free 1
      have f2 := hr1.free 2
      have f3 := hr1.free 3
      have f4 := hr1.free 4
      have f5 := hr1.free 5
      go_wp2
      refine bodyPost_ret (v := .agg (scs (sall (fl ks)))) ?_ rfl ⟨rfl, ?_⟩
      · simp [results, Try.results92, go_sem, scs, r0, r1, r2, r3, r4, r5]
      · exact ((((((hbw.setCell (p := ⟨w.heap.size, _, none⟩) (Nat.le_refl _) _).setCell (p := ⟨w.heap.size, _, none⟩) (Nat.le_refl _) _).setCell (p := ⟨w.heap.size, _, none⟩) (Nat.le_refl _) _).setCell (p := ⟨w.heap.size, _, none⟩) (Nat.le_refl _) _).setCell (p := ⟨w.heap.size, _, none⟩) (Nat.le_refl _) _).setCell (p := ⟨w.heap.size, _, none⟩) (Nat.le_refl _) _)
end Go.Proofs.Ytnfjleobcfhpnaa
