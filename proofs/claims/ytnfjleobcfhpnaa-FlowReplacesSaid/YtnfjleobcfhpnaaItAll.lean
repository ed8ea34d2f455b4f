/- The sum of items: the contract of item.All. -/
import Derived.Test.YtnfjleobcfhpnaaItAdd
import Derived.Deep.RegionWith
namespace Go.Proofs.Ytnfjleobcfhpnaa
open Go.RowKit
set_option maxHeartbeats 4000000 in
set_option maxRecDepth 100000 in
theorem iall_any (A : Option Addr) (n c : Nat) (l : List I7) (w : World) (hA : ItsAt w A l) (hl : l.length = n) (hn : n ≤ 100000) (ho : Okl l) :
    Calls Try.prog 114 #[.slice A n c] w fun e w' => e = .returned (.agg (scs (sall l))) ∧ Below w.heap.size w w' := by
  have HA := Lib.hid hA; clear hA
  have HL := Lib.hid hl; clear hl
  have HO := Lib.hid ho; clear ho
  go_enter Try.func114, Try.ntmps114
  go_wp2
  obtain ⟨hr0, hq0, hb0, hs0⟩ := new2 w 128 128 (scs s0) (scs s0)
  change Code.wp _ _ _ _ ((w.alloc (.cells (scs s0) 128)).alloc (.cells (scs s0) 128))
  generalize ((w.alloc (.cells (scs s0) 128)).alloc (.cells (scs s0) 128)) = W1 at *
  have HQ := Lib.hid hq0; clear hq0
  have HR := Lib.hid hr0; clear hr0
  have HS := Lib.hid hs0; clear hs0
  go_loopg [8] n (fun k i wr => ∃ j : Nat, i = .int .i64 j ∧ j ≤ n ∧ n - j ≤ k ∧ Below (w.heap.size + 1) W1 wr ∧ Hid (RawAt 128 wr (w.heap.size + 1) (scs (sall (l.take j)))))
  case atStart => exact ⟨0, rfl, by omega, by omega, (Below.refl _ _).mono (Nat.le_of_eq rfl), HQ⟩
  case round =>
    obtain ⟨j, rfl, h1, h2, hb, hq⟩ := hrel
    have hsz : w.heap.size + 2 ≤ wr.heap.size := by have := HS.out; have := hb.size; omega
    have hbw := hb0.trans (hb.mono (Nat.le_succ _))
    by_cases hlt : j < n
    · have hm : j < l.length := by rw [HL.out]; exact hlt
      obtain ⟨b, off, rfl, hbs, hc⟩ := HA.out (by omega)
      obtain ⟨e0, e1, e2, e3, e4, e5, e6⟩ := hc j hm
      clear hc
      obtain ⟨H1, H2⟩ := old_cells hbw
      have hst := sall_take l hm
      have hlj : (l.take j).length ≤ 1000000 := by rw [List.length_take]; omega
      have hok := sall_ok _ (l.take j) rfl (HO.out.take_ j)
      have hoi := sof_ok (HO.out _ (ith_mem l hm))
      have CO := Lib.hid fun (W : World) => iof_any (ith l j) W
      have CD := Lib.hid fun (W : World) => iadd_any _ _ _ _ _ hok hoi (by omega) (by omega) hst.symm W
      clear hst hok hoi hlj
      generalize hu : sall (l.take (j + 1)) = u at *
      have HU := Lib.hid hu; clear hu
      generalize sall (l.take j) = z at *
      generalize ith l j = x at *
      have CO' : Hid (∀ (W : World), Calls Try.prog 123 #[.agg #[.int .i64 x.tag, .int .i64 x.id, .int .i64 x.d0, .int .i64 x.d1, .int .i64 x.d2, .int .i64 x.mx, .string x.tx]] W fun e w' => e = .returned (.agg #[.int .i64 (sof x).n, .int .i64 (sof x).d0, .int .i64 (sof x).d1, .int .i64 (sof x).d2, .int .i64 (sof x).mx, .int .i64 (sof x).pl]) ∧ Below W.heap.size W w') := CO
      have CD' : Hid (∀ (W : World), Calls Try.prog 108 #[.agg #[.int .i64 z.n, .int .i64 z.d0, .int .i64 z.d1, .int .i64 z.d2, .int .i64 z.mx, .int .i64 z.pl], .agg #[.int .i64 (sof x).n, .int .i64 (sof x).d0, .int .i64 (sof x).d1, .int .i64 (sof x).d2, .int .i64 (sof x).mx, .int .i64 (sof x).pl]] W fun e w' => e = .returned (.agg #[.int .i64 u.n, .int .i64 u.d0, .int .i64 u.d1, .int .i64 u.d2, .int .i64 u.mx, .int .i64 u.pl]) ∧ Below W.heap.size W w') := CD
      clear CO CD
      generalize sof x = y at *
      go_wp2_with fail
      have hxb : Below (w.heap.size + 1) wr (wr.alloc (.cells (ics x) 132)) := (Below.refl _ _).alloc (by omega) _
      have hxl : w.heap.size + 1 < wr.heap.size := by omega
      have hz1 : RawAt 128 (wr.alloc (.cells (ics x) 132)) (w.heap.size + 1) (scs z) := RawAt.below hq.out ((Below.refl _ _).alloc (Nat.le_refl _) _) hxl
      have hx1 : RawAt 132 (wr.alloc (.cells (ics x) 132)) wr.heap.size (ics x) := heap_alloc_new wr _
      change Code.wp _ _ _ _ (wr.alloc (.cells (ics x) 132))
      generalize (wr.alloc (.cells (ics x) 132)) = W2 at *
      generalize wr.heap.size = bx at hx1 ⊢
      have hzl := RawAt.lt hz1
      obtain ⟨z0, z1, z2, z3, z4, z5⟩ := raw_scs hz1
      obtain ⟨x0, x1, x2, x3, x4, x5, x6⟩ := raw_ics hx1
      have HZ1 := Lib.hid hz1; clear hz1 hx1
      go_wp2_with fail
      go_region_with (first
        | (go_at_call 123; ((with_reducible refine (CO'.out _).mono ?_); rintro e w2 ⟨rfl, hb2⟩); have hr2 := RawAt.below (RawAt.drew_ HZ1.out) hb2 hzl; obtain ⟨d0, d1, d2, d3, d4, d5⟩ := raw_scs hr2)
        | (go_at_call 108; ((with_reducible refine (CD'.out _).mono ?_); rintro e w3 ⟨rfl, hb3⟩); have hr3 := RawAt.below hr2 hb3 (RawAt.lt hr2); obtain ⟨g0, g1, g2, g3, g4, g5⟩ := raw_scs hr3; have f0 := RawAt.free hr3 0; have f1 := RawAt.free hr3 1; have f2 := RawAt.free hr3 2; have f3 := RawAt.free hr3 3; have f4 := RawAt.free hr3 4; have f5 := RawAt.free hr3 5))
      all_goals
        have hb4 := (hb.trans hxb).drew.trans (hb2.mono (Nat.le_of_lt hzl))
        have hb5 := hb4.trans (hb3.mono (Nat.le_of_lt (RawAt.lt hr2)))
        go_wp2
        go_roundg (gk - 1)
        case measure => omega
        case rel => exact ⟨j + 1, by go_num, by omega, by omega, by first | exact ((((((hb5.setCell (p := ⟨w.heap.size + 1, _, none⟩) (Nat.le_refl _) _).setCell (p := ⟨w.heap.size + 1, _, none⟩) (Nat.le_refl _) _).setCell (p := ⟨w.heap.size + 1, _, none⟩) (Nat.le_refl _) _).setCell (p := ⟨w.heap.size + 1, _, none⟩) (Nat.le_refl _) _).setCell (p := ⟨w.heap.size + 1, _, none⟩) (Nat.le_refl _) _).setCell (p := ⟨w.heap.size + 1, _, none⟩) (Nat.le_refl _) _) | exact ((((((hb5.setCell (p := ⟨w.heap.size + 1, _, none⟩) (Nat.le_refl _) _).setCell (p := ⟨w.heap.size + 1, _, none⟩) (Nat.le_refl _) _).setCell (p := ⟨w.heap.size + 1, _, none⟩) (Nat.le_refl _) _).setCell (p := ⟨w.heap.size + 1, _, none⟩) (Nat.le_refl _) _).setCell (p := ⟨w.heap.size + 1, _, none⟩) (Nat.le_refl _) _).setCell (p := ⟨w.heap.size + 1, _, none⟩) (Nat.le_refl _) _).drew, by rw [HU.out]; refine Lib.hid ?_; exact (RawAt.set_ (RawAt.set_ (RawAt.set_ (RawAt.set_ (RawAt.set_ (RawAt.set_ hr3 _ _) _ _) _ _) _ _) _ _) _ _).of_eq (by simp [scs])⟩
    · rw [List.take_of_length_le (by rw [HL.out]; omega)] at hq
      have hr1 := HR.out.below hb (Nat.lt_succ_self _)
      obtain ⟨c0, c1, c2, c3, c4, c5⟩ := raw_scs hq.out
      obtain ⟨r0, r1, r2, r3, r4, r5⟩ := raw_scs hr1
      have f0 := hr1.free 0
      have f1 := hr1.free 1
      have f2 := hr1.free 2
      have f3 := hr1.free 3
      have f4 := hr1.free 4
      have f5 := hr1.free 5
      go_wp2
      refine bodyPost_ret (v := .agg (scs (sall l))) ?_ rfl ⟨rfl, ?_⟩
      · simp [results, Try.results114, go_sem, scs, r0, r1, r2, r3, r4, r5]
      · exact ((((((hbw.setCell (p := ⟨w.heap.size, _, none⟩) (Nat.le_refl _) _).setCell (p := ⟨w.heap.size, _, none⟩) (Nat.le_refl _) _).setCell (p := ⟨w.heap.size, _, none⟩) (Nat.le_refl _) _).setCell (p := ⟨w.heap.size, _, none⟩) (Nat.le_refl _) _).setCell (p := ⟨w.heap.size, _, none⟩) (Nat.le_refl _) _).setCell (p := ⟨w.heap.size, _, none⟩) (Nat.le_refl _) _)
end Go.Proofs.Ytnfjleobcfhpnaa
