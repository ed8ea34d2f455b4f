/- The sum of items as the document's own answer has it: the contract of bodkinref04.All. -/
import Derived.Test.YtbbplppcabeojaaItAdd
import Derived.Deep.RegionWith
namespace Go.Proofs.Ytbbplppcabeojaa
open Go.RowKit
def rsum (n : Int) (l : List I7) : S6 := ⟨n, (sall l).d0, (sall l).d1, (sall l).d2, (sall l).mx, (sall l).pl⟩
theorem rsum_all (l : List I7) (hl : Okl l) : rsum (l.length : Int) l = sall l := by
  have := (sall_ok _ l rfl hl).1
  exact S6.ext_ this.symm rfl rfl rfl rfl rfl
theorem rsum_step (n : Int) (l : List I7) (hl : Okl l) {j : Nat} (hj : j < l.length) : rstep (rsum n (l.take j)) (ith l j) j = rsum n (l.take (j + 1)) := by
  have h := rstep_all (l.take j) (ith l j) (hl.take_ j) (hl _ (ith_mem l hj)) n
  rw [← take_ith l hj, show ((l.take j).length : Int) = (j : Int) from by rw [List.length_take]; omega] at h
  exact h
theorem rsum_small (n : Int) (l : List I7) (hl : Okl l) (hn : l.length ≤ 1000000) : Small (rsum n l).d0 ∧ Small (rsum n l).d1 ∧ Small (rsum n l).d2 := by
  obtain ⟨_, h1, h2, h3, _⟩ := (sall_ok _ l rfl hl).small (by omega)
  exact ⟨h1, h2, h3⟩
set_option maxHeartbeats 4000000 in
set_option maxRecDepth 100000 in
theorem rall_any (A : Option Addr) (n c : Nat) (l : List I7) (w : World) (hA : ItsAt w A l) (hl : l.length = n) (hn : n ≤ 100000) (ho : Okl l) :
    Calls Try.prog 59 #[.slice A n c] w fun e w' => e = .returned (.agg (scs (sall l))) ∧ Below w.heap.size w w' := by
  have HA := Lib.hid hA; clear hA
  have HL := Lib.hid hl; clear hl
  have HO := Lib.hid ho; clear ho
  go_enter Try.func59, Try.ntmps59
  go_wp2
  obtain ⟨hr0, hq0, hb0, hs0⟩ := new2 w 93 93 (scs s0) (scs (rsum n []))
  change Code.wp _ _ _ _ ((w.alloc (.cells (scs s0) 93)).alloc (.cells (scs (rsum n [])) 93))
  generalize ((w.alloc (.cells (scs s0) 93)).alloc (.cells (scs (rsum n [])) 93)) = W1 at *
  have HQ := Lib.hid hq0; clear hq0
  have HR := Lib.hid hr0; clear hr0
  have HS := Lib.hid hs0; clear hs0
  go_loopg [12] n (fun k i wr => ∃ j : Nat, i = .int .i64 j ∧ j ≤ n ∧ n - j ≤ k ∧ Below (w.heap.size + 1) W1 wr ∧ Hid (RawAt 93 wr (w.heap.size + 1) (scs (rsum n (l.take j)))))
  case atStart => exact ⟨0, rfl, by omega, by omega, (Below.refl _ _).mono (Nat.le_of_eq rfl), HQ⟩
  case round =>
    obtain ⟨j, rfl, h1, h2, hb, hq⟩ := hrel
    have hsz : w.heap.size + 2 ≤ wr.heap.size := by have := HS.out; have := hb.size; omega
    have hbw := hb0.trans (hb.mono (Nat.le_succ _))
    by_cases hlt : j < n
    · have hm : j < l.length := by rw [HL.out]; exact hlt
      obtain ⟨b, off, rfl, hbs, hc⟩ := HA.out (by omega)
      obtain ⟨e0, e1, e2, e3, e4, e5, e6⟩ := hc j hm
      clear hc
      obtain ⟨H1, H2⟩ := old_cells hbw
      obtain ⟨sm0, sm1, sm2⟩ := rsum_small n (l.take j) (HO.out.take_ j) (by rw [List.length_take]; omega)
      obtain ⟨⟨ox0, ox1, ox2⟩, _⟩ := HO.out _ (ith_mem l hm)
      have HU := Lib.hid (rsum_step n l HO.out hm)
      generalize rsum n (l.take j) = z at *
      generalize ith l j = x at *
      obtain ⟨zn, zd0, zd1, zd2, zm, zp⟩ := z
      obtain ⟨xt, xi, xd0, xd1, xd2, xm, xx⟩ := x
      obtain ⟨m1, m2⟩ := sm0
      obtain ⟨m3, m4⟩ := sm1
      obtain ⟨m5, m6⟩ := sm2
      obtain ⟨o1, o2⟩ := ox0
      obtain ⟨o3, o4⟩ := ox1
      obtain ⟨o5, o6⟩ := ox2
      simp only at m1 m2 m3 m4 m5 m6 o1 o2 o3 o4 o5 o6 e0 e1 e2 e3 e4 e5 e6
      go_wp2
      have hxb : Below (w.heap.size + 1) wr (wr.alloc (.cells (ics ⟨xt, xi, xd0, xd1, xd2, xm, xx⟩) 75)) := (Below.refl _ _).alloc (by omega) _
      have hxl : w.heap.size + 1 < wr.heap.size := by omega
      have hz1 : RawAt 93 (wr.alloc (.cells (ics ⟨xt, xi, xd0, xd1, xd2, xm, xx⟩) 75)) (w.heap.size + 1) (scs ⟨zn, zd0, zd1, zd2, zm, zp⟩) := RawAt.below hq.out ((Below.refl _ _).alloc (Nat.le_refl _) _) hxl
      have hx1 : RawAt 75 (wr.alloc (.cells (ics ⟨xt, xi, xd0, xd1, xd2, xm, xx⟩) 75)) wr.heap.size (ics ⟨xt, xi, xd0, xd1, xd2, xm, xx⟩) := heap_alloc_new wr _
      change Code.wp _ _ _ _ (wr.alloc (.cells (ics ⟨xt, xi, xd0, xd1, xd2, xm, xx⟩) 75))
      generalize (wr.alloc (.cells (ics ⟨xt, xi, xd0, xd1, xd2, xm, xx⟩) 75)) = W2 at *
      have hbx0 : w.heap.size + 1 ≠ wr.heap.size := by omega
      generalize wr.heap.size = bx at hx1 hbx0 ⊢
      have hbx1 : bx ≠ w.heap.size + 1 := fun e => hbx0 e.symm
      have hb2 := hb.trans hxb
      have HZ1 := Lib.hid hz1; clear hz1
      have HX1 := Lib.hid hx1; clear hx1 e0 e1 e2 e3 e4 e5 e6 H1 H2 hxb hb hbw hsz hxl
      obtain ⟨gO, hgO⟩ : ∃ g, g = gk := ⟨gk, rfl⟩
      subst hgO
      go_loopg [6] 3 (fun k v wq => ∃ i : Nat, v = .int .i64 i ∧ i ≤ 3 ∧ 3 - i ≤ k ∧ Below (w.heap.size + 1) W1 wq ∧ Hid (RawAt 75 wq bx (ics ⟨xt, xi, xd0, xd1, xd2, xm, xx⟩)) ∧
          Hid (RawAt 93 wq (w.heap.size + 1) (scs ⟨zn, if 1 ≤ i then zd0 + xd0 else zd0, if 2 ≤ i then zd1 + xd1 else zd1, if 3 ≤ i then zd2 + xd2 else zd2, zm, zp⟩)))
      case atStart => exact ⟨0, rfl, by omega, by omega, hb2, HX1, HZ1⟩
      case round =>
        obtain ⟨i, rfl, i1, i2, hb, hx, hz⟩ := hrel
        obtain rfl | rfl | rfl | rfl : i = 0 ∨ i = 1 ∨ i = 2 ∨ i = 3 := by omega
        · have c1 : wr.cell? ⟨w.heap.size + 1, 1, none⟩ = some (.int .i64 zd0) := RawAt.cell hz.out 1
          have f1 := RawAt.free hz.out 1
          have y1 : wr.cell? ⟨bx, 2, none⟩ = some (.int .i64 xd0) := RawAt.cell hx.out 2
          go_wp2
          go_region
          all_goals go_wp2
          all_goals go_roundg (gk - 1)
          case measure => omega
          case rel => exact ⟨1, rfl, by omega, by omega, (hb.setCell (p := ⟨w.heap.size + 1, _, none⟩) (Nat.le_refl _) _).drew, RawAt.set_other (RawAt.drew_ hx.out) hbx1 _ _, (RawAt.set_ hz.out _ _).drew_.of_eq (by simp [scs])⟩
        · have c2 : wr.cell? ⟨w.heap.size + 1, 2, none⟩ = some (.int .i64 zd1) := RawAt.cell hz.out 2
          have f2 := RawAt.free hz.out 2
          have y2 : wr.cell? ⟨bx, 3, none⟩ = some (.int .i64 xd1) := RawAt.cell hx.out 3
          go_wp2
          go_region
          all_goals go_wp2
          all_goals go_roundg (gk - 1)
          case measure => omega
          case rel => exact ⟨2, rfl, by omega, by omega, (hb.setCell (p := ⟨w.heap.size + 1, _, none⟩) (Nat.le_refl _) _).drew, RawAt.set_other (RawAt.drew_ hx.out) hbx1 _ _, (RawAt.set_ hz.out _ _).drew_.of_eq (by simp [scs])⟩
        · have c3 : wr.cell? ⟨w.heap.size + 1, 3, none⟩ = some (.int .i64 zd2) := RawAt.cell hz.out 3
          have f3 := RawAt.free hz.out 3
          have y3 : wr.cell? ⟨bx, 4, none⟩ = some (.int .i64 xd2) := RawAt.cell hx.out 4
          go_wp2
          go_region
          all_goals go_wp2
          all_goals go_roundg (gk - 1)
          case measure => omega
          case rel => exact ⟨3, rfl, by omega, by omega, (hb.setCell (p := ⟨w.heap.size + 1, _, none⟩) (Nat.le_refl _) _).drew, RawAt.set_other (RawAt.drew_ hx.out) hbx1 _ _, (RawAt.set_ hz.out _ _).drew_.of_eq (by simp [scs])⟩
        · have hz' : RawAt 93 wr (w.heap.size + 1) (scs ⟨zn, zd0 + xd0, zd1 + xd1, zd2 + xd2, zm, zp⟩) := hz.out
          have c4 : wr.cell? ⟨w.heap.size + 1, 4, none⟩ = some (.int .i64 zm) := RawAt.cell hz' 4
          have c5 : wr.cell? ⟨w.heap.size + 1, 5, none⟩ = some (.int .i64 zp) := RawAt.cell hz' 5
          have f4 := RawAt.free hz' 4
          have f5 := RawAt.free hz' 5
          have y5 : wr.cell? ⟨bx, 5, none⟩ = some (.int .i64 xm) := RawAt.cell hx.out 5
          have HZ3 := Lib.hid hz'; clear hz'
          by_cases hmx : zm < xm
          · have HU2 := Lib.hid (show rsum n (l.take (j + 1)) = ⟨zn, zd0 + xd0, zd1 + xd1, zd2 + xd2, xm, j⟩ from HU.out.symm.trans (by simp [rstep, hmx]))
            go_wp2
            go_roundg (gO - 1)
            case measure => omega
            case rel => exact ⟨j + 1, by go_num, by omega, by omega, (hb.setCell (p := ⟨w.heap.size + 1, _, none⟩) (Nat.le_refl _) _).setCell (p := ⟨w.heap.size + 1, _, none⟩) (Nat.le_refl _) _, by rw [HU2.out]; refine Lib.hid ?_; exact ((RawAt.set_ HZ3.out _ _).set_ _ _).of_eq (by simp [scs])⟩
          · have HU2 := Lib.hid (show rsum n (l.take (j + 1)) = ⟨zn, zd0 + xd0, zd1 + xd1, zd2 + xd2, zm, zp⟩ from HU.out.symm.trans (by simp [rstep, hmx]))
            go_wp2
            go_roundg (gO - 1)
            case measure => omega
            case rel => exact ⟨j + 1, by go_num, by omega, by omega, hb, by rw [HU2.out]; exact HZ3.out⟩
    · rw [List.take_of_length_le (by rw [HL.out]; omega), show (n : Int) = (l.length : Int) from by rw [HL.out], rsum_all l HO.out] at hq
      have hr1 := HR.out.below hb (Nat.lt_succ_self _)
      obtain ⟨c0, c1, c2, c3, c4, c5⟩ := raw_scs hq.out
      obtain ⟨r0, r1, r2, r3, r4, r5⟩ := raw_scs hr1
      have f0 := hr1.free 0
      have f1 := hr1.free 1
      have f2 := hr1.free 2
      have f3 := hr1.free 3
      have f4 := hr1.free 4
      have f5 := hr1.free 5
      go_wp2
      refine bodyPost_ret (v := .agg (scs (sall l))) ?_ rfl ⟨rfl, ?_⟩
      · simp [results, Try.results59, go_sem, scs, r0, r1, r2, r3, r4, r5]
      · exact ((((((hbw.setCell (p := ⟨w.heap.size, _, none⟩) (Nat.le_refl _) _).setCell (p := ⟨w.heap.size, _, none⟩) (Nat.le_refl _) _).setCell (p := ⟨w.heap.size, _, none⟩) (Nat.le_refl _) _).setCell (p := ⟨w.heap.size, _, none⟩) (Nat.le_refl _) _).setCell (p := ⟨w.heap.size, _, none⟩) (Nat.le_refl _) _).setCell (p := ⟨w.heap.size, _, none⟩) (Nat.le_refl _) _)
end Go.Proofs.Ytbbplppcabeojaa
