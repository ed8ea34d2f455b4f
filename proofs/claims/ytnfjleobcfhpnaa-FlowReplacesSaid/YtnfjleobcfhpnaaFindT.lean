/- A place in a tree: the contract of tree.find. -/
import Derived.Test.YtnfjleobcfhpnaaFindP
import Derived.WalkMore
import Derived.Deep.RegionHeld3
namespace Go.Proofs.Ytnfjleobcfhpnaa
open Go.RowKit
theorem newA {w W : World} (h : Below (w.alloc (.cells #[.int .i64 0, .int .i64 0, .int .i64 0, .int .i64 0, .int .i64 0, .int .i64 0] 128)).heap.size (w.alloc (.cells #[.int .i64 0, .int .i64 0, .int .i64 0, .int .i64 0, .int .i64 0, .int .i64 0] 128)) W) : RawAt 128 W w.heap.size #[.int .i64 0, .int .i64 0, .int .i64 0, .int .i64 0, .int .i64 0, .int .i64 0] :=
  RawAt.below (heap_alloc_new w _) h (by simp)
theorem newD {w W : World} (h : Below (w.alloc (.cells #[.int .i64 0, .int .i64 0, .int .i64 0, .int .i64 0, .int .i64 0, .int .i64 0] 128)).drew.heap.size (w.alloc (.cells #[.int .i64 0, .int .i64 0, .int .i64 0, .int .i64 0, .int .i64 0, .int .i64 0] 128)).drew W) : RawAt 128 W w.heap.size #[.int .i64 0, .int .i64 0, .int .i64 0, .int .i64 0, .int .i64 0, .int .i64 0] :=
  RawAt.below (show RawAt 128 (w.alloc (.cells #[.int .i64 0, .int .i64 0, .int .i64 0, .int .i64 0, .int .i64 0, .int .i64 0] 128)).drew w.heap.size _ from heap_alloc_new w _) h (by simp)
theorem b6 {B b : Nat} {a w : World} {v0 v1 v2 v3 v4 v5 : Value} (h : Below B a w) (hb : B ≤ b) : Below B a ((((((w.setCell ⟨b, 0, none⟩ v0).setCell ⟨b, 1, none⟩ v1).setCell ⟨b, 2, none⟩ v2).setCell ⟨b, 3, none⟩ v3).setCell ⟨b, 4, none⟩ v4).setCell ⟨b, 5, none⟩ v5) :=
  (((((h.setCell hb _).setCell hb _).setCell hb _).setCell hb _).setCell hb _).setCell hb _
theorem raw_six {t : TypeId} {w : World} {b : Nat} {a0 a1 a2 a3 a4 a5 : Value} (h : RawAt t w b #[a0, a1, a2, a3, a4, a5]) : w.cell? ⟨b, 0, none⟩ = some a0 ∧ w.cell? ⟨b, 1, none⟩ = some a1 ∧ w.cell? ⟨b, 2, none⟩ = some a2 ∧ w.cell? ⟨b, 3, none⟩ = some a3 ∧ w.cell? ⟨b, 4, none⟩ = some a4 ∧ w.cell? ⟨b, 5, none⟩ = some a5 :=
  ⟨RawAt.cell h 0, RawAt.cell h 1, RawAt.cell h 2, RawAt.cell h 3, RawAt.cell h 4, RawAt.cell h 5⟩
set_option maxHeartbeats 40000000 in
set_option maxRecDepth 100000 in
theorem find_node (H : Nat) (k : Kd) (l : List I7) (dim : Nat) (v bi : Int) (bd bv bb : Nat) (w : World) (hk : NodeAt H w k) (hl : k.l = l) (ho : Okl l) (hz : l.length ≤ 100000) (hd : dim ≤ 3) (hE : Env w dim v bi bd bv bb) :
    Calls Try.prog 130 #[k.v, .func (.func 129) #[] #[.pointer (some ⟨bd, 0, none⟩), .pointer (some ⟨bv, 0, none⟩), .pointer (some ⟨bb, 0, none⟩)]] w fun e w' => ∃ (q : Nat) (z : Int), FindIs l dim v bi q ∧ 0 ≤ z ∧ z ≤ H ∧ e = .returned (.agg (vcs q (sall (l.take q)) z)) ∧ Below w.heap.size w w' := by
  have HW0 : Hid (Way l k.l dim v bi 0) := ⟨by rw [hl]; simp, by rw [hl]; omega, .inl rfl, .inl (by rw [hl, Nat.zero_add])⟩
  have HK := Lib.hid hk
  have HO := Lib.hid ho
  have HE := Lib.hid hE
  have hH : H ≤ 100000 := by
    have h1 := hk.size
    have h2 := hk.cnt.1
    have h3 := lt_p4 (H - 1)
    have h4 := Nat.mul_le_mul_right (p4 (H - 1)) h2
    rw [hl] at h1
    omega
  clear hk ho hE hl
  go_enter Try.func130, Try.ntmps130
  go_wp2
  go_step3
  go_wp2
  go_step3
  go_wp2
  obtain ⟨hr0, hq0, hb0, hs0⟩ := new2 w 171 171 (vcs 0 s0 0) (vcs 0 s0 0)
  change Code.wp _ _ _ _ ((w.alloc (.cells (vcs 0 s0 0) 171)).alloc (.cells (vcs 0 s0 0) 171))
  generalize ((w.alloc (.cells (vcs 0 s0 0) 171)).alloc (.cells (vcs 0 s0 0) 171)) = W1 at *
  have HQ := Lib.hid hq0; clear hq0
  have HR := Lib.hid hr0; clear hr0
  have HS := Lib.hid hs0; clear hs0
  go_loopg [0] H (fun g nv wr => ∃ (κ : Kd) (q h z : Nat), nv = κ.v ∧ z + h = H ∧ h ≤ g ∧ Below (w.heap.size + 1) W1 wr ∧ Hid (RawAt 171 wr (w.heap.size + 1) (vcs 0 (sall (l.take q)) z)) ∧ Hid (NodeAt h w κ) ∧ Hid (Way l κ.l dim v bi q))
  case atStart => exact ⟨k, 0, H, 0, rfl, by omega, Nat.le_refl _, (Below.refl _ _).mono (Nat.le_of_eq rfl), HQ, HK, HW0⟩
  case round =>
    obtain ⟨κ, q, h, z, rfl, h1, h2, hb, hq, hN, hWy⟩ := hrel
    obtain ⟨p0, p1, p2, p3, p4_, p5, p6, p7⟩ := raw_vcs hq.out
    have pf7 := hq.out.free 7
    have hsz : w.heap.size + 2 ≤ wr.heap.size := by have := HS.out; have := hb.size; omega
    have hbw := hb0.trans (hb.mono (Nat.le_succ _))
    have hwz : IntKind.i64.wrap ((z : Int) + 1) = (z : Int) + 1 := IntWalk.i64_in _ (by omega)
    have hfz : Below (w.heap.size + 1) W1 (wr.setCell ⟨w.heap.size + 1, 7, none⟩ (.int .i64 ((z : Int) + 1))) := hb.setCell (p := ⟨w.heap.size + 1, 7, none⟩) (Nat.le_refl _) _
    have hrz : RawAt 171 (wr.setCell ⟨w.heap.size + 1, 7, none⟩ (.int .i64 ((z : Int) + 1))) (w.heap.size + 1) (vcs 0 (sall (l.take q)) ((z : Int) + 1)) := (hq.out.set_ 7 _).of_eq (by simp [vcs])
    have HQ2 := Lib.hid hrz
    clear hrz
    match h, hN with
    | 1, hN =>
      obtain ⟨b, A, c, qn⟩ := hN.out
      have t1 := ne_l
      have t2 := ta_lb
      have t3 := ta_ll
      have hbz := hb0.trans (hfz.mono (Nat.le_succ _))
      have e0 := (raw_lcs (qn.raw.below hbz qn.raw.lt)).1
      rw [qn.v]
      unfold lfv at *
      go_wp2_with fail
      have hlen := qn.len
      have hn8 := qn.most
      have hpos := qn.pos
      have HA := Lib.hid qn.its
      have hml := hWy.out.le
      rw [hlen] at hml
      have HL := Lib.hid hlen
      have HOk := Lib.hid qn.ok
      clear qn hN hlen e0
      generalize κ.c = n at *
      obtain ⟨gO, hgO⟩ : ∃ g, g = gk := ⟨gk, rfl⟩
      subst hgO
      have hWc := hWy
      refine gen_world (K := fun W => Code.wp _ _ _ _ W) (B := w.heap.size + 1) (w := W1) (t := 171) (b := w.heap.size + 1) (cs := vcs 0 (sall (l.take q)) ((z : Int) + 1)) hfz HQ2.out (fun W2 hf2 hr2 => ?_)
      have HR2 := Lib.hid hr2
      clear hr2 HQ2 hfz hbz p0 p1 p2 p3 p4_ p5 p6 p7 pf7
      go_loopg [53] n (fun g iv wr => ∃ j : Nat, iv = .int .i64 j ∧ j ≤ n ∧ n - j ≤ g ∧ Below (w.heap.size + 1) W1 wr ∧ Hid (RawAt 171 wr (w.heap.size + 1) (vcs 0 (sall (l.take (q + j))) ((z : Int) + 1))) ∧ Hid (q + j = 0 ∨ ¬ Sto l dim v bi (q + j)))
      case atStart => exact ⟨0, rfl, by omega, by omega, hf2, HR2, hWy.out.no⟩
      case round =>
        obtain ⟨j, rfl, g1, g2, hbr, hqr, hno⟩ := hrel
        have hbwr := hb0.trans (hbr.mono (Nat.le_succ _))
        have hszr : w.heap.size + 2 ≤ wr.heap.size := by have := HS.out; have := hbr.size; omega
        by_cases hlt : j < n
        · have hm : j < κ.l.length := by rw [HL.out]; exact hlt
          obtain ⟨bA, off, rfl, hbA, hc⟩ := HA.out (by omega)
          obtain ⟨x0, x1, x2, x3, x4, x5, x6⟩ := hc j hm
          clear hc
          obtain ⟨O1, O2⟩ := old_cells hbwr
          have hst := sall_at1 hWy.out hm
          have hok := sall_ok _ (l.take (q + j)) rfl (HO.out.take_ (q + j))
          have hoi := sof_ok (HOk.out _ (ith_mem κ.l hm))
          have hlj : (l.take (q + j)).length ≤ 1000000 := by rw [List.length_take]; omega
          have CO : Hid (∀ (W : World), Calls Try.prog 123 #[.agg (ics (ith κ.l j))] W fun e w' => e = .returned (.agg (scs (sof (ith κ.l j)))) ∧ Below W.heap.size W w') := fun W => iof_any (ith κ.l j) W
          have CD := Lib.hid fun (W : World) => iadd_any _ _ _ _ _ hok hoi (by omega) (by omega) hst.symm W
          have HU := Lib.hid (show ssz (sall (l.take (q + (j + 1)))) dim = sdim (l.take (q + (j + 1))) dim from ssz_sdim _ (HO.out.take_ _) dim)
          clear hst hok hoi hlj
          generalize hu : sall (l.take (q + (j + 1))) = u at *
          have HUU := Lib.hid hu; clear hu
          have HSN := Lib.hid (show (sall (l.take (q + j))).n = ((q + j : Nat) : Int) from by rw [sall_n _ (HO.out.take_ _), List.length_take, Nat.min_eq_left (by omega)])
          generalize hss : sall (l.take (q + j)) = s at *
          have HSS := Lib.hid hss; clear hss
          generalize ith κ.l j = x at *
          generalize sof x = y at *
          unfold ics scs at CO
          unfold scs at CD
          go_wp2_with fail
          have hxb : Below (w.heap.size + 1) wr (wr.alloc (.cells (ics x) 132)) := (Below.refl _ _).alloc (by omega) _
          have hpx : RawAt 171 (wr.alloc (.cells (ics x) 132)) (w.heap.size + 1) (vcs 0 s ((z : Int) + 1)) := RawAt.below hqr.out ((Below.refl _ _).alloc (Nat.le_refl _) _) hqr.out.lt
          have hx1 : RawAt 132 (wr.alloc (.cells (ics x) 132)) wr.heap.size (ics x) := heap_alloc_new wr _
          change Code.wp _ _ _ _ (wr.alloc (.cells (ics x) 132))
          have hle1 : w.heap.size + 1 ≤ (wr.alloc (.cells (ics x) 132)).heap.size := by simp; omega
          generalize (wr.alloc (.cells (ics x) 132)) = W2 at *
          have HLE := Lib.hid hle1; clear hle1
          generalize wr.heap.size = bx at hx1 ⊢
          have HPX := Lib.hid hpx; clear hpx
          have HX1 := Lib.hid hx1; clear hx1
          have MK := Lib.hid fun (W : World) (hW : Below W2.heap.size W2 W) => (by
            obtain ⟨_, y1, y2, y3, y4, y5, y6, _⟩ := raw_vcs (HPX.out.below hW HPX.out.lt)
            obtain ⟨i0, i1, i2, i3, i4, i5, i6⟩ := raw_ics (HX1.out.below hW HX1.out.lt)
            exact ⟨y1, y2, y3, y4, y5, y6, i0, i1, i2, i3, i4, i5, i6, hW⟩ : W.cell? ⟨w.heap.size + 1, 1, none⟩ = some (.int .i64 s.n) ∧ W.cell? ⟨w.heap.size + 1, 2, none⟩ = some (.int .i64 s.d0) ∧ W.cell? ⟨w.heap.size + 1, 3, none⟩ = some (.int .i64 s.d1) ∧ W.cell? ⟨w.heap.size + 1, 4, none⟩ = some (.int .i64 s.d2) ∧ W.cell? ⟨w.heap.size + 1, 5, none⟩ = some (.int .i64 s.mx) ∧ W.cell? ⟨w.heap.size + 1, 6, none⟩ = some (.int .i64 s.pl) ∧ W.cell? ⟨bx, 0, none⟩ = some (.int .i64 x.tag) ∧ W.cell? ⟨bx, 1, none⟩ = some (.int .i64 x.id) ∧ W.cell? ⟨bx, 2, none⟩ = some (.int .i64 x.d0) ∧ W.cell? ⟨bx, 3, none⟩ = some (.int .i64 x.d1) ∧ W.cell? ⟨bx, 4, none⟩ = some (.int .i64 x.d2) ∧ W.cell? ⟨bx, 5, none⟩ = some (.int .i64 x.mx) ∧ W.cell? ⟨bx, 6, none⟩ = some (.string x.tx) ∧ Below W2.heap.size W2 W)
          have hW2 : Below W2.heap.size W2 W2.drew := (Below.refl _ _).drew
          have hA0 : Below W2.heap.size W2 (W2.alloc (.cells #[.int .i64 0, .int .i64 0, .int .i64 0, .int .i64 0, .int .i64 0, .int .i64 0] 128)).drew := ((Below.refl _ _).alloc (Nat.le_refl _) _).drew
          go_wp2_with fail
          go_region_held3 (fun W => W.cell? ⟨w.heap.size + 1, 1, none⟩ = some (.int .i64 s.n) ∧ W.cell? ⟨w.heap.size + 1, 2, none⟩ = some (.int .i64 s.d0) ∧ W.cell? ⟨w.heap.size + 1, 3, none⟩ = some (.int .i64 s.d1) ∧ W.cell? ⟨w.heap.size + 1, 4, none⟩ = some (.int .i64 s.d2) ∧ W.cell? ⟨w.heap.size + 1, 5, none⟩ = some (.int .i64 s.mx) ∧ W.cell? ⟨w.heap.size + 1, 6, none⟩ = some (.int .i64 s.pl) ∧ W.cell? ⟨bx, 0, none⟩ = some (.int .i64 x.tag) ∧ W.cell? ⟨bx, 1, none⟩ = some (.int .i64 x.id) ∧ W.cell? ⟨bx, 2, none⟩ = some (.int .i64 x.d0) ∧ W.cell? ⟨bx, 3, none⟩ = some (.int .i64 x.d1) ∧ W.cell? ⟨bx, 4, none⟩ = some (.int .i64 x.d2) ∧ W.cell? ⟨bx, 5, none⟩ = some (.int .i64 x.mx) ∧ W.cell? ⟨bx, 6, none⟩ = some (.string x.tx) ∧ Below W2.heap.size W2 W) ((refine MK.out _ ?_; first | (with_reducible exact hW2) | (with_reducible exact Below.refl _ _) | (with_reducible exact hA0) | (with_reducible exact hW2.alloc hW2.size _) | (with_reducible exact b6 hW2 hg2) | (with_reducible exact b6 hW2 (Nat.le_refl _)) | (trace_state; fail)))
            (first
              | (go_at_call 123; ((with_reducible refine (CO.out _).mono ?_); rintro e w2 ⟨rfl, hb2⟩); (try have sb2 := newD (by with_reducible exact hb2)); have hW2 : Below W2.heap.size W2 w2 := (by first | (with_reducible exact hW2.trans (hb2.mono hW2.size)) | (with_reducible exact hA0.trans (hb2.mono hA0.size))); have hg2 : W2.heap.size ≤ w2.heap.size := hW2.size)
              | (go_at_call 108; ((with_reducible refine (CD.out _).mono ?_); rintro e w3 ⟨rfl, hb3⟩); (try have sb3 := RawAt.below sb2 hb3 sb2.lt); (try have sb3 := newA (by with_reducible exact hb3)); (try (obtain ⟨sg0, sg1, sg2, sg3, sg4, sg5⟩ := raw_six sb3; have sf0 := sb3.free 0; have sf1 := sb3.free 1; have sf2 := sb3.free 2; have sf3 := sb3.free 3; have sf4 := sb3.free 4; have sf5 := sb3.free 5)); have hW2 : Below W2.heap.size W2 w3 := (by first | (with_reducible exact hW2.trans (hb3.mono hW2.size)) | (with_reducible exact (hW2.alloc hW2.size _).trans (hb3.mono (hW2.alloc hW2.size _).size)))))
          refine gen_world (K := fun W => Exit.then _ _ _ _ W) (B := W2.heap.size) (w := W2) (t := 128) (b := w3.heap.size) (cs := scs u) (hW2.alloc hW2.size _) (heap_alloc_new w3 _) (fun W5 hf5 hr5 => ?_)
          generalize w3.heap.size = sb at hr5 ⊢
          rotate_left
          refine gen_world (K := fun W => Exit.then _ _ _ _ W) (B := W2.heap.size) (w := W2) (t := 128) (b := w2.heap.size) (cs := scs u) (b6 hW2 hg2) ((RawAt.set_ (RawAt.set_ (RawAt.set_ (RawAt.set_ (RawAt.set_ (RawAt.set_ sb3 _ _) _ _) _ _) _ _) _ _) _ _).of_eq (by simp [scs])) (fun W5 hf5 hr5 => ?_)
          generalize w2.heap.size = sb at hr5 ⊢
          rotate_left
          refine gen_world (K := fun W => Exit.then _ _ _ _ W) (B := W2.heap.size) (w := W2) (t := 128) (b := W2.heap.size) (cs := scs u) (b6 hW2 (Nat.le_refl _)) ((RawAt.set_ (RawAt.set_ (RawAt.set_ (RawAt.set_ (RawAt.set_ (RawAt.set_ sb3 _ _) _ _) _ _) _ _) _ _) _ _).of_eq (by simp [scs])) (fun W5 hf5 hr5 => ?_)
          generalize W2.heap.size = sb at hr5 ⊢
          all_goals
            have hx5 : Below (w.heap.size + 1) W1 W5 := (hbr.trans (hxb.mono (Nat.le_refl _))).trans (hf5.mono HLE.out)
            have hwW5 := hb0.trans (hx5.mono (Nat.le_succ _))
            obtain ⟨s0_, s1_, s2_, s3_, s4_, s5_⟩ := raw_scs hr5
            have hp5 := HPX.out.below hf5 HPX.out.lt
            clear hb2 hb3 hW2
            by_cases hSt : Sto l dim v bi (q + (j + 1))
            · have CF := Lib.hid (far_any u dim v bi bd bv bb W5 hd (HE.out.below hwW5) true ⟨fun _ => by rw [HU.out]; exact hSt, fun _ => rfl⟩)
              unfold scs at CF
              go_wp2_with fail
              refine CF.out.mono ?_
              rintro e w6 ⟨rfl, hb6⟩
              have hf6 := hx5.trans (hb6.mono (by have := hx5.size; have := HS.out; omega))
              have hp6 := hp5.below hb6 hp5.lt
              have r6 := HR.out.below hf6 (Nat.lt_succ_self _)
              obtain ⟨a0, a1, a2, a3, a4, a5, a6, a7⟩ := raw_vcs r6
              have b0 := r6.free 0
              have b1 := r6.free 1
              have b2 := r6.free 2
              have b3 := r6.free 3
              have b4 := r6.free 4
              have b5 := r6.free 5
              have b6_ := r6.free 6
              have b7 := r6.free 7
              obtain ⟨c0, c1, c2, c3, c4, c5, c6, c7⟩ := raw_vcs hp6
              have d0 := hp6.free 0
              have hfin := hb0.trans (hf6.mono (Nat.le_succ _))
              have HFI : Hid (FindIs l dim v bi (q + j)) := hWy.out.find HO.out (Nat.le_add_right _ _) (by rw [HL.out]; omega) hno.out hSt
              clear r6 hp6 hf6
              go_wp2
              rw [Exit.noGoto_ret]
              refine bodyPost_ret (v := .agg #[.int .i64 s.n, .int .i64 s.n, .int .i64 s.d0, .int .i64 s.d1, .int .i64 s.d2, .int .i64 s.mx, .int .i64 s.pl, .int .i64 ((z : Int) + 1)]) (by simp [results, Try.results130, go_sem, a0, a1, a2, a3, a4, a5, a6, a7]) rfl ⟨q + j, (z : Int) + 1, HFI.out, by omega, by omega, by rw [HSS.out, vcs, ← HSN.out], ?_⟩
              (repeat' (first | (with_reducible exact hfin) | (with_reducible refine Below.setCell ?_ ?_ _) | (with_reducible refine Below.drew ?_))) <;> first | (simp; done) | (simp; omega)
            · have CF := Lib.hid (far_any u dim v bi bd bv bb W5 hd (HE.out.below hwW5) false ⟨fun h => absurd h (by simp), fun h => absurd (by rw [HU.out] at h; exact h) hSt⟩)
              have HNo : Hid (q + (j + 1) = 0 ∨ ¬ Sto l dim v bi (q + (j + 1))) := .inr hSt
              unfold scs at CF
              go_wp2_with fail
              refine CF.out.mono ?_
              rintro e w6 ⟨rfl, hb6⟩
              have hf6 := hx5.trans (hb6.mono (by have := hx5.size; have := HS.out; omega))
              have hp6 := hp5.below hb6 hp5.lt
              have hs6 := hr5.below hb6 hr5.lt
              obtain ⟨u0, u1, u2, u3, u4, u5_⟩ := raw_scs hs6
              obtain ⟨c0, c1, c2, c3, c4, c5, c6, c7⟩ := raw_vcs hp6
              have d1 := hp6.free 1
              have d2 := hp6.free 2
              have d3 := hp6.free 3
              have d4 := hp6.free 4
              have d5 := hp6.free 5
              have d6 := hp6.free 6
              go_wp2
              go_roundg (gk - 1)
              case measure => omega
              case rel => exact ⟨j + 1, by go_num, by omega, by omega, (((((hf6.setCell (p := ⟨w.heap.size + 1, _, none⟩) (Nat.le_refl _) _).setCell (p := ⟨w.heap.size + 1, _, none⟩) (Nat.le_refl _) _).setCell (p := ⟨w.heap.size + 1, _, none⟩) (Nat.le_refl _) _).setCell (p := ⟨w.heap.size + 1, _, none⟩) (Nat.le_refl _) _).setCell (p := ⟨w.heap.size + 1, _, none⟩) (Nat.le_refl _) _).setCell (p := ⟨w.heap.size + 1, _, none⟩) (Nat.le_refl _) _, by rw [HUU.out]; exact (RawAt.set_ (RawAt.set_ (RawAt.set_ (RawAt.set_ (RawAt.set_ (RawAt.set_ hp6 _ _) _ _) _ _) _ _) _ _) _ _).of_eq (by simp [vcs]), HNo⟩
        · have hjn : j = n := by omega
          subst hjn
          have HSN := Lib.hid (show (sall (l.take (q + j))).n = ((q + j : Nat) : Int) from by rw [sall_n _ (HO.out.take_ _), List.length_take, Nat.min_eq_left (by omega)])
          have hp6 := hqr.out
          have hf6 := hbr
          have hno2 := hno.out
          generalize hss : sall (l.take (q + j)) = s at *
          have HSS := Lib.hid hss; clear hss
          have r6 := HR.out.below hf6 (Nat.lt_succ_self _)
          obtain ⟨a0, a1, a2, a3, a4, a5, a6, a7⟩ := raw_vcs r6
          have b0 := r6.free 0
          have b1 := r6.free 1
          have b2 := r6.free 2
          have b3 := r6.free 3
          have b4 := r6.free 4
          have b5 := r6.free 5
          have b6_ := r6.free 6
          have b7 := r6.free 7
          obtain ⟨c0, c1, c2, c3, c4, c5, c6, c7⟩ := raw_vcs hp6
          have d0 := hp6.free 0
          have hfin := hb0.trans (hf6.mono (Nat.le_succ _))
          have HFI : Hid (FindIs l dim v bi (q + j)) := by have := hWy.out.end_ HO.out (by rw [HL.out]; exact hno2.resolve_left (by omega)); rwa [HL.out] at this
          clear r6 hp6 hf6
          go_wp2
          rw [Exit.noGoto_ret]
          refine bodyPost_ret (v := .agg #[.int .i64 s.n, .int .i64 s.n, .int .i64 s.d0, .int .i64 s.d1, .int .i64 s.d2, .int .i64 s.mx, .int .i64 s.pl, .int .i64 ((z : Int) + 1)]) (by simp [results, Try.results130, go_sem, a0, a1, a2, a3, a4, a5, a6, a7]) rfl ⟨q + j, (z : Int) + 1, HFI.out, by omega, by omega, by rw [HSS.out, vcs, ← HSN.out], ?_⟩
          (repeat' (first | (with_reducible exact hfin) | (with_reducible refine Below.setCell ?_ ?_ _) | (with_reducible refine Below.drew ?_))) <;> first | (simp; done) | (simp; omega)
    | 2, hN =>
      obtain ⟨b, A, c, ks, qn, rn⟩ := hN.out
      have t1 := ne_b
      have t2 := ta_bb
      have t3 := me_l
      have hbz := hb0.trans (hfz.mono (Nat.le_succ _))
      have e0 := (raw_bcs (qn.raw.below hbz qn.raw.lt)).1
      rw [qn.v]
      have hlen := qn.len
      have hn8 := qn.most
      have hpos := qn.pos
      have HA := Lib.hid qn.kids
      have hml := hWy.out.le
      have HL := Lib.hid hlen
      have HFl := Lib.hid qn.fl
      have HRn := Lib.hid rn
      have HWk : Hid (Way l (fl ks) dim v bi q) := by rw [qn.fl]; exact hWy.out
      rw [← qn.fl] at hml
      have hzn : 1 ≤ (fl ks).length := by
        have h3 := hN.out.size
        have h5 := p4_pos (2 - 1)
        have h6 := Nat.mul_le_mul hN.out.cnt.1 h5
        rw [qn.fl]
        omega
      unfold brv at t1 t2 ⊢
      go_wp2_with fail
      clear qn rn hN hlen e0 hWy
      generalize κ.c = n at *
      obtain ⟨gO, hgO⟩ : ∃ g, g = gk := ⟨gk, rfl⟩
      subst hgO
      refine gen_world (K := fun W => Code.wp _ _ _ _ W) (B := w.heap.size + 1) (w := W1) (t := 171) (b := w.heap.size + 1) (cs := vcs 0 (sall (l.take q)) ((z : Int) + 1)) hfz HQ2.out (fun W2 hf2 hr2 => ?_)
      have HR2 := Lib.hid hr2
      clear hr2 HQ2 hfz hbz p0 p1 p2 p3 p4_ p5 p6 p7 pf7
      go_loopg [29] n (fun g iv wr => ∃ j : Nat, iv = .int .i64 j ∧ j ≤ n ∧ n - j ≤ g ∧ Below (w.heap.size + 1) W1 wr ∧ Hid (RawAt 171 wr (w.heap.size + 1) (vcs 0 (sall (l.take (q + sz ks j))) ((z : Int) + 1))) ∧ Hid (q + sz ks j = 0 ∨ ¬ Sto l dim v bi (q + sz ks j)))
      case atStart => exact ⟨0, rfl, by omega, by omega, hf2, HR2, HWk.out.no⟩
      case round =>
        obtain ⟨j, rfl, g1, g2, hbr, hqr, hno⟩ := hrel
        have hbwr := hb0.trans (hbr.mono (Nat.le_succ _))
        have hszr : w.heap.size + 2 ≤ wr.heap.size := by have := HS.out; have := hbr.size; omega
        by_cases hlt : j < n
        · have hm : j < ks.length := by rw [HL.out]; exact hlt
          obtain ⟨bA, off, rfl, hbA, hc⟩ := HA.out (by rw [kvs_length]; omega)
          have eK := ((old_cells hbwr).1 _ _ hbA).trans (hc j (by rw [kvs_length]; exact hm))
          rw [vth_kvs ks hm] at eK
          clear hc
          have hKN := (HRn.out _ (kth_mem ks hm)).1
          have hKok := hKN.ok
          have hes := sz_succ ks hm
          have hel := sz_le ks (j + 1)
          have hst := sall_at HWk.out HO.out hm hKok
          have hok := sall_ok _ (l.take (q + sz ks j)) rfl (HO.out.take_ _)
          have hoi := sall_ok _ (kth ks j).l rfl hKok
          have hlj : (l.take (q + sz ks j)).length ≤ 1000000 := by rw [List.length_take]; omega
          have CD := Lib.hid fun (W : World) => iadd_any _ _ _ _ _ hok hoi (by omega) (by omega) hst.symm W
          have HU := Lib.hid (show ssz (sall (l.take (q + sz ks (j + 1)))) dim = sdim (l.take (q + sz ks (j + 1))) dim from ssz_sdim _ (HO.out.take_ _) dim)
          have HSN := Lib.hid (show (sall (l.take (q + sz ks j))).n = ((q + sz ks j : Nat) : Int) from by rw [sall_n _ (HO.out.take_ _), List.length_take, Nat.min_eq_left (by omega)])
          have HKN := Lib.hid hKN
          obtain ⟨bk, Ak, ck, qk⟩ := hKN
          have CS := Lib.hid fun (W : World) (hW : Below w.heap.size w W) => lsum_any bk (kth ks j).c ck Ak _ W (qk.raw.below hW qk.raw.lt)
          have HKv := Lib.hid qk.v
          rw [qk.v] at eK
          clear hst hok hoi hlj qk hKok
          generalize hu : sall (l.take (q + sz ks (j + 1))) = u at *
          have HUU := Lib.hid hu; clear hu
          generalize hss : sall (l.take (q + sz ks j)) = s at *
          have HSS := Lib.hid hss; clear hss
          generalize sall (kth ks j).l = y at *
          unfold scs at CS CD
          unfold lfv at eK
          have HPX := Lib.hid hqr.out
          have MK := Lib.hid fun (W : World) (hW : Below wr.heap.size wr W) => (by
            obtain ⟨_, y1, y2, y3, y4, y5, y6, _⟩ := raw_vcs (HPX.out.below hW HPX.out.lt)
            exact ⟨y1, y2, y3, y4, y5, y6, hW⟩ : W.cell? ⟨w.heap.size + 1, 1, none⟩ = some (.int .i64 s.n) ∧ W.cell? ⟨w.heap.size + 1, 2, none⟩ = some (.int .i64 s.d0) ∧ W.cell? ⟨w.heap.size + 1, 3, none⟩ = some (.int .i64 s.d1) ∧ W.cell? ⟨w.heap.size + 1, 4, none⟩ = some (.int .i64 s.d2) ∧ W.cell? ⟨w.heap.size + 1, 5, none⟩ = some (.int .i64 s.mx) ∧ W.cell? ⟨w.heap.size + 1, 6, none⟩ = some (.int .i64 s.pl) ∧ Below wr.heap.size wr W)
          have hW2 : Below wr.heap.size wr wr.drew := (Below.refl _ _).drew
          have hA0 : Below wr.heap.size wr (wr.alloc (.cells #[.int .i64 0, .int .i64 0, .int .i64 0, .int .i64 0, .int .i64 0, .int .i64 0] 128)).drew := ((Below.refl _ _).alloc (Nat.le_refl _) _).drew
          go_wp2_with fail
          go_region_held3 (fun W => W.cell? ⟨w.heap.size + 1, 1, none⟩ = some (.int .i64 s.n) ∧ W.cell? ⟨w.heap.size + 1, 2, none⟩ = some (.int .i64 s.d0) ∧ W.cell? ⟨w.heap.size + 1, 3, none⟩ = some (.int .i64 s.d1) ∧ W.cell? ⟨w.heap.size + 1, 4, none⟩ = some (.int .i64 s.d2) ∧ W.cell? ⟨w.heap.size + 1, 5, none⟩ = some (.int .i64 s.mx) ∧ W.cell? ⟨w.heap.size + 1, 6, none⟩ = some (.int .i64 s.pl) ∧ Below wr.heap.size wr W) ((refine MK.out _ ?_; first | (with_reducible exact hW2) | (with_reducible exact Below.refl _ _) | (with_reducible exact hA0) | (with_reducible exact hW2.alloc hW2.size _) | (with_reducible exact b6 hW2 hg2) | (with_reducible exact b6 hW2 (Nat.le_refl _)) | (trace_state; fail)))
            (first
              | (go_at_call 147; ((with_reducible refine (CS.out _ (by first | (with_reducible exact hbwr.drew) | (with_reducible exact (hbwr.alloc hbwr.size _).drew))).mono ?_); rintro e w2 ⟨rfl, hb2⟩); (try have sb2 := newD (by with_reducible exact hb2)); have hW2 : Below wr.heap.size wr w2 := (by first | (with_reducible exact hW2.trans (hb2.mono hW2.size)) | (with_reducible exact hA0.trans (hb2.mono hA0.size))); have hg2 : wr.heap.size ≤ w2.heap.size := hW2.size)
              | (go_at_call 108; ((with_reducible refine (CD.out _).mono ?_); rintro e w3 ⟨rfl, hb3⟩); (try have sb3 := RawAt.below sb2 hb3 sb2.lt); (try have sb3 := newA (by with_reducible exact hb3)); (try (obtain ⟨sg0, sg1, sg2, sg3, sg4, sg5⟩ := raw_six sb3; have sf0 := sb3.free 0; have sf1 := sb3.free 1; have sf2 := sb3.free 2; have sf3 := sb3.free 3; have sf4 := sb3.free 4; have sf5 := sb3.free 5)); have hW2 : Below wr.heap.size wr w3 := (by first | (with_reducible exact hW2.trans (hb3.mono hW2.size)) | (with_reducible exact (hW2.alloc hW2.size _).trans (hb3.mono (hW2.alloc hW2.size _).size)))))
          refine gen_world (K := fun W => Exit.then _ _ _ _ W) (B := wr.heap.size) (w := wr) (t := 128) (b := w3.heap.size) (cs := scs u) (hW2.alloc hW2.size _) (heap_alloc_new w3 _) (fun W5 hf5 hr5 => ?_)
          generalize w3.heap.size = sb at hr5 ⊢
          rotate_left
          refine gen_world (K := fun W => Exit.then _ _ _ _ W) (B := wr.heap.size) (w := wr) (t := 128) (b := w2.heap.size) (cs := scs u) (b6 hW2 hg2) ((RawAt.set_ (RawAt.set_ (RawAt.set_ (RawAt.set_ (RawAt.set_ (RawAt.set_ sb3 _ _) _ _) _ _) _ _) _ _) _ _).of_eq (by simp [scs])) (fun W5 hf5 hr5 => ?_)
          generalize w2.heap.size = sb at hr5 ⊢
          rotate_left
          refine gen_world (K := fun W => Exit.then _ _ _ _ W) (B := wr.heap.size) (w := wr) (t := 128) (b := wr.heap.size) (cs := scs u) (b6 hW2 (Nat.le_refl _)) ((RawAt.set_ (RawAt.set_ (RawAt.set_ (RawAt.set_ (RawAt.set_ (RawAt.set_ sb3 _ _) _ _) _ _) _ _) _ _) _ _).of_eq (by simp [scs])) (fun W5 hf5 hr5 => ?_)
          generalize wr.heap.size = sb at hr5 ⊢
          all_goals
            have hx5 : Below (w.heap.size + 1) W1 W5 := hbr.trans (hf5.mono (by omega))
            have hwW5 := hb0.trans (hx5.mono (Nat.le_succ _))
            obtain ⟨s0_, s1_, s2_, s3_, s4_, s5_⟩ := raw_scs hr5
            have hp5 := HPX.out.below hf5 HPX.out.lt
            clear hb2 hb3 hW2
            by_cases hSt : Sto l dim v bi (q + sz ks (j + 1))
            · have CF := Lib.hid (far_any u dim v bi bd bv bb W5 hd (HE.out.below hwW5) true ⟨fun _ => by rw [HU.out]; exact hSt, fun _ => rfl⟩)
              have HWn := Lib.hid (HWk.out.kid hm hno.out hSt)
              unfold scs at CF
              go_wp2_with fail
              refine CF.out.mono ?_
              rintro e w6 ⟨rfl, hb6⟩
              have hf6 := hx5.trans (hb6.mono (by have := hx5.size; have := HS.out; omega))
              have hp6 := Lib.hid (hp5.below hb6 hp5.lt)
              go_wp2_with fail
              go_roundg (gO - 1)
              case measure => omega
              case rel => exact ⟨kth ks j, q + sz ks j, 1, z + 1, HKv.out.symm, by omega, by omega, hf6, by rw [HSS.out]; exact hp6, HKN, HWn⟩
            · have CF := Lib.hid (far_any u dim v bi bd bv bb W5 hd (HE.out.below hwW5) false ⟨fun h => absurd h (by simp), fun h => absurd (by rw [HU.out] at h; exact h) hSt⟩)
              have HNo : Hid (q + sz ks (j + 1) = 0 ∨ ¬ Sto l dim v bi (q + sz ks (j + 1))) := .inr hSt
              unfold scs at CF
              go_wp2_with fail
              refine CF.out.mono ?_
              rintro e w6 ⟨rfl, hb6⟩
              have hf6 := hx5.trans (hb6.mono (by have := hx5.size; have := HS.out; omega))
              have hp6 := hp5.below hb6 hp5.lt
              have hs6 := hr5.below hb6 hr5.lt
              obtain ⟨u0, u1, u2, u3, u4, u5_⟩ := raw_scs hs6
              obtain ⟨c0, c1, c2, c3, c4, c5, c6, c7⟩ := raw_vcs hp6
              have d1 := hp6.free 1
              have d2 := hp6.free 2
              have d3 := hp6.free 3
              have d4 := hp6.free 4
              have d5 := hp6.free 5
              have d6 := hp6.free 6
              go_wp2
              go_roundg (gk - 1)
              case measure => omega
              case rel => exact ⟨j + 1, by go_num, by omega, by omega, (((((hf6.setCell (p := ⟨w.heap.size + 1, _, none⟩) (Nat.le_refl _) _).setCell (p := ⟨w.heap.size + 1, _, none⟩) (Nat.le_refl _) _).setCell (p := ⟨w.heap.size + 1, _, none⟩) (Nat.le_refl _) _).setCell (p := ⟨w.heap.size + 1, _, none⟩) (Nat.le_refl _) _).setCell (p := ⟨w.heap.size + 1, _, none⟩) (Nat.le_refl _) _).setCell (p := ⟨w.heap.size + 1, _, none⟩) (Nat.le_refl _) _, by rw [HUU.out]; exact (RawAt.set_ (RawAt.set_ (RawAt.set_ (RawAt.set_ (RawAt.set_ (RawAt.set_ hp6 _ _) _ _) _ _) _ _) _ _) _ _).of_eq (by simp [vcs]), HNo⟩
        · have hjn : j = n := by omega
          subst hjn
          have hsj : sz ks j = (fl ks).length := by unfold sz; rw [List.take_of_length_le (by rw [HL.out]; omega)]
          have hp6 := hqr.out
          have hf6 := hbr
          have hno2 := hno.out
          rw [hsj] at hp6 hno2
          have HSN := Lib.hid (show (sall (l.take (q + (fl ks).length))).n = ((q + (fl ks).length : Nat) : Int) from by rw [sall_n _ (HO.out.take_ _), List.length_take, Nat.min_eq_left (by omega)])
          generalize hss : sall (l.take (q + (fl ks).length)) = s at *
          have HSS := Lib.hid hss; clear hss
          have r6 := HR.out.below hf6 (Nat.lt_succ_self _)
          obtain ⟨a0, a1, a2, a3, a4, a5, a6, a7⟩ := raw_vcs r6
          have b0 := r6.free 0
          have b1 := r6.free 1
          have b2 := r6.free 2
          have b3 := r6.free 3
          have b4 := r6.free 4
          have b5 := r6.free 5
          have b6_ := r6.free 6
          have b7 := r6.free 7
          obtain ⟨c0, c1, c2, c3, c4, c5, c6, c7⟩ := raw_vcs hp6
          have d0 := hp6.free 0
          have hfin := hb0.trans (hf6.mono (Nat.le_succ _))
          have HFI : Hid (FindIs l dim v bi (q + (fl ks).length)) := HWk.out.end_ HO.out (hno2.resolve_left (by omega))
          clear r6 hp6 hf6
          go_wp2
          rw [Exit.noGoto_ret]
          refine bodyPost_ret (v := .agg #[.int .i64 s.n, .int .i64 s.n, .int .i64 s.d0, .int .i64 s.d1, .int .i64 s.d2, .int .i64 s.mx, .int .i64 s.pl, .int .i64 ((z : Int) + 1)]) (by simp [results, Try.results130, go_sem, a0, a1, a2, a3, a4, a5, a6, a7]) rfl ⟨q + (fl ks).length, (z : Int) + 1, HFI.out, by omega, by omega, by rw [HSS.out, vcs, ← HSN.out], ?_⟩
          (repeat' (first | (with_reducible exact hfin) | (with_reducible refine Below.setCell ?_ ?_ _) | (with_reducible refine Below.drew ?_))) <;> first | (simp; done) | (simp; omega)
    | h + 3, hN =>
      obtain ⟨b, A, c, ks, qn, rn⟩ := hN.out
      have t1 := ne_b
      have t2 := ta_bb
      have t3 := me_b
      have hbz := hb0.trans (hfz.mono (Nat.le_succ _))
      have e0 := (raw_bcs (qn.raw.below hbz qn.raw.lt)).1
      rw [qn.v]
      have hlen := qn.len
      have hn8 := qn.most
      have hpos := qn.pos
      have HA := Lib.hid qn.kids
      have hml := hWy.out.le
      have HL := Lib.hid hlen
      have HFl := Lib.hid qn.fl
      have HRn := Lib.hid rn
      have HWk : Hid (Way l (fl ks) dim v bi q) := by rw [qn.fl]; exact hWy.out
      rw [← qn.fl] at hml
      have hzn : 1 ≤ (fl ks).length := by
        have h3 := hN.out.size
        have h5 := p4_pos (h + 3 - 1)
        have h6 := Nat.mul_le_mul hN.out.cnt.1 h5
        rw [qn.fl]
        omega
      unfold brv at t1 t2 ⊢
      go_wp2_with fail
      clear qn rn hN hlen e0 hWy
      generalize κ.c = n at *
      obtain ⟨gO, hgO⟩ : ∃ g, g = gk := ⟨gk, rfl⟩
      subst hgO
      refine gen_world (K := fun W => Code.wp _ _ _ _ W) (B := w.heap.size + 1) (w := W1) (t := 171) (b := w.heap.size + 1) (cs := vcs 0 (sall (l.take q)) ((z : Int) + 1)) hfz HQ2.out (fun W2 hf2 hr2 => ?_)
      have HR2 := Lib.hid hr2
      clear hr2 HQ2 hfz hbz p0 p1 p2 p3 p4_ p5 p6 p7 pf7
      go_loopg [29] n (fun g iv wr => ∃ j : Nat, iv = .int .i64 j ∧ j ≤ n ∧ n - j ≤ g ∧ Below (w.heap.size + 1) W1 wr ∧ Hid (RawAt 171 wr (w.heap.size + 1) (vcs 0 (sall (l.take (q + sz ks j))) ((z : Int) + 1))) ∧ Hid (q + sz ks j = 0 ∨ ¬ Sto l dim v bi (q + sz ks j)))
      case atStart => exact ⟨0, rfl, by omega, by omega, hf2, HR2, HWk.out.no⟩
      case round =>
        obtain ⟨j, rfl, g1, g2, hbr, hqr, hno⟩ := hrel
        have hbwr := hb0.trans (hbr.mono (Nat.le_succ _))
        have hszr : w.heap.size + 2 ≤ wr.heap.size := by have := HS.out; have := hbr.size; omega
        by_cases hlt : j < n
        · have hm : j < ks.length := by rw [HL.out]; exact hlt
          obtain ⟨bA, off, rfl, hbA, hc⟩ := HA.out (by rw [kvs_length]; omega)
          have eK := ((old_cells hbwr).1 _ _ hbA).trans (hc j (by rw [kvs_length]; exact hm))
          rw [vth_kvs ks hm] at eK
          clear hc
          have hKN := (HRn.out _ (kth_mem ks hm)).1
          have hKok := hKN.ok
          have hes := sz_succ ks hm
          have hel := sz_le ks (j + 1)
          have hst := sall_at HWk.out HO.out hm hKok
          have hok := sall_ok _ (l.take (q + sz ks j)) rfl (HO.out.take_ _)
          have hoi := sall_ok _ (kth ks j).l rfl hKok
          have hlj : (l.take (q + sz ks j)).length ≤ 1000000 := by rw [List.length_take]; omega
          have CD := Lib.hid fun (W : World) => iadd_any _ _ _ _ _ hok hoi (by omega) (by omega) hst.symm W
          have HU := Lib.hid (show ssz (sall (l.take (q + sz ks (j + 1)))) dim = sdim (l.take (q + sz ks (j + 1))) dim from ssz_sdim _ (HO.out.take_ _) dim)
          have HSN := Lib.hid (show (sall (l.take (q + sz ks j))).n = ((q + sz ks j : Nat) : Int) from by rw [sall_n _ (HO.out.take_ _), List.length_take, Nat.min_eq_left (by omega)])
          have HKN := Lib.hid hKN
          obtain ⟨bk, Ak, ck, kk, qk, rk⟩ := hKN
          have CS := Lib.hid fun (W : World) (hW : Below w.heap.size w W) => bsum_any bk (kth ks j).c ck (h + 2) Ak _ W (qk.raw.below hW qk.raw.lt)
          have HKv := Lib.hid qk.v
          rw [qk.v] at eK
          clear hst hok hoi hlj qk rk hKok
          generalize hu : sall (l.take (q + sz ks (j + 1))) = u at *
          have HUU := Lib.hid hu; clear hu
          generalize hss : sall (l.take (q + sz ks j)) = s at *
          have HSS := Lib.hid hss; clear hss
          generalize sall (kth ks j).l = y at *
          unfold scs at CS CD
          unfold brv at eK
          have HPX := Lib.hid hqr.out
          have MK := Lib.hid fun (W : World) (hW : Below wr.heap.size wr W) => (by
            obtain ⟨_, y1, y2, y3, y4, y5, y6, _⟩ := raw_vcs (HPX.out.below hW HPX.out.lt)
            exact ⟨y1, y2, y3, y4, y5, y6, hW⟩ : W.cell? ⟨w.heap.size + 1, 1, none⟩ = some (.int .i64 s.n) ∧ W.cell? ⟨w.heap.size + 1, 2, none⟩ = some (.int .i64 s.d0) ∧ W.cell? ⟨w.heap.size + 1, 3, none⟩ = some (.int .i64 s.d1) ∧ W.cell? ⟨w.heap.size + 1, 4, none⟩ = some (.int .i64 s.d2) ∧ W.cell? ⟨w.heap.size + 1, 5, none⟩ = some (.int .i64 s.mx) ∧ W.cell? ⟨w.heap.size + 1, 6, none⟩ = some (.int .i64 s.pl) ∧ Below wr.heap.size wr W)
          have hW2 : Below wr.heap.size wr wr.drew := (Below.refl _ _).drew
          have hA0 : Below wr.heap.size wr (wr.alloc (.cells #[.int .i64 0, .int .i64 0, .int .i64 0, .int .i64 0, .int .i64 0, .int .i64 0] 128)).drew := ((Below.refl _ _).alloc (Nat.le_refl _) _).drew
          go_wp2_with fail
          go_region_held3 (fun W => W.cell? ⟨w.heap.size + 1, 1, none⟩ = some (.int .i64 s.n) ∧ W.cell? ⟨w.heap.size + 1, 2, none⟩ = some (.int .i64 s.d0) ∧ W.cell? ⟨w.heap.size + 1, 3, none⟩ = some (.int .i64 s.d1) ∧ W.cell? ⟨w.heap.size + 1, 4, none⟩ = some (.int .i64 s.d2) ∧ W.cell? ⟨w.heap.size + 1, 5, none⟩ = some (.int .i64 s.mx) ∧ W.cell? ⟨w.heap.size + 1, 6, none⟩ = some (.int .i64 s.pl) ∧ Below wr.heap.size wr W) ((refine MK.out _ ?_; first | (with_reducible exact hW2) | (with_reducible exact Below.refl _ _) | (with_reducible exact hA0) | (with_reducible exact hW2.alloc hW2.size _) | (with_reducible exact b6 hW2 hg2) | (with_reducible exact b6 hW2 (Nat.le_refl _)) | (trace_state; fail)))
            (first
              | (go_at_call 148; ((with_reducible refine (CS.out _ (by first | (with_reducible exact hbwr.drew) | (with_reducible exact (hbwr.alloc hbwr.size _).drew))).mono ?_); rintro e w2 ⟨rfl, hb2⟩); (try have sb2 := newD (by with_reducible exact hb2)); have hW2 : Below wr.heap.size wr w2 := (by first | (with_reducible exact hW2.trans (hb2.mono hW2.size)) | (with_reducible exact hA0.trans (hb2.mono hA0.size))); have hg2 : wr.heap.size ≤ w2.heap.size := hW2.size)
              | (go_at_call 108; ((with_reducible refine (CD.out _).mono ?_); rintro e w3 ⟨rfl, hb3⟩); (try have sb3 := RawAt.below sb2 hb3 sb2.lt); (try have sb3 := newA (by with_reducible exact hb3)); (try (obtain ⟨sg0, sg1, sg2, sg3, sg4, sg5⟩ := raw_six sb3; have sf0 := sb3.free 0; have sf1 := sb3.free 1; have sf2 := sb3.free 2; have sf3 := sb3.free 3; have sf4 := sb3.free 4; have sf5 := sb3.free 5)); have hW2 : Below wr.heap.size wr w3 := (by first | (with_reducible exact hW2.trans (hb3.mono hW2.size)) | (with_reducible exact (hW2.alloc hW2.size _).trans (hb3.mono (hW2.alloc hW2.size _).size)))))
          refine gen_world (K := fun W => Exit.then _ _ _ _ W) (B := wr.heap.size) (w := wr) (t := 128) (b := w3.heap.size) (cs := scs u) (hW2.alloc hW2.size _) (heap_alloc_new w3 _) (fun W5 hf5 hr5 => ?_)
          generalize w3.heap.size = sb at hr5 ⊢
          rotate_left
          refine gen_world (K := fun W => Exit.then _ _ _ _ W) (B := wr.heap.size) (w := wr) (t := 128) (b := w2.heap.size) (cs := scs u) (b6 hW2 hg2) ((RawAt.set_ (RawAt.set_ (RawAt.set_ (RawAt.set_ (RawAt.set_ (RawAt.set_ sb3 _ _) _ _) _ _) _ _) _ _) _ _).of_eq (by simp [scs])) (fun W5 hf5 hr5 => ?_)
          generalize w2.heap.size = sb at hr5 ⊢
          rotate_left
          refine gen_world (K := fun W => Exit.then _ _ _ _ W) (B := wr.heap.size) (w := wr) (t := 128) (b := wr.heap.size) (cs := scs u) (b6 hW2 (Nat.le_refl _)) ((RawAt.set_ (RawAt.set_ (RawAt.set_ (RawAt.set_ (RawAt.set_ (RawAt.set_ sb3 _ _) _ _) _ _) _ _) _ _) _ _).of_eq (by simp [scs])) (fun W5 hf5 hr5 => ?_)
          generalize wr.heap.size = sb at hr5 ⊢
          all_goals
            have hx5 : Below (w.heap.size + 1) W1 W5 := hbr.trans (hf5.mono (by omega))
            have hwW5 := hb0.trans (hx5.mono (Nat.le_succ _))
            obtain ⟨s0_, s1_, s2_, s3_, s4_, s5_⟩ := raw_scs hr5
            have hp5 := HPX.out.below hf5 HPX.out.lt
            clear hb2 hb3 hW2
            by_cases hSt : Sto l dim v bi (q + sz ks (j + 1))
            · have CF := Lib.hid (far_any u dim v bi bd bv bb W5 hd (HE.out.below hwW5) true ⟨fun _ => by rw [HU.out]; exact hSt, fun _ => rfl⟩)
              have HWn := Lib.hid (HWk.out.kid hm hno.out hSt)
              unfold scs at CF
              go_wp2_with fail
              refine CF.out.mono ?_
              rintro e w6 ⟨rfl, hb6⟩
              have hf6 := hx5.trans (hb6.mono (by have := hx5.size; have := HS.out; omega))
              have hp6 := Lib.hid (hp5.below hb6 hp5.lt)
              go_wp2_with fail
              go_roundg (gO - 1)
              case measure => omega
              case rel => exact ⟨kth ks j, q + sz ks j, h + 2, z + 1, HKv.out.symm, by omega, by omega, hf6, by rw [HSS.out]; exact hp6, HKN, HWn⟩
            · have CF := Lib.hid (far_any u dim v bi bd bv bb W5 hd (HE.out.below hwW5) false ⟨fun h => absurd h (by simp), fun h => absurd (by rw [HU.out] at h; exact h) hSt⟩)
              have HNo : Hid (q + sz ks (j + 1) = 0 ∨ ¬ Sto l dim v bi (q + sz ks (j + 1))) := .inr hSt
              unfold scs at CF
              go_wp2_with fail
              refine CF.out.mono ?_
              rintro e w6 ⟨rfl, hb6⟩
              have hf6 := hx5.trans (hb6.mono (by have := hx5.size; have := HS.out; omega))
              have hp6 := hp5.below hb6 hp5.lt
              have hs6 := hr5.below hb6 hr5.lt
              obtain ⟨u0, u1, u2, u3, u4, u5_⟩ := raw_scs hs6
              obtain ⟨c0, c1, c2, c3, c4, c5, c6, c7⟩ := raw_vcs hp6
              have d1 := hp6.free 1
              have d2 := hp6.free 2
              have d3 := hp6.free 3
              have d4 := hp6.free 4
              have d5 := hp6.free 5
              have d6 := hp6.free 6
              go_wp2
              go_roundg (gk - 1)
              case measure => omega
              case rel => exact ⟨j + 1, by go_num, by omega, by omega, (((((hf6.setCell (p := ⟨w.heap.size + 1, _, none⟩) (Nat.le_refl _) _).setCell (p := ⟨w.heap.size + 1, _, none⟩) (Nat.le_refl _) _).setCell (p := ⟨w.heap.size + 1, _, none⟩) (Nat.le_refl _) _).setCell (p := ⟨w.heap.size + 1, _, none⟩) (Nat.le_refl _) _).setCell (p := ⟨w.heap.size + 1, _, none⟩) (Nat.le_refl _) _).setCell (p := ⟨w.heap.size + 1, _, none⟩) (Nat.le_refl _) _, by rw [HUU.out]; exact (RawAt.set_ (RawAt.set_ (RawAt.set_ (RawAt.set_ (RawAt.set_ (RawAt.set_ hp6 _ _) _ _) _ _) _ _) _ _) _ _).of_eq (by simp [vcs]), HNo⟩
        · have hjn : j = n := by omega
          subst hjn
          have hsj : sz ks j = (fl ks).length := by unfold sz; rw [List.take_of_length_le (by rw [HL.out]; omega)]
          have hp6 := hqr.out
          have hf6 := hbr
          have hno2 := hno.out
          rw [hsj] at hp6 hno2
          have HSN := Lib.hid (show (sall (l.take (q + (fl ks).length))).n = ((q + (fl ks).length : Nat) : Int) from by rw [sall_n _ (HO.out.take_ _), List.length_take, Nat.min_eq_left (by omega)])
          generalize hss : sall (l.take (q + (fl ks).length)) = s at *
          have HSS := Lib.hid hss; clear hss
          have r6 := HR.out.below hf6 (Nat.lt_succ_self _)
          obtain ⟨a0, a1, a2, a3, a4, a5, a6, a7⟩ := raw_vcs r6
          have b0 := r6.free 0
          have b1 := r6.free 1
          have b2 := r6.free 2
          have b3 := r6.free 3
          have b4 := r6.free 4
          have b5 := r6.free 5
          have b6_ := r6.free 6
          have b7 := r6.free 7
          obtain ⟨c0, c1, c2, c3, c4, c5, c6, c7⟩ := raw_vcs hp6
          have d0 := hp6.free 0
          have hfin := hb0.trans (hf6.mono (Nat.le_succ _))
          have HFI : Hid (FindIs l dim v bi (q + (fl ks).length)) := HWk.out.end_ HO.out (hno2.resolve_left (by omega))
          clear r6 hp6 hf6
          go_wp2
          rw [Exit.noGoto_ret]
          refine bodyPost_ret (v := .agg #[.int .i64 s.n, .int .i64 s.n, .int .i64 s.d0, .int .i64 s.d1, .int .i64 s.d2, .int .i64 s.mx, .int .i64 s.pl, .int .i64 ((z : Int) + 1)]) (by simp [results, Try.results130, go_sem, a0, a1, a2, a3, a4, a5, a6, a7]) rfl ⟨q + (fl ks).length, (z : Int) + 1, HFI.out, by omega, by omega, by rw [HSS.out, vcs, ← HSN.out], ?_⟩
          (repeat' (first | (with_reducible exact hfin) | (with_reducible refine Below.setCell ?_ ?_ _) | (with_reducible refine Below.drew ?_))) <;> first | (simp; done) | (simp; omega)
set_option maxHeartbeats 4000000 in
set_option maxRecDepth 100000 in
theorem find_nil (bd bv bb : Nat) (w : World) :
    Calls Try.prog 130 #[.nilIface, .func (.func 129) #[] #[.pointer (some ⟨bd, 0, none⟩), .pointer (some ⟨bv, 0, none⟩), .pointer (some ⟨bb, 0, none⟩)]] w fun e w' => e = .returned (.agg (vcs 0 s0 0)) ∧ Below w.heap.size w w' := by
  have t1 := ne_n
  go_enter Try.func130, Try.ntmps130
  go_wp2
  go_step3
  go_wp2
  go_step3
  go_wp2
  obtain ⟨hr0, hq0, hb0, hs0⟩ := new2 w 171 171 (vcs 0 s0 0) (vcs 0 s0 0)
  change Code.wp _ _ _ _ ((w.alloc (.cells (vcs 0 s0 0) 171)).alloc (.cells (vcs 0 s0 0) 171))
  generalize ((w.alloc (.cells (vcs 0 s0 0) 171)).alloc (.cells (vcs 0 s0 0) 171)) = W1 at *
  obtain ⟨a0, a1, a2, a3, a4, a5, a6, a7⟩ := raw_vcs hr0
  have b0 := hr0.free 0
  have b1 := hr0.free 1
  have b2 := hr0.free 2
  have b3 := hr0.free 3
  have b4 := hr0.free 4
  have b5 := hr0.free 5
  have b6_ := hr0.free 6
  have b7 := hr0.free 7
  obtain ⟨c0, c1, c2, c3, c4, c5, c6, c7⟩ := raw_vcs hq0
  have d0 := hq0.free 0
  clear hr0 hq0
  unfold s0 at *
  go_loopg [0] 1 (fun g nv wr => nv = .nilIface ∧ wr = W1)
  case atStart => exact ⟨rfl, rfl⟩
  case round =>
    obtain ⟨rfl, rfl⟩ := hrel
    go_wp2
    refine bodyPost_ret (v := .agg #[.int .i64 0, .int .i64 0, .int .i64 0, .int .i64 0, .int .i64 0, .int .i64 0, .int .i64 0, .int .i64 0]) (by simp [results, Try.results130, go_sem, a0, a1, a2, a3, a4, a5, a6, a7]) rfl ⟨rfl, ?_⟩
    (repeat' (first | (with_reducible exact hb0) | (with_reducible refine Below.setCell ?_ ?_ _) | (with_reducible refine Below.drew ?_))) <;> first | (simp; done) | (simp; omega)
end Go.Proofs.Ytnfjleobcfhpnaa
