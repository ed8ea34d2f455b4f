/- Flow: the document's Sum and Widest; Lines. -/
import Derived.Test.YtnfjleobcfhpnaaFlD
namespace Go.Proofs.Ytnfjleobcfhpnaa
open Go.RowKit
set_option linter.unusedVariables false
def lncs (s : Ln) : Array Value := #[.int .i64 s.s, .int .i64 s.b, .int .i64 s.r, .int .i64 s.wd]
set_option maxHeartbeats 8000000 in
set_option maxRecDepth 100000 in
theorem lsum22 (A : Option Addr) (n c : Nat) (l : List Ln) (w : World) (hA : RowsAt encL 4 w A l) (hl : l.length = n) (hn : n ≤ 1000000) (ho : Loks l) :
    Calls Try.prog 31 #[.slice A n c] w fun e w' => e = .returned (.agg #[.int .i64 (lsum l).s, .int .i64 (lsum l).b, .int .i64 (lsum l).r, .int .i64 (lsum l).wd]) ∧ Below w.heap.size w w' := by
  have HA := Lib.hid hA
  have HL := Lib.hid hl
  have HO := Lib.hid ho
  clear hA hl ho
  have x1 : RawAt 72 ((w.alloc (.cells #[.int .i64 0, .int .i64 0, .int .i64 0, .int .i64 0] 72)).alloc (.cells #[.int .i64 0, .int .i64 0, .int .i64 0, .int .i64 0] 72)) w.heap.size #[.int .i64 0, .int .i64 0, .int .i64 0, .int .i64 0] := (new2 w _ _ _ _).1
  have x2 : RawAt 72 ((w.alloc (.cells #[.int .i64 0, .int .i64 0, .int .i64 0, .int .i64 0] 72)).alloc (.cells #[.int .i64 0, .int .i64 0, .int .i64 0, .int .i64 0] 72)) (w.heap.size + 1) #[.int .i64 0, .int .i64 0, .int .i64 0, .int .i64 0] := (new2 w _ _ _ _).2.1
  have xb : Below w.heap.size w ((w.alloc (.cells #[.int .i64 0, .int .i64 0, .int .i64 0, .int .i64 0] 72)).alloc (.cells #[.int .i64 0, .int .i64 0, .int .i64 0, .int .i64 0] 72)) := ((Below.refl _ _).alloc (Nat.le_refl _) _).alloc (by simp) _
  have HX1 := Lib.hid x1
  have HX2 : Hid (RawAt 72 ((w.alloc (.cells #[.int .i64 0, .int .i64 0, .int .i64 0, .int .i64 0] 72)).alloc (.cells #[.int .i64 0, .int .i64 0, .int .i64 0, .int .i64 0] 72)) (w.heap.size + 1) (lncs (lsum (l.take 0)))) := Lib.hid x2
  have HXB := Lib.hid xb
  clear x1 x2 xb
  go_enter Try.func31, Try.ntmps31
  go_wp2_with fail
  go_loopg [9] n (fun g i wr => ∃ k : Nat, i = .int .i64 k ∧ k ≤ n ∧ n - k ≤ g ∧ Hid (Below w.heap.size w wr) ∧ Hid (RawAt 72 wr w.heap.size #[.int .i64 0, .int .i64 0, .int .i64 0, .int .i64 0]) ∧ Hid (RawAt 72 wr (w.heap.size + 1) (lncs (lsum (l.take k)))))
  case atStart => exact ⟨0, rfl, by omega, by omega, HXB, HX1, HX2⟩
  case round =>
    clear HXB HX1 HX2
    obtain ⟨k, rfl, h1, h2, hb, hr1, hr2⟩ := hrel
    by_cases hlt : k < n
    · have hkl : k < l.length := by rw [HL.out]; exact hlt
      obtain ⟨bA, off, rfl, hbA, d0, d1, d2, d3⟩ := rowsL (HA.out.below hb.out) hkl
      have htk : lsum (l.take (k + 1)) = ladd (lsum (l.take k)) l[k] := lsum_take hkl
      have hbd := lsum_bd (l.take (k + 1)) (HO.out.take_ _) (by rw [List.length_take]; omega)
      rw [htk] at hbd
      simp only [ladd] at hbd
      unfold Small at hbd
      have HTK := Lib.hid htk
      clear htk
      have HR2 := hr2.out
      generalize lsum (l.take k) = S at *
      generalize l[k] = a at *
      have hw1 : IntKind.i64.wrap (S.s + a.s) = S.s + a.s := IntWalk.i64_in _ (by omega)
      have hw2 : IntKind.i64.wrap (S.b + a.b) = S.b + a.b := IntWalk.i64_in _ (by omega)
      have hw3 : IntKind.i64.wrap (S.r + a.r) = S.r + a.r := IntWalk.i64_in _ (by omega)
      clear hbd
      have i1 : (0 : Int) ≤ k := by omega
      have i2 : (k : Int) < n := by omega
      have e0 := RawAt.cell HR2 0
      have e1 := RawAt.cell HR2 1
      have e2 := RawAt.cell HR2 2
      have e3 := RawAt.cell HR2 3
      simp [lncs] at e0 e1 e2 e3
      have f0 := HR2.free 0
      have f1 := HR2.free 1
      have f2 := HR2.free 2
      have f3 := HR2.free 3
      have hlw1 : w.heap.size + 1 < wr.heap.size := HR2.lt
      by_cases g : S.wd < a.wd
      · have k1 : decide (S.wd < a.wd) = true := decide_eq_true g
        have HE : Hid (lsum (l.take (k + 1)) = ⟨S.s + a.s, S.b + a.b, S.r + a.r, a.wd⟩) := Lib.hid (by rw [HTK.out]; simp only [ladd, if_pos g])
        have hbx := ((((hb.out.setCell (p := ⟨w.heap.size + 1, 0, none⟩) (by simp) (.int .i64 (S.s + a.s))).setCell (p := ⟨w.heap.size + 1, 1, none⟩) (by simp) (.int .i64 (S.b + a.b))).setCell (p := ⟨w.heap.size + 1, 2, none⟩) (by simp) (.int .i64 (S.r + a.r))).setCell (p := ⟨w.heap.size + 1, 3, none⟩) (by simp) (.int .i64 a.wd))
        have t1 := ((((hr1.out.set_other (b' := w.heap.size + 1) (by omega) 0 (.int .i64 (S.s + a.s))).set_other (b' := w.heap.size + 1) (by omega) 1 (.int .i64 (S.b + a.b))).set_other (b' := w.heap.size + 1) (by omega) 2 (.int .i64 (S.r + a.r))).set_other (b' := w.heap.size + 1) (by omega) 3 (.int .i64 a.wd))
        have t2 : RawAt 72 ((((wr.setCell ⟨w.heap.size + 1, 0, none⟩ (.int .i64 (S.s + a.s))).setCell ⟨w.heap.size + 1, 1, none⟩ (.int .i64 (S.b + a.b))).setCell ⟨w.heap.size + 1, 2, none⟩ (.int .i64 (S.r + a.r))).setCell ⟨w.heap.size + 1, 3, none⟩ (.int .i64 a.wd)) (w.heap.size + 1) (lncs (lsum (l.take (k + 1)))) := by rw [HE.out]; exact ((((HR2.set_ 0 (.int .i64 (S.s + a.s))).set_ 1 (.int .i64 (S.b + a.b))).set_ 2 (.int .i64 (S.r + a.r))).set_ 3 (.int .i64 a.wd))
        have xx : Below ((((wr.setCell ⟨w.heap.size + 1, 0, none⟩ (.int .i64 (S.s + a.s))).setCell ⟨w.heap.size + 1, 1, none⟩ (.int .i64 (S.b + a.b))).setCell ⟨w.heap.size + 1, 2, none⟩ (.int .i64 (S.r + a.r))).setCell ⟨w.heap.size + 1, 3, none⟩ (.int .i64 a.wd)).heap.size ((((wr.setCell ⟨w.heap.size + 1, 0, none⟩ (.int .i64 (S.s + a.s))).setCell ⟨w.heap.size + 1, 1, none⟩ (.int .i64 (S.b + a.b))).setCell ⟨w.heap.size + 1, 2, none⟩ (.int .i64 (S.r + a.r))).setCell ⟨w.heap.size + 1, 3, none⟩ (.int .i64 a.wd)) (((((wr.setCell ⟨w.heap.size + 1, 0, none⟩ (.int .i64 (S.s + a.s))).setCell ⟨w.heap.size + 1, 1, none⟩ (.int .i64 (S.b + a.b))).setCell ⟨w.heap.size + 1, 2, none⟩ (.int .i64 (S.r + a.r))).setCell ⟨w.heap.size + 1, 3, none⟩ (.int .i64 a.wd)).alloc (.cells #[.int .i64 a.s, .int .i64 a.b, .int .i64 a.r, .int .i64 a.wd] 72)) := (Below.refl _ _).alloc (Nat.le_refl _) _
        have HB5 := Lib.hid (hbx.trans (xx.mono hbx.size))
        have T1 := Lib.hid (t1.below xx t1.lt)
        have T2 := Lib.hid (t2.below xx t2.lt)
        clear hb hr1 hr2 HR2 g hbx t1 t2 xx
        go_wp2
        go_roundg (gk - 1)
        case measure => omega
        case rel => exact ⟨k + 1, by go_num, by omega, by omega, HB5, T1, T2⟩
      · have k1 : decide (S.wd < a.wd) = false := decide_eq_false g
        have HE : Hid (lsum (l.take (k + 1)) = ⟨S.s + a.s, S.b + a.b, S.r + a.r, S.wd⟩) := Lib.hid (by rw [HTK.out]; simp only [ladd, if_neg g])
        have hbx := (((hb.out.setCell (p := ⟨w.heap.size + 1, 0, none⟩) (by simp) (.int .i64 (S.s + a.s))).setCell (p := ⟨w.heap.size + 1, 1, none⟩) (by simp) (.int .i64 (S.b + a.b))).setCell (p := ⟨w.heap.size + 1, 2, none⟩) (by simp) (.int .i64 (S.r + a.r)))
        have t1 := (((hr1.out.set_other (b' := w.heap.size + 1) (by omega) 0 (.int .i64 (S.s + a.s))).set_other (b' := w.heap.size + 1) (by omega) 1 (.int .i64 (S.b + a.b))).set_other (b' := w.heap.size + 1) (by omega) 2 (.int .i64 (S.r + a.r)))
        have t2 : RawAt 72 (((wr.setCell ⟨w.heap.size + 1, 0, none⟩ (.int .i64 (S.s + a.s))).setCell ⟨w.heap.size + 1, 1, none⟩ (.int .i64 (S.b + a.b))).setCell ⟨w.heap.size + 1, 2, none⟩ (.int .i64 (S.r + a.r))) (w.heap.size + 1) (lncs (lsum (l.take (k + 1)))) := by rw [HE.out]; exact (((HR2.set_ 0 (.int .i64 (S.s + a.s))).set_ 1 (.int .i64 (S.b + a.b))).set_ 2 (.int .i64 (S.r + a.r)))
        have xx : Below (((wr.setCell ⟨w.heap.size + 1, 0, none⟩ (.int .i64 (S.s + a.s))).setCell ⟨w.heap.size + 1, 1, none⟩ (.int .i64 (S.b + a.b))).setCell ⟨w.heap.size + 1, 2, none⟩ (.int .i64 (S.r + a.r))).heap.size (((wr.setCell ⟨w.heap.size + 1, 0, none⟩ (.int .i64 (S.s + a.s))).setCell ⟨w.heap.size + 1, 1, none⟩ (.int .i64 (S.b + a.b))).setCell ⟨w.heap.size + 1, 2, none⟩ (.int .i64 (S.r + a.r))) ((((wr.setCell ⟨w.heap.size + 1, 0, none⟩ (.int .i64 (S.s + a.s))).setCell ⟨w.heap.size + 1, 1, none⟩ (.int .i64 (S.b + a.b))).setCell ⟨w.heap.size + 1, 2, none⟩ (.int .i64 (S.r + a.r))).alloc (.cells #[.int .i64 a.s, .int .i64 a.b, .int .i64 a.r, .int .i64 a.wd] 72)) := (Below.refl _ _).alloc (Nat.le_refl _) _
        have HB5 := Lib.hid (hbx.trans (xx.mono hbx.size))
        have T1 := Lib.hid (t1.below xx t1.lt)
        have T2 := Lib.hid (t2.below xx t2.lt)
        clear hb hr1 hr2 HR2 g hbx t1 t2 xx
        go_wp2
        go_roundg (gk - 1)
        case measure => omega
        case rel => exact ⟨k + 1, by go_num, by omega, by omega, HB5, T1, T2⟩
    · obtain rfl : n = k := by omega
      have e2 : l.take n = l := List.take_of_length_le (by rw [HL.out]; exact Nat.le_refl _)
      have r2 := hr2.out
      have r1 := hr1.out
      rw [e2] at r2
      have HB := Lib.hid hb.out
      clear hr1 hr2 hb e2
      obtain ⟨S, hS⟩ : ∃ S, S = lsum l := ⟨_, rfl⟩
      rw [← hS] at r2
      have HS := Lib.hid hS
      clear hS
      have e0 := RawAt.cell r2 0
      have e1 := RawAt.cell r2 1
      have e2 := RawAt.cell r2 2
      have e3 := RawAt.cell r2 3
      have z0 := RawAt.cell r1 0
      have z1 := RawAt.cell r1 1
      have z2 := RawAt.cell r1 2
      have z3 := RawAt.cell r1 3
      simp [lncs] at e0 e1 e2 e3 z0 z1 z2 z3
      have f0 := r1.free 0
      have f1 := r1.free 1
      have f2 := r1.free 2
      have f3 := r1.free 3
      clear r1 r2
      go_wp2
      refine bodyPost_ret (v := .agg #[.int .i64 S.s, .int .i64 S.b, .int .i64 S.r, .int .i64 S.wd]) (by simp [results, Try.results31, go_sem, z0, z1, z2, z3]) rfl ⟨by rw [HS.out], ?_⟩
      exact (((HB.out.setCell (p := ⟨w.heap.size, 0, none⟩) (Nat.le_refl _) _).setCell (p := ⟨w.heap.size, 1, none⟩) (Nat.le_refl _) _).setCell (p := ⟨w.heap.size, 2, none⟩) (Nat.le_refl _) _).setCell (p := ⟨w.heap.size, 3, none⟩) (Nat.le_refl _) _
set_option maxHeartbeats 8000000 in
set_option maxRecDepth 100000 in
theorem lwid22 (A : Option Addr) (n c : Nat) (l : List Ln) (w : World) (hA : RowsAt encL 4 w A l) (hl : l.length = n) (hn : n ≤ 1000000) (ho : Loks l) (pl : Nat) (hp : Widest l pl) :
    Calls Try.prog 55 #[.slice A n c] w fun e w' => e = .returned (.int .i64 pl) ∧ Below w.heap.size w w' := by
  have CS := Lib.hid fun (W : World) (hW : Below w.heap.size w W) => lsum22 A n c l W (hA.below hW) hl hn ho
  have tfw : ∀ (x0 x1 x2 x3 : Int) (w : World), (Instr.field 72 (.agg #[.int .i64 x0, .int .i64 x1, .int .i64 x2, .int .i64 x3]) 3).run Try.prog w = .ok (.int .i64 x3) w := fun _ _ _ _ _ => by kernel_rfl
  have HA := Lib.hid hA
  have HL := Lib.hid hl
  have HP := Lib.hid hp
  clear hA hl ho hp
  go_enter Try.func55, Try.ntmps55
  go_wp2_with fail
  go_loopg [7] n (fun g i wr => ∃ k : Nat, i = .int .i64 k ∧ k ≤ n ∧ n - k ≤ g ∧ (k ≤ pl) ∧ Hid (Below w.heap.size w wr))
  case atStart => exact ⟨0, rfl, by omega, by omega, by omega, Lib.hid (Below.refl _ _)⟩
  case round =>
    obtain ⟨k, rfl, h1, h2, h3, hb⟩ := hrel
    by_cases hlt : k < n
    · have hkl : k < l.length := by rw [HL.out]; exact hlt
      obtain ⟨bA, off, rfl, hbA, d0, d1, d2, d3⟩ := rowsL (HA.out.below hb.out) hkl
      have hplt : pl < l.length := HP.out.lt (fun h => by rw [h] at hkl; simp at hkl)
      have hno := fun (h : k < pl) => HP.out.no k hkl h
      have hyes : k = pl → l[k].wd = (lsum l).wd := fun h => by subst h; exact HP.out.yes hkl
      generalize l[k] = a at *
      have i1 : (0 : Int) ≤ k := by omega
      have i2 : (k : Int) < n := by omega
      have x3 : Below wr.heap.size wr (wr.alloc (.cells #[.int .i64 a.s, .int .i64 a.b, .int .i64 a.r, .int .i64 a.wd] 72)) := (Below.refl _ _).alloc (Nat.le_refl _) _
      have R3 : RawAt 72 (wr.alloc (.cells #[.int .i64 a.s, .int .i64 a.b, .int .i64 a.r, .int .i64 a.wd] 72)) wr.heap.size #[.int .i64 a.s, .int .i64 a.b, .int .i64 a.r, .int .i64 a.wd] := heap_alloc_new wr _
      have HB3 := Lib.hid (hb.out.trans (x3.mono hb.out.size))
      have HR3 := Lib.hid R3
      generalize lsum l = S at *
      obtain ⟨W3, hW3⟩ : ∃ W3, W3 = wr.alloc (.cells #[.int .i64 a.s, .int .i64 a.b, .int .i64 a.r, .int .i64 a.wd] 72) := ⟨_, rfl⟩
      rw [← hW3] at HB3 HR3 x3
      have HW3 := Lib.hid hW3
      have MK : Hid (∀ W : World, Below W3.heap.size W3 W → (fun W => W.cell? ⟨wr.heap.size, 3, none⟩ = some (.int .i64 a.wd)) W) := Lib.hid fun W hW => RawAt.cell (HR3.out.below hW HR3.out.lt) 3
      have hW2 : Below W3.heap.size W3 W3.drew := (Below.refl _ _).drew
      clear R3 hb hW3
      by_cases g : k < pl
      · have hne := hno g
        have k1 : decide (a.wd = S.wd) = false := decide_eq_false hne
        have k2 : (a.wd == S.wd) = false := by simp [hne]
        clear hno hyes hne
        go_wp2_with fail
        rw [← HW3.out]
        refine wp_region_noPanic ?_
        refine wp_region_held_drew (S := (fun W => W.cell? ⟨wr.heap.size, 3, none⟩ = some (.int .i64 a.wd))) (by kernel_rfl) (MK.out _ hW2) (fun hHeld => ?_)
        refine wpAnyH_take (i := 0) (v := ?_) rfl (by kernel_rfl) (by kernel_rfl) (by kernel_rfl) (fun _ _ _ h => h) (Or.inl ⟨by rfl, ?_⟩) hHeld ?_
        rotate_left
        · intro w hSw
          (try dsimp only at hSw)
          go_simp
          try with_reducible rfl
        go_simp
        refine wpAnyH_take (i := 1) (v := ?_) rfl (by kernel_rfl) (by kernel_rfl) (by kernel_rfl) (fun _ _ _ h => h) (Or.inl ⟨by rfl, ?_⟩) hHeld ?_
        rotate_left
        · intro w hSw
          (try dsimp only at hSw)
          go_simp
          try with_reducible rfl
        go_simp
        refine wpAnyH_take (i := 2) (v := ?_) rfl (by kernel_rfl) (by kernel_rfl) (by kernel_rfl) (fun _ _ _ h => h) (Or.inl ⟨by rfl, ?_⟩) hHeld ?_
        rotate_left
        · intro w hSw
          (try dsimp only at hSw)
          go_simp
          try with_reducible rfl
        go_simp
        refine wpAnyH_ready (rs := [3]) (by kernel_rfl) (by simp) ?_
        refine AllReadyH.cons rfl (fun K hK => ?_) ?_
        rotate_left
        · exact AllReadyH.nil
        go_simp
        go_wp2_with ((go_at_call 31; ((with_reducible refine (CS.out _ (HB3.out.trans (hW2.mono HB3.out.size))).mono ?_); rintro e w4 ⟨rfl, hb4⟩); have hW2 := hW2.trans (hb4.mono hW2.size)))
        refine hK.out _ _ (MK.out _ hW2) (fun hHeld => ?_)
        clear hK K
        go_simp
        refine wpAnyH_take (i := 4) (v := ?_) rfl (by kernel_rfl) (by kernel_rfl) (by kernel_rfl) (fun _ _ _ h => h) (Or.inl ⟨by rfl, ?_⟩) hHeld ?_
        rotate_left
        · intro w hSw
          (try dsimp only at hSw)
          go_simp
          try with_reducible rfl
        go_simp
        refine wpAnyH_take (i := 5) (v := ?_) rfl (by kernel_rfl) (by kernel_rfl) (by kernel_rfl) (fun _ _ _ h => h) (Or.inl ⟨by rfl, ?_⟩) hHeld ?_
        rotate_left
        · intro w hSw
          (try dsimp only at hSw)
          go_simp
          try with_reducible rfl
        go_simp
        refine wpAnyH_done (by kernel_rfl) ?_ _
        refine NoPanic.normal ?_
        have HB9 := Lib.hid (HB3.out.trans (hW2.mono HB3.out.size))
        clear hW2 hHeld
        go_wp2
        go_roundg (gk - 1)
        case measure => omega
        case rel => exact ⟨k + 1, by go_num, by omega, by omega, by omega, HB9⟩
      · have hk : k = pl := by omega
        have he := hyes hk
        have HK := Lib.hid hk
        have k1 : decide (a.wd = S.wd) = true := decide_eq_true he
        have k2 : (a.wd == S.wd) = true := by simp [he]
        clear hno hyes he hk g
        go_wp2_with fail
        rw [← HW3.out]
        refine wp_region_noPanic ?_
        refine wp_region_held_drew (S := (fun W => W.cell? ⟨wr.heap.size, 3, none⟩ = some (.int .i64 a.wd))) (by kernel_rfl) (MK.out _ hW2) (fun hHeld => ?_)
        refine wpAnyH_take (i := 0) (v := ?_) rfl (by kernel_rfl) (by kernel_rfl) (by kernel_rfl) (fun _ _ _ h => h) (Or.inl ⟨by rfl, ?_⟩) hHeld ?_
        rotate_left
        · intro w hSw
          (try dsimp only at hSw)
          go_simp
          try with_reducible rfl
        go_simp
        refine wpAnyH_take (i := 1) (v := ?_) rfl (by kernel_rfl) (by kernel_rfl) (by kernel_rfl) (fun _ _ _ h => h) (Or.inl ⟨by rfl, ?_⟩) hHeld ?_
        rotate_left
        · intro w hSw
          (try dsimp only at hSw)
          go_simp
          try with_reducible rfl
        go_simp
        refine wpAnyH_take (i := 2) (v := ?_) rfl (by kernel_rfl) (by kernel_rfl) (by kernel_rfl) (fun _ _ _ h => h) (Or.inl ⟨by rfl, ?_⟩) hHeld ?_
        rotate_left
        · intro w hSw
          (try dsimp only at hSw)
          go_simp
          try with_reducible rfl
        go_simp
        refine wpAnyH_ready (rs := [3]) (by kernel_rfl) (by simp) ?_
        refine AllReadyH.cons rfl (fun K hK => ?_) ?_
        rotate_left
        · exact AllReadyH.nil
        go_simp
        go_wp2_with ((go_at_call 31; ((with_reducible refine (CS.out _ (HB3.out.trans (hW2.mono HB3.out.size))).mono ?_); rintro e w4 ⟨rfl, hb4⟩); have hW2 := hW2.trans (hb4.mono hW2.size)))
        refine hK.out _ _ (MK.out _ hW2) (fun hHeld => ?_)
        clear hK K
        go_simp
        refine wpAnyH_take (i := 4) (v := ?_) rfl (by kernel_rfl) (by kernel_rfl) (by kernel_rfl) (fun _ _ _ h => h) (Or.inl ⟨by rfl, ?_⟩) hHeld ?_
        rotate_left
        · intro w hSw
          (try dsimp only at hSw)
          go_simp
          try with_reducible rfl
        go_simp
        refine wpAnyH_take (i := 5) (v := ?_) rfl (by kernel_rfl) (by kernel_rfl) (by kernel_rfl) (fun _ _ _ h => h) (Or.inl ⟨by rfl, ?_⟩) hHeld ?_
        rotate_left
        · intro w hSw
          (try dsimp only at hSw)
          go_simp
          try with_reducible rfl
        go_simp
        refine wpAnyH_done (by kernel_rfl) ?_ _
        refine NoPanic.normal ?_
        have HB9 := Lib.hid (HB3.out.trans (hW2.mono HB3.out.size))
        clear hW2 hHeld
        go_wp2
        go_ret
        exact ⟨by have := HK.out; subst this; rfl, HB9.out⟩
    · have hl0 : l = [] := by
        rcases Nat.eq_zero_or_pos l.length with e | e
        · exact List.eq_nil_of_length_eq_zero e
        · exfalso
          have h4 := HP.out.lt (fun h => by rw [h] at e; simp at e)
          have h5 := HL.out
          omega
      have e : pl = 0 := HP.out.nil hl0
      have HE := Lib.hid e
      have HB := Lib.hid hb.out
      clear hb hl0 e
      go_wp2
      go_ret
      exact ⟨by rw [HE.out]; rfl, HB.out⟩
theorem its_itm {l : List Ln} {w : World} {A : Option Addr} (h : ItsAt w A (l.map itm)) {k : Nat} (hk : k < l.length) : ∃ b off, A = some ⟨b, off, none⟩ ∧ b < w.heap.size ∧ w.cell? ⟨b, off + k * 7, none⟩ = some (.int .i64 0) ∧ w.cell? ⟨b, off + k * 7 + 1, none⟩ = some (.int .i64 0) ∧ w.cell? ⟨b, off + k * 7 + 2, none⟩ = some (.int .i64 l[k].s) ∧ w.cell? ⟨b, off + k * 7 + 3, none⟩ = some (.int .i64 l[k].b) ∧ w.cell? ⟨b, off + k * 7 + 4, none⟩ = some (.int .i64 l[k].r) ∧ w.cell? ⟨b, off + k * 7 + 5, none⟩ = some (.int .i64 l[k].wd) ∧ w.cell? ⟨b, off + k * 7 + 6, none⟩ = some (.string ⟨#[]⟩) := by
  obtain ⟨b, off, e, h1, hc⟩ := h (by rw [List.length_map]; omega)
  have hx := hc k (by rw [List.length_map]; exact hk)
  have e2 : ith (l.map itm) k = itm l[k] := by rw [ith_get _ (by rw [List.length_map]; exact hk), List.getElem_map]
  rw [e2] at hx
  exact ⟨b, off, e, h1, hx⟩
set_option maxHeartbeats 8000000 in
set_option maxRecDepth 100000 in
theorem fllines {p : Option Addr} {l : List Ln} {h : Nat} {w : World} (ht : FlAt w p l h) (hn : l.length ≤ 1000000) : Calls Try.prog 53 #[.pointer p] w fun e w' => ∃ v, e = .returned v ∧ w'.ownsRow w.heap.size 78 4 v l.length (kfl encL l) ∧ Below w.heap.size w w' := by
  obtain ⟨q, hq, hk⟩ := flkept ht
  have ST := ln_slt
  have CK := Lib.hid (hk w (Below.refl _ _))
  have ci := titems_any q _ h w hq
  rw [List.length_map] at ci
  have CI := Lib.hid ci
  clear hk hq ht ci
  obtain ⟨n, hnl⟩ : ∃ n, n = l.length := ⟨_, rfl⟩
  have HL := Lib.hid hnl
  rw [← hnl] at CI hn ⊢
  clear hnl
  go_enter Try.func53, Try.ntmps53
  go_wp2_with fail
  refine CK.out.mono ?_
  rintro e w1 ⟨rfl, rfl⟩
  go_wp2_with fail
  refine CI.out.mono ?_
  rintro e w2 ⟨A, c, rfl, b2, hI, _⟩
  have HI := Lib.hid hI
  have HB2 := Lib.hid b2
  clear CI CK b2 hI
  go_wp2_with fail
  go_loopg [3, 10] n (fun g v i wr => ∃ k : Nat, i = .int .i64 k ∧ k ≤ n ∧ n - k ≤ g ∧ Hid (Below w2.heap.size w2 wr) ∧ Hid (wr.ownsRow w2.heap.size 78 4 v k (kfl encL (l.take k))))
  case atStart => exact ⟨0, rfl, by omega, by omega, Lib.hid (Below.refl _ _), Lib.hid (World.ownsRow_nil _ _ _ _)⟩
  case round =>
    obtain ⟨k, rfl, h1, h2, hb, hown⟩ := hrel
    have hlt4 := hown.out.lt
    by_cases hlt : k < n
    · have hkl : k < l.length := by rw [← HL.out]; exact hlt
      obtain ⟨bA, off, rfl, hbA, d0, d1, d2, d3, d4, d5, d6⟩ := its_itm (HI.out.below hb.out) hkl
      have htk : l.take (k + 1) = l.take k ++ [l[k]] := by rw [List.take_succ_eq_append_getElem hkl]
      have HTK := Lib.hid htk
      clear htk
      generalize l[k] = a at *
      have i1 : (0 : Int) ≤ k := by omega
      have i2 : (k : Int) < n := by omega
      obtain ⟨A3, c3, rfl⟩ := own_formL hown.out
      have x4 : Below wr.heap.size wr (wr.alloc (.cells #[.int .i64 0, .int .i64 0, .int .i64 a.s, .int .i64 a.b, .int .i64 a.r, .int .i64 a.wd, .string ⟨#[]⟩] 132)) := (Below.refl _ _).alloc (Nat.le_refl _) _
      have hsz : (wr.alloc (.cells #[.int .i64 0, .int .i64 0, .int .i64 a.s, .int .i64 a.b, .int .i64 a.r, .int .i64 a.wd, .string ⟨#[]⟩] 132)).heap.size = wr.heap.size + 1 := by simp
      have x5 : Below (wr.alloc (.cells #[.int .i64 0, .int .i64 0, .int .i64 a.s, .int .i64 a.b, .int .i64 a.r, .int .i64 a.wd, .string ⟨#[]⟩] 132)).heap.size (wr.alloc (.cells #[.int .i64 0, .int .i64 0, .int .i64 a.s, .int .i64 a.b, .int .i64 a.r, .int .i64 a.wd, .string ⟨#[]⟩] 132)) ((wr.alloc (.cells #[.int .i64 0, .int .i64 0, .int .i64 a.s, .int .i64 a.b, .int .i64 a.r, .int .i64 a.wd, .string ⟨#[]⟩] 132)).alloc (.cells #[.int .i64 a.s, .int .i64 a.b, .int .i64 a.r, .int .i64 a.wd] 78)) := (Below.refl _ _).alloc (Nat.le_refl _) _
      have R5 : RawAt 78 ((wr.alloc (.cells #[.int .i64 0, .int .i64 0, .int .i64 a.s, .int .i64 a.b, .int .i64 a.r, .int .i64 a.wd, .string ⟨#[]⟩] 132)).alloc (.cells #[.int .i64 a.s, .int .i64 a.b, .int .i64 a.r, .int .i64 a.wd] 78)) (wr.alloc (.cells #[.int .i64 0, .int .i64 0, .int .i64 a.s, .int .i64 a.b, .int .i64 a.r, .int .i64 a.wd, .string ⟨#[]⟩] 132)).heap.size #[.int .i64 a.s, .int .i64 a.b, .int .i64 a.r, .int .i64 a.wd] := heap_alloc_new (wr.alloc (.cells #[.int .i64 0, .int .i64 0, .int .i64 a.s, .int .i64 a.b, .int .i64 a.r, .int .i64 a.wd, .string ⟨#[]⟩] 132)) _
      have hs5 : RowsAt encL 4 ((wr.alloc (.cells #[.int .i64 0, .int .i64 0, .int .i64 a.s, .int .i64 a.b, .int .i64 a.r, .int .i64 a.wd, .string ⟨#[]⟩] 132)).alloc (.cells #[.int .i64 a.s, .int .i64 a.b, .int .i64 a.r, .int .i64 a.wd] 78)) (some ⟨(wr.alloc (.cells #[.int .i64 0, .int .i64 0, .int .i64 a.s, .int .i64 a.b, .int .i64 a.r, .int .i64 a.wd, .string ⟨#[]⟩] 132)).heap.size, 0, none⟩) [a] := rows_of_block (enc := encL) (k := 4) encL_len R5 (l := [a]) rfl
      rw [hsz] at hs5
      have HS5 := Lib.hid hs5
      have HB4 := hb.out.trans (x4.mono hb.out.size)
      have HO5 := Lib.hid (own_below (own_below hown.out x4) x5)
      have HB5 := Lib.hid (HB4.trans (x5.mono HB4.size))
      clear hown hb x4 x5 R5 HB4 hs5 hsz
      go_wp2_with (at_builtin; refine wpList_appK (enc := encL) ST encL_len (by omega) rfl (.tmp 14) (.tmp 27) rfl (base := w2.heap.size) (v := .slice A3 k c3) rfl HO5.out _ 1 1 [a] rfl HS5.out ⟨Nat.le_refl _, fun h => by cases h⟩ rfl (kfl_one' encL_one _) (by simp only [maxLen]; omega) (by omega) HB5.out.size ?_; intro v6 w6 hown6 hg6 hor6; have HB6 := Lib.hid (HB5.out.grown hg6 HB5.out.size (fun j hj => (hlt4 j hj).1)); have HO6 : Hid (w6.ownsRow w2.heap.size 78 4 v6 (k + 1) (kfl encL (l.take (k + 1)))) := Lib.hid (by rw [HTK.out, kfl_append]; exact hown6); clear hown6 hg6 hor6 HO5 HS5 HB5)
      go_roundg (gk - 1)
      case measure => omega
      case rel => exact ⟨k + 1, by go_num, by omega, by omega, HB6, HO6⟩
    · obtain rfl : n = k := by omega
      have e2 : l.take n = l := List.take_of_length_le (by rw [HL.out]; exact Nat.le_refl _)
      have ho2 := hown.out
      rw [e2] at ho2
      have HO := Lib.hid (own_base ho2 HB2.out.size)
      have HB := Lib.hid (HB2.out.trans (hb.out.mono HB2.out.size))
      clear ho2 hown hb e2
      go_wp2
      go_ret
      exact ⟨_, rfl, HO.out, HB.out⟩
end Go.Proofs.Ytnfjleobcfhpnaa
