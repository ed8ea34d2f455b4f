/- Methods of trees: New, At, Sound; the tree's contracts that the laws on cursors ask. -/
import Derived.Test.YtpnjokhhbjpciaaGreatDoorTreeT
import Derived.Test.YtpnjokhhbjpciaaGreatDoorTop
import Derived.Test.YtpnjokhhbjpciaaGreatDoorFindT
import Derived.Test.YtpnjokhhbjpciaaGreatDoorTreeF
namespace Go.Proofs.YtpnjokhhbjpciaaGreatDoor
open Go.RowKit
/-- What a tree's making comes to: the node in a block of its own. -/
theorem tp_new {w : World} {v : Value} {l : List I7} {h : Nat} (ht : Top w v l h) (ho : Okl l) (hz : l.length ≤ 30000) : TP (w.alloc (.cells #[v] 188)) (some ⟨w.heap.size, 0, none⟩) l h :=
  .inr ⟨w.heap.size, v, rfl, heap_alloc_new w _, ht.below ((Below.refl _ _).alloc (Nat.le_refl _) _), ho, hz⟩
set_option maxHeartbeats 4000000 in
set_option maxRecDepth 100000 in
theorem tnew_full (A : Option Addr) (n c : Nat) (w : World) (hn : n ≤ maxLen) (h : 30000 < n) :
    Calls Tryz.prog 108 #[.slice A n c] w fun e w' => e = .returned (.tuple #[.pointer none, .int .i64 5]) ∧ Below w.heap.size w w' := by
  unfold maxLen at hn
  have g1 : (30000 : Int) < (n : Int) := by omega
  go_enter Tryz.func108, Tryz.ntmps108
  go_wp2
  refine bodyPost_ret (v := .tuple #[.pointer none, .int .i64 5]) (by simp [results, Tryz.results108, go_sem]) rfl ⟨rfl, Below.refl _ _⟩
set_option maxHeartbeats 4000000 in
set_option maxRecDepth 100000 in
theorem tnew_any (A : Option Addr) (n c : Nat) (l : List I7) (w : World) (hA : ItsAt w A l) (hl : l.length = n) (hc : Caps A n c) (hn : n ≤ 30000) (ho : Okl l) :
    Calls Tryz.prog 108 #[.slice A n c] w fun e w' => ∃ a h, e = .returned (.tuple #[.pointer (some a), .int .i64 0]) ∧ TP w' (some a) l h ∧ Below w.heap.size w w' := by
  have g1 : ¬ ((30000 : Int) < (n : Int)) := by omega
  have HA := Lib.hid hA
  have HL := Lib.hid hl
  have HC := Lib.hid hc
  have HO := Lib.hid ho
  clear hA hl hc ho
  go_enter Tryz.func108, Tryz.ntmps108
  go_wp2
  go_loopg [12] n (fun g iv wr => ∃ j : Nat, iv = .int .i64 j ∧ j ≤ n ∧ n - j ≤ g ∧ Below w.heap.size w wr ∧ Hid (Okl (l.take j)))
  case atStart => exact ⟨0, rfl, by omega, by omega, Below.refl _ _, fun i hi => absurd hi (by simp)⟩
  case round =>
    obtain ⟨j, rfl, h1, h2, hb, hok⟩ := hrel
    by_cases hlt : j < n
    · have hm : j < l.length := by rw [HL.out]; exact hlt
      obtain ⟨b, off, rfl, hbs, hc⟩ := HA.out (by omega)
      obtain ⟨e0, e1, e2, e3, e4, e5, e6⟩ := hc j hm
      clear hc
      obtain ⟨H1, H2⟩ := old_cells hb
      have hoi := HO.out _ (ith_mem l hm)
      have HOK := Lib.hid (hok.out.step hm hoi)
      have CC := Lib.hid fun (W : World) => check_any (ith l j) 0 ⟨fun _ => rfl, fun h => absurd hoi h⟩ W
      clear hoi
      generalize ith l j = x at *
      unfold ics at CC
      go_wp2_with fail
      refine (CC.out _).mono ?_
      rintro e w2 ⟨rfl, hb2⟩
      have a1 := (hb.alloc hb.size (.cells (ics x) 162))
      have a2 := a1.trans (hb2.mono a1.size)
      go_wp2
      go_roundg (gk - 1)
      case measure => omega
      case rel => exact ⟨j + 1, by go_num, by omega, by omega, a2, HOK⟩
    · have CB := Lib.hid (build_any A n c l wr (HA.out.below hb) HL.out HC.out (by omega) HO.out)
      have HZ := Lib.hid (show l.length ≤ 30000 by rw [HL.out]; exact hn)
      go_wp2_with fail
      refine CB.out.mono ?_
      rintro e w5 ⟨v5, i5, rfl, hT5, hb5⟩
      have a5 := hb.trans (hb5.mono hb.size)
      have HP := Lib.hid (tp_new hT5 HO.out HZ.out)
      have a6 := a5.alloc a5.size (.cells #[v5] 188)
      have hone := hT5.one
      clear hT5
      rcases hone with rfl | ⟨t, z, rfl⟩
      all_goals
        go_wp2
        refine bodyPost_ret (v := .tuple #[.pointer (some ⟨w5.heap.size, 0, none⟩), .int .i64 0]) (by simp [results, Tryz.results108, go_sem]) rfl ⟨_, i5, rfl, HP.out, a6⟩
set_option maxHeartbeats 4000000 in
set_option maxRecDepth 100000 in
theorem tnew_bad (A : Option Addr) (n c : Nat) (l : List I7) (w : World) (hA : ItsAt w A l) (hl : l.length = n) (hn : n ≤ 30000) (ho : ¬ Okl l) :
    Calls Tryz.prog 108 #[.slice A n c] w fun e w' => e = .returned (.tuple #[.pointer none, .int .i64 1]) ∧ Below w.heap.size w w' := by
  have g1 : ¬ ((30000 : Int) < (n : Int)) := by omega
  have HA := Lib.hid hA
  have HL := Lib.hid hl
  have HO := Lib.hid ho
  clear hA hl ho
  go_enter Tryz.func108, Tryz.ntmps108
  go_wp2
  go_loopg [12] n (fun g iv wr => ∃ j : Nat, iv = .int .i64 j ∧ j ≤ n ∧ n - j ≤ g ∧ Below w.heap.size w wr ∧ Hid (Okl (l.take j)))
  case atStart => exact ⟨0, rfl, by omega, by omega, Below.refl _ _, fun i hi => absurd hi (by simp)⟩
  case round =>
    obtain ⟨j, rfl, h1, h2, hb, hok⟩ := hrel
    by_cases hlt : j < n
    · have hm : j < l.length := by rw [HL.out]; exact hlt
      obtain ⟨b, off, rfl, hbs, hc⟩ := HA.out (by omega)
      obtain ⟨e0, e1, e2, e3, e4, e5, e6⟩ := hc j hm
      clear hc
      obtain ⟨H1, H2⟩ := old_cells hb
      by_cases hoi : Oki (ith l j)
      · have HOK := Lib.hid (hok.out.step hm hoi)
        have CC := Lib.hid fun (W : World) => check_any (ith l j) 0 ⟨fun _ => rfl, fun h => absurd hoi h⟩ W
        clear hoi
        generalize ith l j = x at *
        unfold ics at CC
        go_wp2_with fail
        refine (CC.out _).mono ?_
        rintro e w2 ⟨rfl, hb2⟩
        have a1 := (hb.alloc hb.size (.cells (ics x) 162))
        have a2 := a1.trans (hb2.mono a1.size)
        go_wp2
        go_roundg (gk - 1)
        case measure => omega
        case rel => exact ⟨j + 1, by go_num, by omega, by omega, a2, HOK⟩
      · have CC := Lib.hid fun (W : World) => check_any (ith l j) 1 ⟨fun h => absurd h hoi, fun _ => rfl⟩ W
        clear hoi
        generalize ith l j = x at *
        unfold ics at CC
        go_wp2_with fail
        refine (CC.out _).mono ?_
        rintro e w2 ⟨rfl, hb2⟩
        have a1 := (hb.alloc hb.size (.cells (ics x) 162))
        have a2 := a1.trans (hb2.mono a1.size)
        go_wp2
        refine bodyPost_ret (v := .tuple #[.pointer none, .int .i64 1]) (by simp [results, Tryz.results108, go_sem]) rfl ⟨rfl, a2⟩
    · exfalso
      exact HO.out (by have := hok.out; rwa [List.take_of_length_le (by rw [HL.out]; omega)] at this)
set_option maxHeartbeats 4000000 in
set_option maxRecDepth 100000 in
theorem tat_bad (p : Option Addr) (l : List I7) (h : Nat) (i : Int) (w : World) (ht : TP w p l h) (hi : ¬ (0 ≤ i ∧ i < l.length)) :
    Calls Tryz.prog 131 #[.pointer p, .int .i64 i] w fun e w' => e = .returned (.tuple #[.agg (ics ⟨0, 0, 0, 0, 0, 0, ⟨#[]⟩⟩), .int .i64 1]) ∧ Below w.heap.size w w' := by
  have C1 := Lib.hid fun (W : World) (hW : Below w.heap.size w W) => tsum_n p l h W (ht.below hW)
  have tf := fld_n
  clear ht
  have hb1 : Below w.heap.size w (w.alloc (.cells #[.int .i64 0, .int .i64 0, .int .i64 0, .int .i64 0, .int .i64 0, .int .i64 0, .string ⟨#[]⟩] 162)) := (Below.refl _ _).alloc (Nat.le_refl _) _
  have r1 : RawAt 162 (w.alloc (.cells #[.int .i64 0, .int .i64 0, .int .i64 0, .int .i64 0, .int .i64 0, .int .i64 0, .string ⟨#[]⟩] 162)) w.heap.size (ics ⟨0, 0, 0, 0, 0, 0, ⟨#[]⟩⟩) := heap_alloc_new w _
  obtain ⟨W1, hW1⟩ : ∃ W1, W1 = w.alloc (.cells #[.int .i64 0, .int .i64 0, .int .i64 0, .int .i64 0, .int .i64 0, .int .i64 0, .string ⟨#[]⟩] 162) := ⟨_, rfl⟩
  rw [← hW1] at hb1 r1
  have HR1 := Lib.hid r1; clear r1
  by_cases g1 : i < 0
  · have r2 := HR1.out
    have f0 := r2.free 0
    have f1 := r2.free 1
    have f2 := r2.free 2
    have f3 := r2.free 3
    have f4 := r2.free 4
    have f5 := r2.free 5
    have f6 := r2.free 6
    obtain ⟨c0, c1, c2, c3, c4, c5, c6⟩ := raw_ics r2
    clear r2
    go_enter Tryz.func131, Tryz.ntmps131
    go_wp2_with fail
    rw [← hW1]
    clear hW1
    go_wp2
    refine bodyPost_ret (v := .tuple #[.agg #[.int .i64 0, .int .i64 0, .int .i64 0, .int .i64 0, .int .i64 0, .int .i64 0, .string ⟨#[]⟩], .int .i64 1]) (by simp [results, Tryz.results131, go_sem, c0, c1, c2, c3, c4, c5, c6]) rfl ⟨rfl, ?_⟩
    (repeat' (first | (with_reducible exact hb1) | (with_reducible refine Below.setCell ?_ ?_ _) | (with_reducible refine Below.drew ?_))) <;> first | exact Nat.le_refl _ | (simp; done) | (simp; omega)
  · have g2 : (l.length : Int) ≤ i := by omega
    go_enter Tryz.func131, Tryz.ntmps131
    go_wp2_with fail
    rw [← hW1]
    clear hW1
    refine (C1.out _ hb1).mono ?_
    rintro e w1 ⟨rfl, hb2⟩
    have a2 := hb1.trans (hb2.mono hb1.size)
    have r2 := HR1.out.below hb2 HR1.out.lt
    have f0 := r2.free 0
    have f1 := r2.free 1
    have f2 := r2.free 2
    have f3 := r2.free 3
    have f4 := r2.free 4
    have f5 := r2.free 5
    have f6 := r2.free 6
    obtain ⟨c0, c1, c2, c3, c4, c5, c6⟩ := raw_ics r2
    clear r2
    go_wp2
    refine bodyPost_ret (v := .tuple #[.agg #[.int .i64 0, .int .i64 0, .int .i64 0, .int .i64 0, .int .i64 0, .int .i64 0, .string ⟨#[]⟩], .int .i64 1]) (by simp [results, Tryz.results131, go_sem, c0, c1, c2, c3, c4, c5, c6]) rfl ⟨rfl, ?_⟩
    (repeat' (first | (with_reducible exact a2) | (with_reducible refine Below.setCell ?_ ?_ _) | (with_reducible refine Below.drew ?_))) <;> first | exact Nat.le_refl _ | (simp; done) | (simp; omega)
set_option maxHeartbeats 4000000 in
set_option maxRecDepth 100000 in
theorem tat_any (p : Option Addr) (l : List I7) (h i : Nat) (w : World) (ht : TP w p l h) (hi : i < l.length) :
    Calls Tryz.prog 131 #[.pointer p, .int .i64 i] w fun e w' => e = .returned (.tuple #[.agg (ics (ith l i)), .int .i64 0]) ∧ Below w.heap.size w w' := by
  have C1 := Lib.hid fun (W : World) (hW : Below w.heap.size w W) => tsum_n p l h W (ht.below hW)
  obtain ⟨v, hT, hroot⟩ := root_fix ht
  have C2 := Lib.hid hroot
  obtain ⟨_, hz⟩ := ht.okl
  have tf := fld_n
  have C3 : Hid (∀ W : World, Below w.heap.size w W → Calls Tryz.prog 159 #[v, .int .i64 i] W fun e w' => e = .returned (.agg (ics (ith l i))) ∧ Below W.heap.size W w') := by
    rcases hT with ⟨_, _, rfl⟩ | ⟨c, hk, _⟩
    · exact absurd hi (by simp)
    · exact fun W hW => pick_any h ⟨v, l, c⟩ W i (hk.below hW) hi (by show l.length ≤ _; omega)
  clear ht hT hroot
  have g1 : (i : Int) < (l.length : Int) := by omega
  have g2 : ¬ ((i : Int) < 0) := by omega
  generalize hx : ith l i = x at *
  have HX := Lib.hid hx; clear hx
  unfold ics at C3
  have hb1 : Below w.heap.size w (w.alloc (.cells #[.int .i64 0, .int .i64 0, .int .i64 0, .int .i64 0, .int .i64 0, .int .i64 0, .string ⟨#[]⟩] 162)) := (Below.refl _ _).alloc (Nat.le_refl _) _
  have r1 : RawAt 162 (w.alloc (.cells #[.int .i64 0, .int .i64 0, .int .i64 0, .int .i64 0, .int .i64 0, .int .i64 0, .string ⟨#[]⟩] 162)) w.heap.size (ics ⟨0, 0, 0, 0, 0, 0, ⟨#[]⟩⟩) := heap_alloc_new w _
  obtain ⟨W1, hW1⟩ : ∃ W1, W1 = w.alloc (.cells #[.int .i64 0, .int .i64 0, .int .i64 0, .int .i64 0, .int .i64 0, .int .i64 0, .string ⟨#[]⟩] 162) := ⟨_, rfl⟩
  rw [← hW1] at hb1 r1
  have HR1 := Lib.hid r1; clear r1
  go_enter Tryz.func131, Tryz.ntmps131
  go_wp2_with fail
  rw [← hW1]
  clear hW1
  refine (C1.out _ hb1).mono ?_
  rintro e w1 ⟨rfl, hb2⟩
  have a2 := hb1.trans (hb2.mono hb1.size)
  go_wp2_with fail
  refine (C2.out _ a2).mono ?_
  rintro e w2 ⟨rfl, rfl⟩
  go_wp2_with fail
  refine (C3.out _ a2).mono ?_
  rintro e w3 ⟨rfl, hb3⟩
  have a3 := a2.trans (hb3.mono a2.size)
  have r2 := (HR1.out.below hb2 HR1.out.lt).below hb3 ((HR1.out.below hb2 HR1.out.lt)).lt
  have f0 := r2.free 0
  have f1 := r2.free 1
  have f2 := r2.free 2
  have f3 := r2.free 3
  have f4 := r2.free 4
  have f5 := r2.free 5
  have f6 := r2.free 6
  obtain ⟨c0, c1, c2, c3, c4, c5, c6⟩ := raw_ics r2
  clear r2
  go_wp2
  refine bodyPost_ret (v := .tuple #[.agg #[.int .i64 x.tag, .int .i64 x.id, .int .i64 x.d0, .int .i64 x.d1, .int .i64 x.d2, .int .i64 x.mx, .string x.tx], .int .i64 0]) (by simp [results, Tryz.results131, go_sem, c0, c1, c2, c3, c4, c5, c6]) rfl ⟨rfl, ?_⟩
  (repeat' (first | (with_reducible exact a3) | (with_reducible refine Below.setCell ?_ ?_ _) | (with_reducible refine Below.drew ?_))) <;> first | exact Nat.le_refl _ | (simp; done) | (simp; omega)
/-- A tree lies at an address. -/
def TT (w : World) (a : Addr) (l : List I7) (h : Nat) : Prop := TP w (some a) l h
set_option linter.unusedVariables false in
theorem treeQ : TreeQ TT where
  below := fun h hb => TP.below h hb
  ok := fun h => TP.okl h
  sum := fun w a l h ht => tsum_any _ l h w ht
  new := fun A n c l w hA hl hc hn ho => tnew_any A n c l w hA hl hc hn ho
  find := fun w a l h dim v b ht hq => tfind_any _ l h dim v b w ht hq
  findBad := fun w a l h dim v b ht hq => tfind_bad _ l h dim v b w ht hq
  at_ := fun w a l h k ht hk => tat_any _ l h k w ht hk
  atBad := fun w a l h k ht hk => tat_bad _ l h k w ht hk
end Go.Proofs.YtpnjokhhbjpciaaGreatDoor
