/- Methods of trees: New, At, Sound; the tree's contracts that the laws on cursors ask. -/
import Derived.Test.YtnfjleobcfhpnaaTreeT
import Derived.Test.YtnfjleobcfhpnaaTop
import Derived.Test.YtnfjleobcfhpnaaItCheck
import Derived.Test.YtnfjleobcfhpnaaTreeF
namespace Go.Proofs.Ytnfjleobcfhpnaa
open Go.RowKit
/-- What a tree's making comes to: the node in a block of its own. -/
theorem tp_new {w : World} {v : Value} {l : List I7} {h : Nat} (ht : Top w v l h) (ho : Okl l) (hz : l.length ≤ 30000) : TP (w.alloc (.cells #[v] 140)) (some ⟨w.heap.size, 0, none⟩) l h :=
  .inr ⟨w.heap.size, v, rfl, heap_alloc_new w _, ht.below ((Below.refl _ _).alloc (Nat.le_refl _) _), ho, hz⟩
set_option maxHeartbeats 4000000 in
set_option maxRecDepth 100000 in
theorem tnew_full (A : Option Addr) (n c : Nat) (w : World) (hn : n ≤ maxLen) (h : 30000 < n) :
    Calls Try.prog 75 #[.slice A n c] w fun e w' => e = .returned (.tuple #[.pointer none, .int .i64 5]) ∧ Below w.heap.size w w' := by
  unfold maxLen at hn
  have g1 : (30000 : Int) < (n : Int) := by omega
  go_enter Try.func75, Try.ntmps75
  go_wp2
  refine bodyPost_ret (v := .tuple #[.pointer none, .int .i64 5]) (by simp [results, Try.results75, go_sem]) rfl ⟨rfl, Below.refl _ _⟩
set_option maxHeartbeats 4000000 in
set_option maxRecDepth 100000 in
theorem tnew_any (A : Option Addr) (n c : Nat) (l : List I7) (w : World) (hA : ItsAt w A l) (hl : l.length = n) (hc : Caps A n c) (hn : n ≤ 30000) (ho : Okl l) :
    Calls Try.prog 75 #[.slice A n c] w fun e w' => ∃ a h, e = .returned (.tuple #[.pointer (some a), .int .i64 0]) ∧ TP w' (some a) l h ∧ Below w.heap.size w w' := by
  have g1 : ¬ ((30000 : Int) < (n : Int)) := by omega
  have HA := Lib.hid hA
  have HL := Lib.hid hl
  have HC := Lib.hid hc
  have HO := Lib.hid ho
  clear hA hl hc ho
  go_enter Try.func75, Try.ntmps75
  go_wp2
  go_loopg [12] n (fun g iv wr => ∃ j : Nat, iv = .int .i64 j ∧ j ≤ n ∧ n - j ≤ g ∧ Below w.heap.size w wr ∧ Hid (Okl (l.take j)))
  case atStart => exact ⟨0, rfl, by omega, by omega, Below.refl _ _, fun i hi => absurd hi (by simp)⟩
  case round =>
    obtain ⟨j, rfl, h1, h2, hb, hok⟩ := hrel
    by_cases hlt : j < n
    · have hm : j < l.length := by rw [HL.out]; exact hlt
      obtain ⟨b, off, rfl, hbs, hc⟩ := HA.out (by omega)
      obtain ⟨e0, e1, e2, e3, e4, e5, e6⟩ := hc j hm
      clear hc
      obtain ⟨H1, H2⟩ := old_cells hb
      have hoi := HO.out _ (ith_mem l hm)
      have HOK := Lib.hid (hok.out.step hm hoi)
      have CC := Lib.hid fun (W : World) => check_any (ith l j) 0 ⟨fun _ => rfl, fun h => absurd hoi h⟩ W
      clear hoi
      generalize ith l j = x at *
      unfold ics at CC
      go_wp2_with fail
      refine (CC.out _).mono ?_
      rintro e w2 ⟨rfl, hb2⟩
      have a1 := (hb.alloc hb.size (.cells (ics x) 132))
      have a2 := a1.trans (hb2.mono a1.size)
      go_wp2
      go_roundg (gk - 1)
      case measure => omega
      case rel => exact ⟨j + 1, by go_num, by omega, by omega, a2, HOK⟩
    · have CB := Lib.hid (build_any A n c l wr (HA.out.below hb) HL.out HC.out (by omega) HO.out)
      have HZ := Lib.hid (show l.length ≤ 30000 by rw [HL.out]; exact hn)
      go_wp2_with fail
      refine CB.out.mono ?_
      rintro e w5 ⟨v5, i5, rfl, hT5, hb5⟩
      have a5 := hb.trans (hb5.mono hb.size)
      have HP := Lib.hid (tp_new hT5 HO.out HZ.out)
      have a6 := a5.alloc a5.size (.cells #[v5] 140)
      have hone := hT5.one
      clear hT5
      rcases hone with rfl | ⟨t, z, rfl⟩
      all_goals
        go_wp2
        refine bodyPost_ret (v := .tuple #[.pointer (some ⟨w5.heap.size, 0, none⟩), .int .i64 0]) (by simp [results, Try.results75, go_sem]) rfl ⟨_, i5, rfl, HP.out, a6⟩
set_option maxHeartbeats 4000000 in
set_option maxRecDepth 100000 in
theorem tnew_bad (A : Option Addr) (n c : Nat) (l : List I7) (w : World) (hA : ItsAt w A l) (hl : l.length = n) (hn : n ≤ 30000) (ho : ¬ Okl l) :
    Calls Try.prog 75 #[.slice A n c] w fun e w' => e = .returned (.tuple #[.pointer none, .int .i64 1]) ∧ Below w.heap.size w w' := by
  have g1 : ¬ ((30000 : Int) < (n : Int)) := by omega
  have HA := Lib.hid hA
  have HL := Lib.hid hl
  have HO := Lib.hid ho
  clear hA hl ho
  go_enter Try.func75, Try.ntmps75
  go_wp2
  go_loopg [12] n (fun g iv wr => ∃ j : Nat, iv = .int .i64 j ∧ j ≤ n ∧ n - j ≤ g ∧ Below w.heap.size w wr ∧ Hid (Okl (l.take j)))
  case atStart => exact ⟨0, rfl, by omega, by omega, Below.refl _ _, fun i hi => absurd hi (by simp)⟩
  case round =>
    obtain ⟨j, rfl, h1, h2, hb, hok⟩ := hrel
    by_cases hlt : j < n
    · have hm : j < l.length := by rw [HL.out]; exact hlt
      obtain ⟨b, off, rfl, hbs, hc⟩ := HA.out (by omega)
      obtain ⟨e0, e1, e2, e3, e4, e5, e6⟩ := hc j hm
      clear hc
      obtain ⟨H1, H2⟩ := old_cells hb
      by_cases hoi : Oki (ith l j)
      · have HOK := Lib.hid (hok.out.step hm hoi)
        have CC := Lib.hid fun (W : World) => check_any (ith l j) 0 ⟨fun _ => rfl, fun h => absurd hoi h⟩ W
        clear hoi
        generalize ith l j = x at *
        unfold ics at CC
        go_wp2_with fail
        refine (CC.out _).mono ?_
        rintro e w2 ⟨rfl, hb2⟩
        have a1 := (hb.alloc hb.size (.cells (ics x) 132))
        have a2 := a1.trans (hb2.mono a1.size)
        go_wp2
        go_roundg (gk - 1)
        case measure => omega
        case rel => exact ⟨j + 1, by go_num, by omega, by omega, a2, HOK⟩
      · have CC := Lib.hid fun (W : World) => check_any (ith l j) 1 ⟨fun h => absurd h hoi, fun _ => rfl⟩ W
        clear hoi
        generalize ith l j = x at *
        unfold ics at CC
        go_wp2_with fail
        refine (CC.out _).mono ?_
        rintro e w2 ⟨rfl, hb2⟩
        have a1 := (hb.alloc hb.size (.cells (ics x) 132))
        have a2 := a1.trans (hb2.mono a1.size)
        go_wp2
        refine bodyPost_ret (v := .tuple #[.pointer none, .int .i64 1]) (by simp [results, Try.results75, go_sem]) rfl ⟨rfl, a2⟩
    · exfalso
      exact HO.out (by have := hok.out; rwa [List.take_of_length_le (by rw [HL.out]; omega)] at this)
/-- A tree lies at an address. -/
def TT (w : World) (a : Addr) (l : List I7) (h : Nat) : Prop := TP w (some a) l h
end Go.Proofs.Ytnfjleobcfhpnaa
