/- Each node has what it must have: the contracts of tree.wellCrowned and tree.sound. -/
import Derived.Test.YtbbplppcabeojaaSumOf
import Derived.Test.YtbbplppcabeojaaItAll
import Derived.Test.YtbbplppcabeojaaEq3
import Derived.Test.YtbbplppcabeojaaTop
import Derived.Deep.RegionHeld3
namespace Go.Proofs.Ytbbplppcabeojaa
open Go.RowKit
set_option maxHeartbeats 4000000 in
set_option maxRecDepth 100000 in
theorem crowned_leaf (b n c : Nat) (A : Option Addr) (w : World) (h0 : w.cell? ⟨b, 0, none⟩ = some (.slice A n c)) (hn : 1 ≤ n) : Calls Try.prog 86 #[lfv b] w fun e w' => e = .returned (.bool true) ∧ w' = w := by
  have t1 := ta_ll
  have C1 := Lib.hid (countOf_leaf b n c A w h0)
  have g1 : (1 : Int) ≤ (n : Int) := by omega
  unfold lfv at *
  go_enter Try.func86, Try.ntmps86
  go_wp2_with fail
  refine C1.out.mono ?_
  rintro e w1 ⟨rfl, rfl⟩
  go_wp2_with fail
  go_ret
  exact ⟨rfl, rfl⟩
set_option maxHeartbeats 4000000 in
set_option maxRecDepth 100000 in
theorem crowned_branch (b n c : Nat) (A : Option Addr) (w : World) (h0 : w.cell? ⟨b, 0, none⟩ = some (.slice A n c)) (hn : 2 ≤ n) : Calls Try.prog 86 #[brv b] w fun e w' => e = .returned (.bool true) ∧ w' = w := by
  have t1 := ta_bl
  have C1 := Lib.hid (countOf_branch b n c A w h0)
  have g1 : (2 : Int) ≤ (n : Int) := by omega
  unfold brv at *
  go_enter Try.func86, Try.ntmps86
  go_wp2_with fail
  refine C1.out.mono ?_
  rintro e w1 ⟨rfl, rfl⟩
  go_wp2_with fail
  go_ret
  exact ⟨rfl, rfl⟩
theorem crowned_any (h : Nat) (k : Kd) (w : World) (hk : NodeAt h w k) (hc : 2 ≤ h → 2 ≤ k.c) : Calls Try.prog 86 #[k.v] w fun e w' => e = .returned (.bool true) ∧ w' = w := by
  match h, hk with
  | 1, ⟨b, A, c, q⟩ => rw [q.v]; exact crowned_leaf b k.c c A w (raw_lcs q.raw).1 q.pos
  | h + 2, ⟨b, A, c, ks, q, _⟩ => rw [q.v]; exact crowned_branch b k.c c A w (raw_bcs q.raw).1 (hc (by omega))
set_option maxHeartbeats 4000000 in
set_option maxRecDepth 100000 in
theorem sound_leaf (k : Kd) (w : World) (hk : NodeAt 1 w k) : Calls Try.prog 87 #[k.v] w fun e w' => e = .returned (.bool true) ∧ Below w.heap.size w w' := by
  have C1 := Lib.hid (countOf_any 1 w k hk)
  obtain ⟨b, A, c, q⟩ := hk
  have t1 := ta_ll
  have HEQ := eq3
  have hn8 := q.most
  have g1 : ¬ ((8 : Int) < (k.c : Int)) := by omega
  have E := Lib.hid fun (W : World) (hW : Below w.heap.size w W) => raw_lcs (q.raw.below hW q.raw.lt)
  have CA := Lib.hid fun (W : World) (hW : Below w.heap.size w W) => iall_any A k.c c k.l W (q.its.below hW) q.len (by omega) q.ok
  rw [q.v] at C1 ⊢
  clear q
  generalize k.c = n at *
  generalize sall k.l = s at *
  unfold lfv at *
  unfold scs at CA
  obtain ⟨e0, e1, e2, e3, e4, e5, e6⟩ := E.out w (Below.refl _ _)
  go_enter Try.func87, Try.ntmps87
  go_wp2_with fail
  refine C1.out.mono ?_
  rintro e w1 ⟨rfl, rfl⟩
  go_wp2_with fail
  have hW2 : Below w1.heap.size w1 w1.drew := (Below.refl _ _).drew
  have MK := Lib.hid fun (W : World) (hW : Below w1.heap.size w1 W) => (by
      obtain ⟨x0, x1, x2, x3, x4, x5, x6⟩ := E.out W hW
      exact ⟨x0, x1, x2, x3, x4, x5, x6, hW⟩ : W.cell? ⟨b, 0, none⟩ = some (.slice A n c) ∧ W.cell? ⟨b, 1, none⟩ = some (.int .i64 s.n) ∧ W.cell? ⟨b, 2, none⟩ = some (.int .i64 s.d0) ∧ W.cell? ⟨b, 3, none⟩ = some (.int .i64 s.d1) ∧ W.cell? ⟨b, 4, none⟩ = some (.int .i64 s.d2) ∧ W.cell? ⟨b, 5, none⟩ = some (.int .i64 s.mx) ∧ W.cell? ⟨b, 6, none⟩ = some (.int .i64 s.pl) ∧ Below w1.heap.size w1 W)
  go_region_held3 (fun W => W.cell? ⟨b, 0, none⟩ = some (.slice A n c) ∧ W.cell? ⟨b, 1, none⟩ = some (.int .i64 s.n) ∧ W.cell? ⟨b, 2, none⟩ = some (.int .i64 s.d0) ∧ W.cell? ⟨b, 3, none⟩ = some (.int .i64 s.d1) ∧ W.cell? ⟨b, 4, none⟩ = some (.int .i64 s.d2) ∧ W.cell? ⟨b, 5, none⟩ = some (.int .i64 s.mx) ∧ W.cell? ⟨b, 6, none⟩ = some (.int .i64 s.pl) ∧ Below w1.heap.size w1 W) (first | (with_reducible exact MK.out _ hW2) | (with_reducible exact MK.out _ (Below.refl _ _)) | go_keep)
    (first
      | (go_at_call 116; ((with_reducible refine (CA.out _ hW2).mono ?_); rintro e w2 ⟨rfl, hb2⟩); have hW2 := hW2.trans (hb2.mono hW2.size)))
  all_goals
    go_wp2
    go_ret
    exact ⟨rfl, hW2⟩
set_option maxHeartbeats 8000000 in
set_option maxRecDepth 100000 in
theorem sound_branch (h : Nat) (k : Kd) (w : World) (hk : NodeAt (h + 2) w k) (hz : k.l.length ≤ 100000)
    (IH : ∀ (j : Kd) (W : World), NodeAt (h + 1) W j → j.l.length ≤ 100000 → Calls Try.prog 87 #[j.v] W fun e w' => e = .returned (.bool true) ∧ Below W.heap.size W w') :
    Calls Try.prog 87 #[k.v] w fun e w' => e = .returned (.bool true) ∧ Below w.heap.size w w' := by
  have C1 := Lib.hid (countOf_any (h + 2) w k hk)
  have hsz := hk.size
  have hcnt := hk.cnt
  obtain ⟨b, A, c, ks, q, r⟩ := hk
  have t1 := ta_bl
  have t2 := tp_b
  have HEQ := eq3
  have hn8 := q.most
  have hh : h ≤ 100000 := by
    have h4 := lt_p4 (h + 2 - 1)
    have h5 := Nat.mul_le_mul_right (p4 (h + 2 - 1)) hcnt.1
    omega
  have g1 : ¬ ((8 : Int) < (k.c : Int)) := by omega
  have E := Lib.hid fun (W : World) (hW : Below w.heap.size w W) => raw_bcs (q.raw.below hW q.raw.lt)
  have HA := Lib.hid q.kids
  have HL := Lib.hid q.len
  have hfl := q.fl
  have CA := Lib.hid fun (W : World) (hW : Below w.heap.size w W) => sumOf_any A k.c c ks W (q.kids.below hW) q.len (by omega) (fun x hx => (((r x hx).1).below hW).sumK) (by rw [hfl]; exact hz)
  have HK := Lib.hid r
  have HI := Lib.hid IH
  rw [hfl] at CA
  have hzl : (fl ks).length ≤ 100000 := by rw [hfl]; exact hz
  rw [q.v] at C1 ⊢
  clear q r IH hfl hsz hcnt hz
  generalize k.c = n at *
  generalize sall k.l = s at *
  unfold brv at *
  unfold scs at CA
  obtain ⟨e0, e1, e2, e3, e4, e5, e6, e7⟩ := E.out w (Below.refl _ _)
  have hwr : IntKind.i64.wrap ((h : Int) + 2 - 1) = (h : Int) + 1 := by rw [IntWalk.i64_in _ (by omega)]; omega
  go_enter Try.func87, Try.ntmps87
  go_wp2_with fail
  refine C1.out.mono ?_
  rintro e w1 ⟨rfl, rfl⟩
  go_wp2_with fail
  go_loopg [34] n (fun g iv wr => ∃ j : Nat, iv = .int .i64 j ∧ j ≤ n ∧ n - j ≤ g ∧ Below w1.heap.size w1 wr)
  case atStart => exact ⟨0, rfl, by omega, by omega, Below.refl _ _⟩
  case round =>
    obtain ⟨j, rfl, g2, g3, hb⟩ := hrel
    by_cases hlt : j < n
    · have hm : j < ks.length := by rw [HL.out]; exact hlt
      obtain ⟨bA, off, rfl, hbA, hcell⟩ := HA.out (by rw [kvs_length]; omega)
      have eK := ((old_cells hb).1 _ _ hbA).trans (hcell j (by rw [kvs_length]; exact hm))
      rw [vth_kvs ks hm] at eK
      clear hcell
      obtain ⟨hKN, hK4⟩ := HK.out _ (kth_mem ks hm)
      have hkl := kth_len ks hm
      have D1 : Hid (∀ (W : World), Below w1.heap.size w1 W → Calls Try.prog 85 #[(kth ks j).v] W fun e w' => e = .returned (.int .i64 ((h : Int) + 1)) ∧ w' = W) := fun W hW => heightOf_any (h + 1) W (kth ks j) (hKN.below hW)
      have D2 := Lib.hid fun (W : World) (hW : Below w1.heap.size w1 W) => countOf_any (h + 1) W (kth ks j) (hKN.below hW)
      have D3 := Lib.hid fun (W : World) (hW : Below w1.heap.size w1 W) => HI.out (kth ks j) W (hKN.below hW) (by omega)
      clear hKN hkl
      generalize (kth ks j).v = v at *
      generalize (kth ks j).c = cc at *
      have hK5 : ¬ ((cc : Int) < 4) := by omega
      have hK6 : decide ((cc : Int) < 4) = false := decide_eq_false hK5
      have hK7 : (4 : Int) ≤ (cc : Int) := by omega
      clear hK5 hK4
      have hW2 : Below w1.heap.size w1 wr.drew := hb.drew
      have x7 : wr.cell? ⟨b, 7, none⟩ = some (.int .i64 ((h : Int) + 2)) := (E.out wr hb).2.2.2.2.2.2.2
      have MK := Lib.hid fun (W : World) (hW : Below w1.heap.size w1 W) => (⟨(E.out W hW).2.2.2.2.2.2.2, hW⟩ : W.cell? ⟨b, 7, none⟩ = some (.int .i64 ((h : Int) + 2)) ∧ Below w1.heap.size w1 W)
      go_wp2_with fail
      go_region_held3 (fun W => W.cell? ⟨b, 7, none⟩ = some (.int .i64 ((h : Int) + 2)) ∧ Below w1.heap.size w1 W) (first | (with_reducible exact MK.out _ hW2) | (with_reducible exact MK.out _ hb) | go_keep)
        (first
          | (go_at_call 85; ((with_reducible refine (D1.out _ hW2).mono ?_); rintro e w2 ⟨rfl, rfl⟩))
          | (go_at_call 115; ((with_reducible refine (D2.out _ hW2).mono ?_); rintro e w2 ⟨rfl, rfl⟩))
          | (go_at_call 87; ((with_reducible refine (D3.out _ hW2).mono ?_); rintro e w2 ⟨rfl, hb2⟩); have hW2 := hW2.trans (hb2.mono hW2.size)))
      all_goals
        go_wp2
        go_roundg (gk - 1)
        case measure => omega
        case rel => exact ⟨j + 1, by go_num, by omega, by omega, hW2⟩
    · obtain ⟨x0, x1, x2, x3, x4, x5, x6, x7⟩ := E.out wr hb
      clear x7
      have hW2 : Below w1.heap.size w1 wr.drew := hb.drew
      have MK := Lib.hid fun (W : World) (hW : Below w1.heap.size w1 W) => (by
          obtain ⟨y0, y1, y2, y3, y4, y5, y6, _⟩ := E.out W hW
          exact ⟨y0, y1, y2, y3, y4, y5, y6, hW⟩ : W.cell? ⟨b, 0, none⟩ = some (.slice A n c) ∧ W.cell? ⟨b, 1, none⟩ = some (.int .i64 s.n) ∧ W.cell? ⟨b, 2, none⟩ = some (.int .i64 s.d0) ∧ W.cell? ⟨b, 3, none⟩ = some (.int .i64 s.d1) ∧ W.cell? ⟨b, 4, none⟩ = some (.int .i64 s.d2) ∧ W.cell? ⟨b, 5, none⟩ = some (.int .i64 s.mx) ∧ W.cell? ⟨b, 6, none⟩ = some (.int .i64 s.pl) ∧ Below w1.heap.size w1 W)
      go_wp2_with fail
      go_region_held3 (fun W => W.cell? ⟨b, 0, none⟩ = some (.slice A n c) ∧ W.cell? ⟨b, 1, none⟩ = some (.int .i64 s.n) ∧ W.cell? ⟨b, 2, none⟩ = some (.int .i64 s.d0) ∧ W.cell? ⟨b, 3, none⟩ = some (.int .i64 s.d1) ∧ W.cell? ⟨b, 4, none⟩ = some (.int .i64 s.d2) ∧ W.cell? ⟨b, 5, none⟩ = some (.int .i64 s.mx) ∧ W.cell? ⟨b, 6, none⟩ = some (.int .i64 s.pl) ∧ Below w1.heap.size w1 W) (first | (with_reducible exact MK.out _ hW2) | (with_reducible exact MK.out _ hb) | go_keep)
        (first
          | (go_at_call 71; ((with_reducible refine (CA.out _ hW2).mono ?_); rintro e w2 ⟨rfl, hb2⟩); have hW2 := hW2.trans (hb2.mono hW2.size)))
      all_goals
        go_wp2
        go_ret
        exact ⟨rfl, hW2⟩
theorem sound_any : ∀ (h : Nat) (k : Kd) (w : World), NodeAt h w k → k.l.length ≤ 100000 → Calls Try.prog 87 #[k.v] w fun e w' => e = .returned (.bool true) ∧ Below w.heap.size w w' := by
  intro h
  induction h with
  | zero => intro k w hk; exact hk.elim
  | succ h ih =>
    intro k w hk hz
    match h, hk, ih with
    | 0, hk, _ => exact sound_leaf k w hk
    | h + 1, hk, ih => exact sound_branch h k w hk hz (fun j W a1 a2 => ih j W a1 a2)
end Go.Proofs.Ytbbplppcabeojaa
