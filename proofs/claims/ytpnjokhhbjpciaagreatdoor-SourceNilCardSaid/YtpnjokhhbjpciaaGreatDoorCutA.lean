/- A part of a tree: the contract of tree.cutBranch. A part of a tree: the contract of tree.cut, whatever the node. -/
import Derived.Test.YtpnjokhhbjpciaaGreatDoorCutP
namespace Go.Proofs.YtpnjokhhbjpciaaGreatDoor
open Go.RowKit
set_option maxHeartbeats 8000000 in
set_option maxRecDepth 100000 in
theorem cutBranch_leaf (k : Kd) (b : Nat) (A : Option Addr) (c : Nat) (ks : List Kd) (x y : Nat) (w : World) (q : BranchAt w k b A c (1 + 1) ks) (hr : Row (1) w ks) (hw : Wd ks) (hz : k.l.length ≤ 100000) (hx : x < y) (hy : y ≤ k.l.length)
    (IH : ∀ (j : Kd) (W : World) (x y : Nat), NodeAt (1) W j → 4 ≤ j.c → x ≤ y → y ≤ j.l.length → j.l.length ≤ 100000 → Calls Tryz.prog 110 #[j.v, .int .i64 x, .int .i64 y] W fun e w' => ∃ v i, e = .returned v ∧ Top w' v ((j.l.drop x).take (y - x)) i ∧ Below W.heap.size W w') :
    Calls Tryz.prog 139 #[.pointer (some ⟨b, 0, none⟩), .int .i64 x, .int .i64 y] w fun e w' => ∃ v i, e = .returned v ∧ Top w' v ((k.l.drop x).take (y - x)) i ∧ Below w.heap.size w w' := by
  have e0 := (raw_bcs q.raw).1
  have hfl := q.fl
  have HA := Lib.hid q.kids
  have HL := Lib.hid q.len
  have hn8 := q.most
  have HR := Lib.hid hr
  have HW := Lib.hid hw
  have HI := Lib.hid IH
  have HFL := Lib.hid hfl
  have hyl : y ≤ (fl ks).length := by rw [hfl]; exact hy
  have hzl : (fl ks).length ≤ 100000 := by rw [hfl]; exact hz
  rw [← hfl]
  clear q hr hw IH hfl hz hy
  generalize k.c = n at *
  have t1 := me_l
  have tf := fld_n
  go_enter Tryz.func139, Tryz.ntmps139
  go_wp2_with fail
  go_loopg [7, 8, 9, 10, 21] n (fun k fv bv v at_ i wr => ∃ j : Nat, i = .int .i64 j ∧ j ≤ n ∧ n - j ≤ k ∧ at_ = .int .i64 (sz ks j) ∧ Hid (CI w wr ks x y j fv bv v))
  case atStart => exact ⟨0, rfl, by omega, by omega, rfl, CI.start _ _ _ _⟩
  case round =>
    obtain ⟨j, rfl, h1, h2, rfl, hCI⟩ := hrel
    have hbw := hCI.out.toBelow
    by_cases hlt : j < n
    · have hm : j < ks.length := by rw [HL.out]; exact hlt
      obtain ⟨bA, off, rfl, hbA, hcell⟩ := HA.out (by rw [kvs_length]; omega)
      have eK := hcell j (by rw [kvs_length]; exact hm)
      rw [vth_kvs ks hm] at eK
      clear hcell
      obtain ⟨H1, H2⟩ := old_cells hbw
      have hK := HR.out _ (kth_mem ks hm)
      have hN1 : 1 ≤ (kth ks j).l.length := by
        have h3 := hK.size
        have h4 := hK.cnt.1
        have h5 := p4_pos (1 - 1)
        have h6 := Nat.mul_le_mul h4 h5
        omega
      have es := sz_succ ks hm
      have esl := sz_le ks (j + 1)
      have CC := Lib.hid fun (W : World) (x y : Nat) (hW : Below w.heap.size w W) (h1 : x ≤ y) (h2 : y ≤ (kth ks j).l.length) => HI.out (kth ks j) W x y (hK.below hW) (HW.out _ (kth_mem ks hm)) h1 h2 (by omega)
      obtain ⟨bk, Ak, ck, qk⟩ := hK
      obtain ⟨N, hN⟩ : ∃ N, N = (kth ks j).l.length := ⟨_, rfl⟩
      have CS := Lib.hid fun (W : World) (hW : Below w.heap.size w W) => lsum_n bk (kth ks j).c ck N Ak _ (by rw [hN]; exact sall_n _ qk.ok) W (qk.raw.below hW qk.raw.lt)
      rw [qk.v] at eK CC
      rw [← hN] at es hN1 CC
      have HN := Lib.hid hN
      have HKv := Lib.hid qk.v
      clear qk hN
      generalize sall (kth ks j).l = s at *
      generalize ha' : sz ks (j + 1) = a' at *
      generalize ha : sz ks j = a at *
      have HA' := Lib.hid ha'
      have HAA := Lib.hid ha
      clear ha ha'
      subst es
      unfold lfv at *
      go_wp2_with fail
      refine (CS.out _ hbw).mono ?_
      rintro e w1 ⟨rfl, hb1⟩
      have hCI1 := Lib.hid (hCI.out.below hb1)
      have hb2 := hbw.trans (hb1.mono hbw.size)
      have hq0 : IntKind.i64.wrap ((a : Int) + (N : Int)) = (a : Int) + (N : Int) := IntWalk.i64_in _ (by omega)
      have HP := Lib.hid (show 1 ≤ (kth ks j).l.length by have := HN.out; omega)
      have CC0 : Hid (∀ (W : World) (y : Nat), Below w.heap.size w W → y ≤ N → Calls Tryz.prog 110 #[(lfv bk), .int .i64 0, .int .i64 y] W fun e w' => ∃ v i, e = .returned v ∧ Top w' v (((kth ks j).l.drop 0).take (y - 0)) i ∧ Below W.heap.size W w') := fun W y hW hy => CC.out W 0 y hW (Nat.zero_le _) hy
      by_cases hA1 : a + N ≤ x
      · have hq1 : IntKind.i64.wrap ((x : Int) - (a : Int)) = (x : Int) - (a : Int) := IntWalk.i64_in _ (by omega)
        have hq2 : IntKind.i64.wrap ((y : Int) - (a : Int)) = (y : Int) - (a : Int) := IntWalk.i64_in _ (by omega)
        go_wp2_with fail
        go_roundg (gk - 1)
        case measure => omega
        case rel => exact ⟨j + 1, by go_num, by omega, by omega, by rw [HA'.out]; go_num, hCI1.out.skip hm (.inl (by rw [HA'.out]; omega)) HP.out⟩
      by_cases hA2 : y ≤ a
      · have hq1 : IntKind.i64.wrap ((x : Int) - (a : Int)) = (x : Int) - (a : Int) := IntWalk.i64_in _ (by omega)
        have hq2 : IntKind.i64.wrap ((y : Int) - (a : Int)) = (y : Int) - (a : Int) := IntWalk.i64_in _ (by omega)
        go_wp2_with fail
        go_roundg (gk - 1)
        case measure => omega
        case rel => exact ⟨j + 1, by go_num, by omega, by omega, by rw [HA'.out]; go_num, hCI1.out.skip hm (.inr (by rw [HAA.out]; omega)) HP.out⟩
      by_cases hC : a < x
      · obtain ⟨p, hp⟩ : ∃ p, p = x - a := ⟨_, rfl⟩
        obtain ⟨r, hr⟩ : ∃ r, r = y - a := ⟨_, rfl⟩
        have hq1 : IntKind.i64.wrap ((x : Int) - (a : Int)) = (p : Int) := by rw [IntWalk.i64_in _ (by omega)]; omega
        have hq2 : IntKind.i64.wrap ((y : Int) - (a : Int)) = (r : Int) := by rw [IntWalk.i64_in _ (by omega)]; omega
        have hp0 : 0 < p := by omega
        have hpr : p < r := by omega
        have hpN : p < N := by omega
        have HPP := Lib.hid hp
        have HRR := Lib.hid hr
        clear hp hr
        by_cases hrN : r ≤ N
        · go_wp2_with fail
          refine (CC.out _ p r hb2 (by omega) hrN).mono ?_
          rintro e w2 ⟨fv', i', rfl, hT, hb3⟩
          have HT := Lib.hid hT; clear hT
          go_wp2_with fail
          go_roundg (gk - 1)
          case measure => omega
          case rel => exact ⟨j + 1, by go_num, by omega, by omega, by rw [HA'.out]; go_num, hCI1.out.front hb3 hm (by rw [HAA.out]; exact hC) hx (by rw [HA'.out]; omega) (by rw [HAA.out, ← HPP.out, ← HRR.out, ← HN.out, Nat.min_eq_left hrN]; exact HT.out)⟩
        · go_wp2_with fail
          refine (CC.out _ p N hb2 (by omega) (Nat.le_refl _)).mono ?_
          rintro e w2 ⟨fv', i', rfl, hT, hb3⟩
          have HT := Lib.hid hT; clear hT
          go_wp2_with fail
          go_roundg (gk - 1)
          case measure => omega
          case rel => exact ⟨j + 1, by go_num, by omega, by omega, by rw [HA'.out]; go_num, hCI1.out.front hb3 hm (by rw [HAA.out]; exact hC) hx (by rw [HA'.out]; omega) (by rw [HAA.out, ← HPP.out, ← HRR.out, ← HN.out, Nat.min_eq_right (by omega)]; exact HT.out)⟩
      have hxa := Nat.lt_or_eq_of_le (Nat.le_of_not_lt hC)
      clear hC hA1
      by_cases hB : a + N ≤ y
      · obtain ⟨r, hr⟩ : ∃ r, r = y - a := ⟨_, rfl⟩
        have hq1 : IntKind.i64.wrap ((x : Int) - (a : Int)) = (x : Int) - (a : Int) := IntWalk.i64_in _ (by omega)
        have hq2 : IntKind.i64.wrap ((y : Int) - (a : Int)) = (r : Int) := by rw [IntWalk.i64_in _ (by omega)]; omega
        have hNr := Nat.lt_or_eq_of_le (show N ≤ r by omega)
        clear hr
        have HXA := Lib.hid (show x ≤ a by omega)
        obtain ⟨wf, f, g, m, hf, hg, c1, c2, c3, c4, c5, c6, c7, c8, c9, c10⟩ := hCI1.out
        have hmj : m.length ≤ 8 := by omega
        have HC1 := Lib.hid (show Below w.heap.size w wf ∧ Top wf u7 f hf ∧ (∀ κ ∈ m, κ ∈ ks) ∧ m.length ≤ j ∧ f ++ fl m ++ g = ((fl (ks.take j)).take y).drop x ∧ (sz ks j < y → u8 = .nilIface ∧ g = []) from ⟨c1, c3, c6, c7, c8, c10⟩)
        clear c1 c3 c4 c6 c7 c8 c9 c10 hCI1 hCI
        have HBB := Lib.hid hB
        clear hB hA2
        rcases hxa with hxa | rfl <;> rcases hNr with hNr | rfl
        all_goals
          go_wp2_with (at_builtin; refine wpList_append_node1 rfl (.tmp 56) (.tmp 58) rfl wf.heap.size _ m.length (kvs m) rfl (c5.alloc _) w1.heap.size (lfv bk) rfl (heap_alloc_new w1 _) rfl (by omega) (by have := c2.size; simp; omega) ?_; intro v4 w4 hown4 hg4 hat4)
          have hb4 : Below wf.heap.size wf w4 := (c2.alloc c2.size _).grown hg4 (by have := c2.size; simp; omega) (fun k hk => (c5.lt k hk).1)
          have HO4 := Lib.hid hown4
          clear hown4 hg4 hat4
          go_wp2_with fail
          go_roundg (gk - 1)
          case measure => omega
          case rel => exact ⟨j + 1, by go_num, by omega, by omega, by rw [HA'.out]; go_num, CI.whole HC1.out.1 hb4 HC1.out.2.1 (by rw [HKv.out]; exact HO4.out) HC1.out.2.2.1 HC1.out.2.2.2.1 HC1.out.2.2.2.2.1 HC1.out.2.2.2.2.2 hm (by rw [HAA.out]; exact HXA.out) (by rw [HA'.out]; exact HBB.out) HP.out⟩
      · obtain ⟨r, hr⟩ : ∃ r, r = y - a := ⟨_, rfl⟩
        have hq1 : IntKind.i64.wrap ((x : Int) - (a : Int)) = (x : Int) - (a : Int) := IntWalk.i64_in _ (by omega)
        have hq2 : IntKind.i64.wrap ((y : Int) - (a : Int)) = (r : Int) := by rw [IntWalk.i64_in _ (by omega)]; omega
        have HXA := Lib.hid (show x ≤ a by omega)
        have hr0 : 0 < r := by omega
        have hrN : r < N := by omega
        have HRR := Lib.hid hr
        clear hr
        rcases hxa with hxa | rfl
        all_goals
          go_wp2_with fail
          refine (CC0.out _ r hb2 (by omega)).mono ?_
          rintro e w2 ⟨fv', i', rfl, hT, hb3⟩
          have HT := Lib.hid hT; clear hT
          go_wp2_with fail
          go_roundg (gk - 1)
          case measure => omega
          case rel => exact ⟨j + 1, by go_num, by omega, by omega, by rw [HA'.out]; go_num, hCI1.out.back hb3 hm (by rw [HAA.out]; exact HXA.out) (by rw [HAA.out]; omega) (by rw [HA'.out]; omega) (by rw [HAA.out, ← HRR.out]; exact HT.out)⟩
    · have hj : j = n := by omega
      subst hj
      obtain ⟨wf, f, g, m, hf, hg, c1, c2, c3, c4, c5, c6, c7, c8, c9, c10⟩ := hCI.out
      have e1 : ks.take j = ks := List.take_of_length_le (Nat.le_of_eq HL.out)
      rw [e1, List.drop_take] at c8
      obtain ⟨R, cp, rfl, hV, _, hcap⟩ := vs_of_own c5
      have hlen : f.length + (fl m).length + g.length ≤ 100000 := by
        have e := congrArg List.length c8
        rw [List.length_append, List.length_append, List.length_take, List.length_drop] at e
        omega
      have C1 := Lib.hid (crown_any 0 R m.length cp m wr hV rfl (by omega) hcap (show Row (1) wr m from fun x hx => (HR.out x (c6 x hx)).below hbw) (fun _ x hx => HW.out x (c6 x hx)) (by omega) (fun h1 _ => Nat.le_trans (by omega) (HW.out _ (c6 _ (kth_mem m (by omega))))))
      have HT1 := Lib.hid (c3.below c2)
      have HT2 := Lib.hid c4
      have HE := Lib.hid c8
      clear hCI c1 c2 c3 c4 c5 c6 c7 c8 c9 c10 hV hcap hlt h1
      generalize hfm : fl m = l2 at *
      clear hfm
      generalize m.length = q at *
      go_wp2_with fail
      refine C1.out.mono ?_
      rintro e w2 ⟨v2, i2, rfl, hT2, hb2⟩
      have C2 := Lib.hid (concat_any _ _ _ _ _ _ _ (HT1.out.below hb2) hT2 (by omega))
      clear hT2
      go_wp2_with fail
      refine C2.out.mono ?_
      rintro e w3 ⟨v3, i3, rfl, hT3, hb3⟩
      have a3 := hb2.trans (hb3.mono hb2.size)
      have C3 := Lib.hid (concat_any _ _ _ _ _ _ _ hT3 (HT2.out.below a3) (by rw [List.length_append]; omega))
      rw [HE.out] at C3
      clear hT3
      go_wp2_with fail
      refine C3.out.mono ?_
      rintro e w4 ⟨v4, i4, rfl, hT4, hb4⟩
      have HT4 := Lib.hid hT4; clear hT4
      go_wp2
      go_ret
      exact ⟨v4, i4, rfl, HT4.out, hbw.trans ((a3.trans (hb4.mono a3.size)).mono hbw.size)⟩
set_option maxHeartbeats 8000000 in
set_option maxRecDepth 100000 in
theorem cutBranch_br (h : Nat) (k : Kd) (b : Nat) (A : Option Addr) (c : Nat) (ks : List Kd) (x y : Nat) (w : World) (q : BranchAt w k b A c (h + 2 + 1) ks) (hr : Row (h + 2) w ks) (hw : Wd ks) (hz : k.l.length ≤ 100000) (hx : x < y) (hy : y ≤ k.l.length)
    (IH : ∀ (j : Kd) (W : World) (x y : Nat), NodeAt (h + 2) W j → 4 ≤ j.c → x ≤ y → y ≤ j.l.length → j.l.length ≤ 100000 → Calls Tryz.prog 110 #[j.v, .int .i64 x, .int .i64 y] W fun e w' => ∃ v i, e = .returned v ∧ Top w' v ((j.l.drop x).take (y - x)) i ∧ Below W.heap.size W w') :
    Calls Tryz.prog 139 #[.pointer (some ⟨b, 0, none⟩), .int .i64 x, .int .i64 y] w fun e w' => ∃ v i, e = .returned v ∧ Top w' v ((k.l.drop x).take (y - x)) i ∧ Below w.heap.size w w' := by
  have e0 := (raw_bcs q.raw).1
  have hfl := q.fl
  have HA := Lib.hid q.kids
  have HL := Lib.hid q.len
  have hn8 := q.most
  have HR := Lib.hid hr
  have HW := Lib.hid hw
  have HI := Lib.hid IH
  have HFL := Lib.hid hfl
  have hyl : y ≤ (fl ks).length := by rw [hfl]; exact hy
  have hzl : (fl ks).length ≤ 100000 := by rw [hfl]; exact hz
  rw [← hfl]
  clear q hr hw IH hfl hz hy
  generalize k.c = n at *
  have t1 := me_b
  have tf := fld_n
  go_enter Tryz.func139, Tryz.ntmps139
  go_wp2_with fail
  go_loopg [7, 8, 9, 10, 21] n (fun k fv bv v at_ i wr => ∃ j : Nat, i = .int .i64 j ∧ j ≤ n ∧ n - j ≤ k ∧ at_ = .int .i64 (sz ks j) ∧ Hid (CI w wr ks x y j fv bv v))
  case atStart => exact ⟨0, rfl, by omega, by omega, rfl, CI.start _ _ _ _⟩
  case round =>
    obtain ⟨j, rfl, h1, h2, rfl, hCI⟩ := hrel
    have hbw := hCI.out.toBelow
    by_cases hlt : j < n
    · have hm : j < ks.length := by rw [HL.out]; exact hlt
      obtain ⟨bA, off, rfl, hbA, hcell⟩ := HA.out (by rw [kvs_length]; omega)
      have eK := hcell j (by rw [kvs_length]; exact hm)
      rw [vth_kvs ks hm] at eK
      clear hcell
      obtain ⟨H1, H2⟩ := old_cells hbw
      have hK := HR.out _ (kth_mem ks hm)
      have hN1 : 1 ≤ (kth ks j).l.length := by
        have h3 := hK.size
        have h4 := hK.cnt.1
        have h5 := p4_pos (h + 2 - 1)
        have h6 := Nat.mul_le_mul h4 h5
        omega
      have es := sz_succ ks hm
      have esl := sz_le ks (j + 1)
      have CC := Lib.hid fun (W : World) (x y : Nat) (hW : Below w.heap.size w W) (h1 : x ≤ y) (h2 : y ≤ (kth ks j).l.length) => HI.out (kth ks j) W x y (hK.below hW) (HW.out _ (kth_mem ks hm)) h1 h2 (by omega)
      obtain ⟨bk, Ak, ck, kk, qk, rk⟩ := hK
      obtain ⟨N, hN⟩ : ∃ N, N = (kth ks j).l.length := ⟨_, rfl⟩
      have CS := Lib.hid fun (W : World) (hW : Below w.heap.size w W) => bsum_n bk (kth ks j).c ck (h + 2) N Ak _ (by rw [hN]; exact sall_n _ qk.ok) W (qk.raw.below hW qk.raw.lt)
      rw [qk.v] at eK CC
      rw [← hN] at es hN1 CC
      have HN := Lib.hid hN
      have HKv := Lib.hid qk.v
      clear qk hN rk
      generalize sall (kth ks j).l = s at *
      generalize ha' : sz ks (j + 1) = a' at *
      generalize ha : sz ks j = a at *
      have HA' := Lib.hid ha'
      have HAA := Lib.hid ha
      clear ha ha'
      subst es
      unfold brv at *
      go_wp2_with fail
      refine (CS.out _ hbw).mono ?_
      rintro e w1 ⟨rfl, hb1⟩
      have hCI1 := Lib.hid (hCI.out.below hb1)
      have hb2 := hbw.trans (hb1.mono hbw.size)
      have hq0 : IntKind.i64.wrap ((a : Int) + (N : Int)) = (a : Int) + (N : Int) := IntWalk.i64_in _ (by omega)
      have HP := Lib.hid (show 1 ≤ (kth ks j).l.length by have := HN.out; omega)
      have CC0 : Hid (∀ (W : World) (y : Nat), Below w.heap.size w W → y ≤ N → Calls Tryz.prog 110 #[(brv bk), .int .i64 0, .int .i64 y] W fun e w' => ∃ v i, e = .returned v ∧ Top w' v (((kth ks j).l.drop 0).take (y - 0)) i ∧ Below W.heap.size W w') := fun W y hW hy => CC.out W 0 y hW (Nat.zero_le _) hy
      by_cases hA1 : a + N ≤ x
      · have hq1 : IntKind.i64.wrap ((x : Int) - (a : Int)) = (x : Int) - (a : Int) := IntWalk.i64_in _ (by omega)
        have hq2 : IntKind.i64.wrap ((y : Int) - (a : Int)) = (y : Int) - (a : Int) := IntWalk.i64_in _ (by omega)
        go_wp2_with fail
        go_roundg (gk - 1)
        case measure => omega
        case rel => exact ⟨j + 1, by go_num, by omega, by omega, by rw [HA'.out]; go_num, hCI1.out.skip hm (.inl (by rw [HA'.out]; omega)) HP.out⟩
      by_cases hA2 : y ≤ a
      · have hq1 : IntKind.i64.wrap ((x : Int) - (a : Int)) = (x : Int) - (a : Int) := IntWalk.i64_in _ (by omega)
        have hq2 : IntKind.i64.wrap ((y : Int) - (a : Int)) = (y : Int) - (a : Int) := IntWalk.i64_in _ (by omega)
        go_wp2_with fail
        go_roundg (gk - 1)
        case measure => omega
        case rel => exact ⟨j + 1, by go_num, by omega, by omega, by rw [HA'.out]; go_num, hCI1.out.skip hm (.inr (by rw [HAA.out]; omega)) HP.out⟩
      by_cases hC : a < x
      · obtain ⟨p, hp⟩ : ∃ p, p = x - a := ⟨_, rfl⟩
        obtain ⟨r, hr⟩ : ∃ r, r = y - a := ⟨_, rfl⟩
        have hq1 : IntKind.i64.wrap ((x : Int) - (a : Int)) = (p : Int) := by rw [IntWalk.i64_in _ (by omega)]; omega
        have hq2 : IntKind.i64.wrap ((y : Int) - (a : Int)) = (r : Int) := by rw [IntWalk.i64_in _ (by omega)]; omega
        have hp0 : 0 < p := by omega
        have hpr : p < r := by omega
        have hpN : p < N := by omega
        have HPP := Lib.hid hp
        have HRR := Lib.hid hr
        clear hp hr
        by_cases hrN : r ≤ N
        · go_wp2_with fail
          refine (CC.out _ p r hb2 (by omega) hrN).mono ?_
          rintro e w2 ⟨fv', i', rfl, hT, hb3⟩
          have HT := Lib.hid hT; clear hT
          go_wp2_with fail
          go_roundg (gk - 1)
          case measure => omega
          case rel => exact ⟨j + 1, by go_num, by omega, by omega, by rw [HA'.out]; go_num, hCI1.out.front hb3 hm (by rw [HAA.out]; exact hC) hx (by rw [HA'.out]; omega) (by rw [HAA.out, ← HPP.out, ← HRR.out, ← HN.out, Nat.min_eq_left hrN]; exact HT.out)⟩
        · go_wp2_with fail
          refine (CC.out _ p N hb2 (by omega) (Nat.le_refl _)).mono ?_
          rintro e w2 ⟨fv', i', rfl, hT, hb3⟩
          have HT := Lib.hid hT; clear hT
          go_wp2_with fail
          go_roundg (gk - 1)
          case measure => omega
          case rel => exact ⟨j + 1, by go_num, by omega, by omega, by rw [HA'.out]; go_num, hCI1.out.front hb3 hm (by rw [HAA.out]; exact hC) hx (by rw [HA'.out]; omega) (by rw [HAA.out, ← HPP.out, ← HRR.out, ← HN.out, Nat.min_eq_right (by omega)]; exact HT.out)⟩
      have hxa := Nat.lt_or_eq_of_le (Nat.le_of_not_lt hC)
      clear hC hA1
      by_cases hB : a + N ≤ y
      · obtain ⟨r, hr⟩ : ∃ r, r = y - a := ⟨_, rfl⟩
        have hq1 : IntKind.i64.wrap ((x : Int) - (a : Int)) = (x : Int) - (a : Int) := IntWalk.i64_in _ (by omega)
        have hq2 : IntKind.i64.wrap ((y : Int) - (a : Int)) = (r : Int) := by rw [IntWalk.i64_in _ (by omega)]; omega
        have hNr := Nat.lt_or_eq_of_le (show N ≤ r by omega)
        clear hr
        have HXA := Lib.hid (show x ≤ a by omega)
        obtain ⟨wf, f, g, m, hf, hg, c1, c2, c3, c4, c5, c6, c7, c8, c9, c10⟩ := hCI1.out
        have hmj : m.length ≤ 8 := by omega
        have HC1 := Lib.hid (show Below w.heap.size w wf ∧ Top wf u7 f hf ∧ (∀ κ ∈ m, κ ∈ ks) ∧ m.length ≤ j ∧ f ++ fl m ++ g = ((fl (ks.take j)).take y).drop x ∧ (sz ks j < y → u8 = .nilIface ∧ g = []) from ⟨c1, c3, c6, c7, c8, c10⟩)
        clear c1 c3 c4 c6 c7 c8 c9 c10 hCI1 hCI
        have HBB := Lib.hid hB
        clear hB hA2
        rcases hxa with hxa | rfl <;> rcases hNr with hNr | rfl
        all_goals
          go_wp2_with (at_builtin; refine wpList_append_node1 rfl (.tmp 56) (.tmp 58) rfl wf.heap.size _ m.length (kvs m) rfl (c5.alloc _) w1.heap.size (brv bk) rfl (heap_alloc_new w1 _) rfl (by omega) (by have := c2.size; simp; omega) ?_; intro v4 w4 hown4 hg4 hat4)
          have hb4 : Below wf.heap.size wf w4 := (c2.alloc c2.size _).grown hg4 (by have := c2.size; simp; omega) (fun k hk => (c5.lt k hk).1)
          have HO4 := Lib.hid hown4
          clear hown4 hg4 hat4
          go_wp2_with fail
          go_roundg (gk - 1)
          case measure => omega
          case rel => exact ⟨j + 1, by go_num, by omega, by omega, by rw [HA'.out]; go_num, CI.whole HC1.out.1 hb4 HC1.out.2.1 (by rw [HKv.out]; exact HO4.out) HC1.out.2.2.1 HC1.out.2.2.2.1 HC1.out.2.2.2.2.1 HC1.out.2.2.2.2.2 hm (by rw [HAA.out]; exact HXA.out) (by rw [HA'.out]; exact HBB.out) HP.out⟩
      · obtain ⟨r, hr⟩ : ∃ r, r = y - a := ⟨_, rfl⟩
        have hq1 : IntKind.i64.wrap ((x : Int) - (a : Int)) = (x : Int) - (a : Int) := IntWalk.i64_in _ (by omega)
        have hq2 : IntKind.i64.wrap ((y : Int) - (a : Int)) = (r : Int) := by rw [IntWalk.i64_in _ (by omega)]; omega
        have HXA := Lib.hid (show x ≤ a by omega)
        have hr0 : 0 < r := by omega
        have hrN : r < N := by omega
        have HRR := Lib.hid hr
        clear hr
        rcases hxa with hxa | rfl
        all_goals
          go_wp2_with fail
          refine (CC0.out _ r hb2 (by omega)).mono ?_
          rintro e w2 ⟨fv', i', rfl, hT, hb3⟩
          have HT := Lib.hid hT; clear hT
          go_wp2_with fail
          go_roundg (gk - 1)
          case measure => omega
          case rel => exact ⟨j + 1, by go_num, by omega, by omega, by rw [HA'.out]; go_num, hCI1.out.back hb3 hm (by rw [HAA.out]; exact HXA.out) (by rw [HAA.out]; omega) (by rw [HA'.out]; omega) (by rw [HAA.out, ← HRR.out]; exact HT.out)⟩
    · have hj : j = n := by omega
      subst hj
      obtain ⟨wf, f, g, m, hf, hg, c1, c2, c3, c4, c5, c6, c7, c8, c9, c10⟩ := hCI.out
      have e1 : ks.take j = ks := List.take_of_length_le (Nat.le_of_eq HL.out)
      rw [e1, List.drop_take] at c8
      obtain ⟨R, cp, rfl, hV, _, hcap⟩ := vs_of_own c5
      have hlen : f.length + (fl m).length + g.length ≤ 100000 := by
        have e := congrArg List.length c8
        rw [List.length_append, List.length_append, List.length_take, List.length_drop] at e
        omega
      have C1 := Lib.hid (crown_any (h + 1) R m.length cp m wr hV rfl (by omega) hcap (show Row (h + 2) wr m from fun x hx => (HR.out x (c6 x hx)).below hbw) (fun _ x hx => HW.out x (c6 x hx)) (by omega) (fun h1 _ => Nat.le_trans (by omega) (HW.out _ (c6 _ (kth_mem m (by omega))))))
      have HT1 := Lib.hid (c3.below c2)
      have HT2 := Lib.hid c4
      have HE := Lib.hid c8
      clear hCI c1 c2 c3 c4 c5 c6 c7 c8 c9 c10 hV hcap hlt h1
      generalize hfm : fl m = l2 at *
      clear hfm
      generalize m.length = q at *
      go_wp2_with fail
      refine C1.out.mono ?_
      rintro e w2 ⟨v2, i2, rfl, hT2, hb2⟩
      have C2 := Lib.hid (concat_any _ _ _ _ _ _ _ (HT1.out.below hb2) hT2 (by omega))
      clear hT2
      go_wp2_with fail
      refine C2.out.mono ?_
      rintro e w3 ⟨v3, i3, rfl, hT3, hb3⟩
      have a3 := hb2.trans (hb3.mono hb2.size)
      have C3 := Lib.hid (concat_any _ _ _ _ _ _ _ hT3 (HT2.out.below a3) (by rw [List.length_append]; omega))
      rw [HE.out] at C3
      clear hT3
      go_wp2_with fail
      refine C3.out.mono ?_
      rintro e w4 ⟨v4, i4, rfl, hT4, hb4⟩
      have HT4 := Lib.hid hT4; clear hT4
      go_wp2
      go_ret
      exact ⟨v4, i4, rfl, HT4.out, hbw.trans ((a3.trans (hb4.mono a3.size)).mono hbw.size)⟩
set_option maxHeartbeats 4000000 in
set_option maxRecDepth 100000 in
theorem cut_br (h : Nat) (k : Kd) (x y : Nat) (w : World) (hk : NodeAt (h + 2) w k) (hx : x < y) (hne : ¬ (x = 0 ∧ y = k.l.length))
    (IH : ∀ (b : Nat) (A : Option Addr) (c : Nat) (ks : List Kd) (W : World), BranchAt W k b A c (h + 2) ks → Row (h + 1) W ks → Wd ks → Calls Tryz.prog 139 #[.pointer (some ⟨b, 0, none⟩), .int .i64 x, .int .i64 y] W fun e w' => ∃ v i, e = .returned v ∧ Top w' v ((k.l.drop x).take (y - x)) i ∧ Below W.heap.size W w') :
    Calls Tryz.prog 110 #[k.v, .int .i64 x, .int .i64 y] w fun e w' => ∃ v i, e = .returned v ∧ Top w' v ((k.l.drop x).take (y - x)) i ∧ Below w.heap.size w w' := by
  obtain ⟨b, A, c, ks, q, r⟩ := hk
  have t1 := me_b
  have t2 := ta_bl
  have t3 := tp_b
  have tf := fld_n
  obtain ⟨N, hN⟩ : ∃ N, N = k.l.length := ⟨_, rfl⟩
  have C1 := Lib.hid (bsum_n b k.c c (h + 2) N A _ (by rw [hN]; exact sall_n _ q.ok) w q.raw)
  have CL := Lib.hid fun (W : World) (hW : Below w.heap.size w W) => IH b A c ks W (q.below hW) (fun x hx => (r x hx).1.below hW) (fun x hx => (r x hx).2)
  have hxy : ((x : Int) == (y : Int)) = false := by simp; omega
  have hyN : x = 0 → ((y : Int) == (N : Int)) = false := fun h => by simp; omega
  rw [q.v]
  clear q r hN hne IH
  generalize (k.l.drop x).take (y - x) = l at *
  by_cases hx0 : x = 0
  · subst hx0
    have hyN := hyN rfl
    have i0 : ((0 : Int) == (y : Int)) = false := hxy
    unfold brv at *
    have CL0 : Hid (∀ W : World, Below w.heap.size w W → Calls Tryz.prog 139 #[.pointer (some ⟨b, 0, none⟩), .int .i64 0, .int .i64 y] W fun e w' => ∃ v i, e = .returned v ∧ Top w' v l i ∧ Below W.heap.size W w') := CL
    clear CL
    go_enter Tryz.func110, Tryz.ntmps110
    go_wp2_with fail
    refine C1.out.mono ?_
    rintro e w1 ⟨rfl, hb1⟩
    go_wp2_with fail
    refine (CL0.out _ hb1).mono ?_
    rintro e w2 ⟨v2, i2, rfl, hT2, hb2⟩
    have HT := Lib.hid hT2; clear hT2
    go_wp2
    go_ret
    exact ⟨_, _, rfl, HT.out, hb1.trans (hb2.mono hb1.size)⟩
  · have i0 : ((x : Int) == 0) = false := by simp; omega
    clear hyN
    unfold brv at *
    go_enter Tryz.func110, Tryz.ntmps110
    go_wp2_with fail
    refine (CL.out _ (Below.refl _ _)).mono ?_
    rintro e w2 ⟨v2, i2, rfl, hT2, hb2⟩
    have HT := Lib.hid hT2; clear hT2
    go_wp2
    go_ret
    exact ⟨_, _, rfl, HT.out, hb2⟩
theorem cut_any : ∀ (h : Nat) (k : Kd) (w : World) (x y : Nat), NodeAt h w k → (2 ≤ h → 2 ≤ k.c) → x ≤ y → y ≤ k.l.length → k.l.length ≤ 100000 →
    Calls Tryz.prog 110 #[k.v, .int .i64 x, .int .i64 y] w fun e w' => ∃ v i, e = .returned v ∧ Top w' v ((k.l.drop x).take (y - x)) i ∧ Below w.heap.size w w' := by
  intro h
  induction h with
  | zero => intro k w x y hk; exact hk.elim
  | succ h ih =>
    intro k w x y hk hc hx hy hz
    rcases Nat.lt_or_eq_of_le hx with hlt | rfl
    · by_cases hne : x = 0 ∧ y = k.l.length
      · obtain ⟨rfl, rfl⟩ := hne
        have e1 : (k.l.drop 0).take (k.l.length - 0) = k.l := by simp
        rw [e1]
        have key : Calls Tryz.prog 110 #[k.v, .int .i64 0, .int .i64 k.l.length] w fun e w' => e = .returned k.v ∧ Below w.heap.size w w' := by
          match h, hk with
          | 0, hk => exact cut_all_leaf k w _ rfl hlt hk
          | h + 1, hk => exact cut_all_br h k w _ rfl hlt hk
        refine key.mono ?_
        rintro e w' ⟨rfl, hb⟩
        exact ⟨_, h + 1, rfl, .inr ⟨k.c, hk.below hb, hc⟩, hb⟩
      · match h, hk, ih with
        | 0, hk, _ =>
          refine (cut_leaf k x y w hk hlt hy hne).mono ?_
          rintro e w' ⟨v, rfl, hN, hb⟩
          exact ⟨v, 1, rfl, .inr ⟨_, hN, fun h => absurd h (by omega)⟩, hb⟩
        | 1, hk, ih =>
          exact cut_br 0 k x y w hk hlt hne (fun b A c ks W q hr hw => cutBranch_leaf k b A c ks x y W q hr hw hz hlt hy (fun j W x y h1 h2 h3 h4 h5 => ih j W x y h1 (fun h => absurd h (by omega)) h3 h4 h5))
        | h + 2, hk, ih =>
          exact cut_br (h + 1) k x y w hk hlt hne (fun b A c ks W q hr hw => cutBranch_br h k b A c ks x y W q hr hw hz hlt hy (fun j W x y h1 h2 h3 h4 h5 => ih j W x y h1 (fun _ => by omega) h3 h4 h5))
    · refine (cut_none k.v x w).mono ?_
      rintro e w' ⟨rfl, rfl⟩
      exact ⟨_, 0, rfl, .inl ⟨rfl, rfl, by rw [Nat.sub_self]; rfl⟩, Below.refl _ _⟩
end Go.Proofs.YtpnjokhhbjpciaaGreatDoor
