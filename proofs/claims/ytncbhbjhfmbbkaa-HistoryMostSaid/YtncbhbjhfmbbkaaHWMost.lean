/- The walk of the law on how many steps can be undone. -/
import Derived.Test.YtncbhbjhfmbbkaaHsF
import Derived.Test.YtncbhbjhfmbbkaaOpens
namespace Go.Proofs.Ytncbhbjhfmbbkaa
open Go.RowKit
set_option linter.unusedVariables false
/-- The i-th step. -/
def mkS (i : Nat) : S2 := ⟨[⟨(i : Int), (i : Int), ⟨#[]⟩⟩], []⟩
/-- What there is behind k pushes. -/
def hps (k : Nat) : List S2 := ((List.range k).map mkS).drop (k - 100)
theorem hps_len (k : Nat) : (hps k).length = min k 100 := by unfold hps; rw [List.length_drop, List.length_map, List.length_range]; omega
theorem hps_step (k : Nat) : hpush (hps k) (mkS k) = hps (k + 1) := by
  unfold hpush
  rw [hps_len]
  have e : hps k ++ [mkS k] = ((List.range (k + 1)).map mkS).drop (k - 100) := by
    unfold hps
    rw [List.range_succ, List.map_append, List.drop_append_of_le_length (by rw [List.length_map, List.length_range]; omega)]
    rfl
  split
  · rw [e]
    unfold hps
    rw [show k - 100 = k + 1 - 100 by omega]
  · rw [e, List.drop_drop]
    unfold hps
    rw [show k - 100 + 1 = k + 1 - 100 by omega]
theorem hps_top {n j : Nat} (h : j < min n 100) : (hps n).take (min n 100 - j) = (hps n).take (min n 100 - (j + 1)) ++ [mkS (n - 1 - j)] := by
  have hl := hps_len n
  have hi : min n 100 - (j + 1) < (hps n).length := by omega
  rw [show min n 100 - j = min n 100 - (j + 1) + 1 by omega, List.take_succ_eq_append_getElem hi]
  congr 2
  unfold hps at hi ⊢
  rw [List.getElem_drop, List.getElem_map, List.getElem_range]
  congr 1
  omega
theorem hPush_b {B hb : Nat} {W W0 : World} {d u : List S2} (h : HAt B W hb d u) (hB : Below B W0 W) (hBw : B ≤ W.heap.size) (hd : d.length ≤ 100) (x y : Int) :
    Calls Try.prog 32 #[.pointer (some ⟨hb, 0, none⟩), .agg #[.slice (some ⟨W.heap.size, 0, none⟩) 1 1, .slice none 0 0]] (W.alloc (.cells #[.int .i64 x, .int .i64 y, .string ⟨#[]⟩] 81)) fun e w' => e = .returned (.int .i64 0) ∧ HAt B w' hb (hpush d ⟨[⟨x, y, ⟨#[]⟩⟩], []⟩) [] ∧ Below B W0 w' := by
  have hbl : Below W.heap.size W (W.alloc (.cells #[.int .i64 x, .int .i64 y, .string ⟨#[]⟩] 81)) := (Below.refl _ _).alloc (Nat.le_refl _) _
  have r1 : RawAt 81 (W.alloc (.cells #[.int .i64 x, .int .i64 y, .string ⟨#[]⟩] 81)) W.heap.size #[.int .i64 x, .int .i64 y, .string ⟨#[]⟩] := heap_alloc_new W _
  have hz := hbl.size
  refine (hPush_any (HAt.below h hbl) (by omega) hd _ _ 1 1 0 0 ⟨[⟨x, y, ⟨#[]⟩⟩], []⟩ (eds_one r1) rfl (by omega) (fun h => absurd h (by simp)) rfl (by omega)).mono ?_
  rintro e w' ⟨rfl, h1, _, h3⟩
  exact ⟨rfl, h1, (hB.trans (hbl.mono hBw)).trans h3⟩
set_option maxHeartbeats 4000000 in
set_option maxRecDepth 100000 in
theorem historyMost_walk (a : Int) (w : World) (_wf : (Lit.int .i64 a).wf = true) : Calls Try.prog 9 #[.int .i64 a] w fun e w' => e = .returned (.bool true) ∧ Below w.heap.size w w' := by
  have CN := Lib.hid (hNew_any w)
  have CA := Lib.hid fun W => hAgain_any W
  clear _wf
  by_cases g1 : a < 0
  · skip
    have k1 : decide (a < 0) = true := decide_eq_true g1
    go_enter Try.func9, Try.ntmps9
    go_wp2_with fail
    with_reducible refine (CN.out).mono ?_
    rintro e1 w1 ⟨rfl, h1, b1⟩
    clear h1
    go_wp2_with fail
    with_reducible refine (CA.out _).mono ?_
    rintro e2 w2 ⟨rfl, h2⟩
    have q := b1.trans (h2.mono b1.size)
    go_wp2
    go_ret
    exact ⟨rfl, q⟩
  · by_cases g2 : 260 < a
    · skip
      have k1 : decide (a < 0) = false := decide_eq_false g1
      have k2 : decide (260 < a) = true := decide_eq_true g2
      go_enter Try.func9, Try.ntmps9
      go_wp2_with fail
      with_reducible refine (CN.out).mono ?_
      rintro e1 w1 ⟨rfl, h1, b1⟩
      clear h1
      go_wp2_with fail
      with_reducible refine (CA.out _).mono ?_
      rintro e2 w2 ⟨rfl, h2⟩
      have q := b1.trans (h2.mono b1.size)
      go_wp2
      go_ret
      exact ⟨rfl, q⟩
    · obtain ⟨n, rfl⟩ : ∃ n : Nat, a = n := ⟨a.toNat, by omega⟩
      have k1 : decide ((n : Int) < 0) = false := decide_eq_false g1
      have k2 : decide ((260 : Int) < (n : Int)) = false := decide_eq_false g2
      have hn : n ≤ 260 := by omega
      clear g1 g2
      by_cases g3 : 100 < n
      · have k3 : decide (100 < n) = true := decide_eq_true g3
        have k4 : decide ((100 : Int) < (n : Int)) = true := decide_eq_true (by omega)
        go_enter Try.func9, Try.ntmps9
        go_wp2_with fail
        with_reducible refine (CN.out).mono ?_
        rintro e1 w1 ⟨rfl, h1, b1⟩
        have HH := Lib.hid h1
        clear h1 CN
        go_wp2_with fail
        go_loopg [4] n (fun g i wr => ∃ k : Nat, i = .int .i64 k ∧ k ≤ n ∧ n - k ≤ g ∧ Below w.heap.size w wr ∧ Hid (HAt w.heap.size wr w.heap.size (hps k) []))
        case atStart => exact ⟨0, rfl, by omega, by omega, b1, HH⟩
        case round =>
          obtain ⟨k, rfl, h1, h2, hb, hH⟩ := hrel
          by_cases hlt : k < n
          · have PP := Lib.hid (hPush_b hH.out hb hb.size (by rw [hps_len]; omega) k k)
            have hst := Lib.hid (hps_step k)
            clear hb hH HH b1
            have i1 : (k : Int) < n := by omega
            go_wp2_with fail
            with_reducible refine (PP.out).mono ?_
            rintro e3 w3 ⟨rfl, h3, b3⟩
            have HH3 := Lib.hid h3
            clear h3
            go_wp2
            go_roundg (gk - 1)
            case measure => omega
            case rel => exact ⟨k + 1, by go_num, by omega, by omega, b3, by rw [← hst.out]; exact HH3⟩
          · obtain rfl : k = n := by omega
            have HB := Lib.hid hb
            have hl := hps_len k
            have ht : (hps k).take 100 = hps k := List.take_of_length_le (by omega)
            have HH0 := Lib.hid (show HAt w.heap.size wr w.heap.size ((hps k).take 100) [] by rw [ht]; exact hH.out)
            clear HH b1 hb hH hl ht
            go_wp2_with fail
            go_loopg [6] 100 (fun g i wr => ∃ (j : Nat) (us : List S2), i = .int .i64 j ∧ j ≤ 100 ∧ 100 - j ≤ g ∧ us.length = j ∧ Hid (Below w.heap.size w wr) ∧ Hid (HAt w.heap.size wr w.heap.size ((hps k).take (100 - j)) us))
            case atStart => exact ⟨0, [], rfl, by omega, by omega, rfl, HB, HH0⟩
            case round =>
              obtain ⟨j, us, rfl, h3, h4, h5, hb, hH⟩ := hrel
              by_cases hlt2 : j < 100
              · have htop := hps_top (n := k) (j := j) (by omega)
                rw [show min k 100 = 100 by omega] at htop
                have hH2 := hH.out
                rw [htop] at hH2
                have hl1 : ((hps k).take (100 - (j + 1))).length ≤ 100 := by rw [List.length_take, hps_len]; omega
                have PU := Lib.hid (hUndo_any hH2 hb.out.size hl1 (by omega) (by simp [mkS]))
                have hBB := Lib.hid hb.out
                clear hb hH hH2 htop HB HH0
                have i1 : (j : Int) < 100 := by omega
                have n1 : IntKind.i64.wrap ((k : Int) - 1) = (k : Int) - 1 := IntWalk.i64_in _ (by omega)
                have n2 : IntKind.i64.wrap ((k : Int) - 1 - (j : Int)) = (k : Int) - 1 - (j : Int) := IntWalk.i64_in _ (by omega)
                go_wp2_with fail
                with_reducible refine (PU.out).mono ?_
                rintro e3 w3 ⟨v, rfl, o3, h3', t3, b3⟩
                obtain ⟨g3, c3, rfl⟩ := own_slice o3 (by simp [mkS])
                have kc := own_c0 (e := ⟨((k - 1 - j : Nat) : Int), ((k - 1 - j : Nat) : Int), ⟨#[]⟩⟩) o3
                have ki : ((k - 1 - j : Nat) : Int) = (k : Int) - 1 - (j : Int) := by omega
                simp only at kc
                rw [ki] at kc
                have HH3 := Lib.hid h3'
                have HB3 := Lib.hid (hBB.out.trans b3)
                clear h3' o3 t3 b3 ki
                have klen : (mkS (k - 1 - j)).b.length = 1 := rfl
                rw [klen]
                clear klen
                go_wp2
                go_roundg (gk - 1)
                case measure => omega
                case rel => exact ⟨j + 1, _, by go_num, by omega, by omega, by rw [List.length_append, h5]; rfl, HB3, HH3⟩
              · have hj : j = 100 := by omega
                subst hj
                have hz : (hps k).take (100 - 100) = [] := by rw [Nat.sub_self]; rfl
                have hH2 := hH.out
                rw [hz] at hH2
                have PU := Lib.hid (hUndo_none hH2)
                have PS := Lib.hid fun (W : World) (hW : Below wr.heap.size wr W) => hSizes_any (HAt.below hH2 hW)
                rw [h5] at PS
                clear hH hH2 HH0 HB hz
                go_wp2_with fail
                with_reducible refine (PU.out).mono ?_
                rintro e3 w3 ⟨v, rfl, _, b3⟩
                go_wp2_with fail
                with_reducible refine (PS.out _ b3).mono ?_
                rintro e4 w4 ⟨rfl, b4⟩
                have q4 := b3.trans (b4.mono b3.size)
                go_wp2_with fail
                with_reducible refine (CA.out _).mono ?_
                rintro e5 w5 ⟨rfl, b5⟩
                have q5 := Lib.hid (hb.out.trans ((q4.trans (b5.mono q4.size)).mono hb.out.size))
                go_wp2
                go_ret
                exact ⟨rfl, q5.out⟩
      · have k3 : decide (100 < n) = false := decide_eq_false g3
        have k4 : decide ((100 : Int) < (n : Int)) = false := decide_eq_false (by omega)
        go_enter Try.func9, Try.ntmps9
        go_wp2_with fail
        with_reducible refine (CN.out).mono ?_
        rintro e1 w1 ⟨rfl, h1, b1⟩
        have HH := Lib.hid h1
        clear h1 CN
        go_wp2_with fail
        go_loopg [4] n (fun g i wr => ∃ k : Nat, i = .int .i64 k ∧ k ≤ n ∧ n - k ≤ g ∧ Below w.heap.size w wr ∧ Hid (HAt w.heap.size wr w.heap.size (hps k) []))
        case atStart => exact ⟨0, rfl, by omega, by omega, b1, HH⟩
        case round =>
          obtain ⟨k, rfl, h1, h2, hb, hH⟩ := hrel
          by_cases hlt : k < n
          · have PP := Lib.hid (hPush_b hH.out hb hb.size (by rw [hps_len]; omega) k k)
            have hst := Lib.hid (hps_step k)
            clear hb hH HH b1
            have i1 : (k : Int) < n := by omega
            go_wp2_with fail
            with_reducible refine (PP.out).mono ?_
            rintro e3 w3 ⟨rfl, h3, b3⟩
            have HH3 := Lib.hid h3
            clear h3
            go_wp2
            go_roundg (gk - 1)
            case measure => omega
            case rel => exact ⟨k + 1, by go_num, by omega, by omega, b3, by rw [← hst.out]; exact HH3⟩
          · obtain rfl : k = n := by omega
            have HB := Lib.hid hb
            have hl := hps_len k
            have ht : (hps k).take k = hps k := List.take_of_length_le (by omega)
            have HH0 := Lib.hid (show HAt w.heap.size wr w.heap.size ((hps k).take k) [] by rw [ht]; exact hH.out)
            clear HH b1 hb hH hl ht
            go_wp2_with fail
            go_loopg [6] k (fun g i wr => ∃ (j : Nat) (us : List S2), i = .int .i64 j ∧ j ≤ k ∧ k - j ≤ g ∧ us.length = j ∧ Hid (Below w.heap.size w wr) ∧ Hid (HAt w.heap.size wr w.heap.size ((hps k).take (k - j)) us))
            case atStart => exact ⟨0, [], rfl, by omega, by omega, rfl, HB, HH0⟩
            case round =>
              obtain ⟨j, us, rfl, h3, h4, h5, hb, hH⟩ := hrel
              by_cases hlt2 : j < k
              · have htop := hps_top (n := k) (j := j) (by omega)
                rw [show min k 100 = k by omega] at htop
                have hH2 := hH.out
                rw [htop] at hH2
                have hl1 : ((hps k).take (k - (j + 1))).length ≤ 100 := by rw [List.length_take, hps_len]; omega
                have PU := Lib.hid (hUndo_any hH2 hb.out.size hl1 (by omega) (by simp [mkS]))
                have hBB := Lib.hid hb.out
                clear hb hH hH2 htop HB HH0
                have i1 : (j : Int) < k := by omega
                have n1 : IntKind.i64.wrap ((k : Int) - 1) = (k : Int) - 1 := IntWalk.i64_in _ (by omega)
                have n2 : IntKind.i64.wrap ((k : Int) - 1 - (j : Int)) = (k : Int) - 1 - (j : Int) := IntWalk.i64_in _ (by omega)
                go_wp2_with fail
                with_reducible refine (PU.out).mono ?_
                rintro e3 w3 ⟨v, rfl, o3, h3', t3, b3⟩
                obtain ⟨g3, c3, rfl⟩ := own_slice o3 (by simp [mkS])
                have kc := own_c0 (e := ⟨((k - 1 - j : Nat) : Int), ((k - 1 - j : Nat) : Int), ⟨#[]⟩⟩) o3
                have ki : ((k - 1 - j : Nat) : Int) = (k : Int) - 1 - (j : Int) := by omega
                simp only at kc
                rw [ki] at kc
                have HH3 := Lib.hid h3'
                have HB3 := Lib.hid (hBB.out.trans b3)
                clear h3' o3 t3 b3 ki
                have klen : (mkS (k - 1 - j)).b.length = 1 := rfl
                rw [klen]
                clear klen
                go_wp2
                go_roundg (gk - 1)
                case measure => omega
                case rel => exact ⟨j + 1, _, by go_num, by omega, by omega, by rw [List.length_append, h5]; rfl, HB3, HH3⟩
              · obtain rfl : k = j := by omega
                have hz : (hps k).take (k - k) = [] := by rw [Nat.sub_self]; rfl
                have hH2 := hH.out
                rw [hz] at hH2
                have PU := Lib.hid (hUndo_none hH2)
                have PS := Lib.hid fun (W : World) (hW : Below wr.heap.size wr W) => hSizes_any (HAt.below hH2 hW)
                rw [h5] at PS
                clear hH hH2 HH0 HB hz
                go_wp2_with fail
                with_reducible refine (PU.out).mono ?_
                rintro e3 w3 ⟨v, rfl, _, b3⟩
                go_wp2_with fail
                with_reducible refine (PS.out _ b3).mono ?_
                rintro e4 w4 ⟨rfl, b4⟩
                have q4 := b3.trans (b4.mono b3.size)
                go_wp2_with fail
                with_reducible refine (CA.out _).mono ?_
                rintro e5 w5 ⟨rfl, b5⟩
                have q5 := Lib.hid (hb.out.trans ((q4.trans (b5.mono q4.size)).mono hb.out.size))
                go_wp2
                go_ret
                exact ⟨rfl, q5.out⟩
end Go.Proofs.Ytncbhbjhfmbbkaa
