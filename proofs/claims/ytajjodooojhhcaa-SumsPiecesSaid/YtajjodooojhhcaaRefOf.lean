/- The sum of a text as the document's own answer has it: the contract of bodkinref03.Of. -/
import Derived.Test.YtajjodooojhhcaaLines
import Derived.Test.YtajjodooojhhcaaRefEnc
import Derived.Deep.RegionHeld3
namespace Go.Proofs.Ytajjodooojhhcaa
open Go.RowKit
theorem raw_cells {t : TypeId} {w : World} {b : Nat} {q : Q} (h : RawAt t w b (qcs q)) : w.cell? ⟨b, 0, none⟩ = some (.int .i64 q.by_) ∧ w.cell? ⟨b, 1, none⟩ = some (.int .i64 q.ru) ∧ w.cell? ⟨b, 2, none⟩ = some (.int .i64 q.br) ∧ w.cell? ⟨b, 3, none⟩ = some (.int .i64 q.fi) ∧ w.cell? ⟨b, 4, none⟩ = some (.int .i64 q.la) ∧ w.cell? ⟨b, 5, none⟩ = some (.int .i64 q.lo) ∧ w.cell? ⟨b, 6, none⟩ = some (.int .i64 q.rw) :=
  ⟨RawAt.cell h 0, RawAt.cell h 1, RawAt.cell h 2, RawAt.cell h 3, RawAt.cell h 4, RawAt.cell h 5, RawAt.cell h 6⟩
theorem nth_get (l : List Int) {j : Nat} (h : j < l.length) : nth l j = l[j] := by simp [nth, List.getD, h]
/-- What is known behind the sum's first laying: nothing of before has turned; it lies in a block of its own. -/
structure RPre (w1 W : World) (b : Nat) (cs : Array Value) : Prop where
  below : Below w1.heap.size w1 W
  at_ : RawAt 27 W b cs
  le : w1.heap.size ≤ b
set_option maxHeartbeats 4000000 in
set_option maxRecDepth 100000 in
theorem rof_any (A : Option Addr) (n c : Nat) (l : List Int) (w : World) (hA : IntsAt .i32 w A l) (hl : l.length = n) (hn : n ≤ 1000000) :
    Calls Try.prog 14 #[.slice A n c] w fun e w' => e = .returned (qv (qof l)) ∧ Below w.heap.size w w' := by
  have HA := Lib.hid hA; clear hA
  have HL := Lib.hid hl; clear hl
  have hlen := lns_len l
  have htold := told l
  have hby := qof_by l
  have hok := qof_ok l
  have henc := encAll_len l
  go_enter Try.func14, Try.ntmps14
  go_wp2_with fail
  refine (lines_any A n c l _ ?_ HL.out hn).mono ?_
  · exact HA.out.below ((Below.refl _ _).alloc (Nat.le_refl _) _)
  rintro e w1 ⟨g, cap, rfl, hb1, hI⟩
  obtain ⟨s, hs⟩ : ∃ s, s = lns l := ⟨_, rfl⟩
  unfold lall at hI
  rw [← hs] at hlen htold hI ⊢
  clear hs
  obtain ⟨L, x⟩ := s
  simp only at hlen hI ⊢
  have hlm : (L ++ [x]).length = L.length + 1 := by simp
  have hI0 := hI (by omega)
  obtain ⟨g', off', e', hgl, hcs⟩ := hI0
  obtain ⟨rfl, rfl⟩ : g = g' ∧ 0 = off' := by
    injection e' with e'
    injection e' with e1 e2
    exact ⟨e1, e2⟩
  clear e' hI
  have c0 := hcs 0 (by omega)
  have cm := hcs L.length (by omega)
  rw [Nat.zero_add] at c0 cm
  rw [show nth (L ++ [x]) L.length = x from by simp [nth]] at cm
  have HC := Lib.hid hcs; clear hcs
  have HT := Lib.hid htold; clear htold
  have HBY := Lib.hid hby; clear hby
  have HOK := Lib.hid hok; clear hok
  have hm : L.length ≤ 1000000 := by have := HL.out; have := hlen.1; omega
  have he : (encAll l).length ≤ 4000000 := by have := HL.out; omega
  have hx0 : 0 ≤ x := hlen.2.1
  have hx1 : x ≤ 1000000 := by have := HL.out; omega
  clear hlen henc hlm
  have hbw : Below w.heap.size w w1 := ((Below.refl _ _).alloc (Nat.le_refl _) _).trans (hb1.mono (by simp))
  have hr0 : RawAt 27 w1 w.heap.size (qcs q0) := RawAt.below (heap_alloc_new w _) hb1 (by simp)
  have HR := Lib.hid hr0; clear hr0 hb1
  have E1 := Lib.hid fun (W : World) (hW : IntsAt .i32 W A l) => rencode_any A n c l W hW HL.out (by omega)
  have hfi : (qof l).fi = nth (L ++ [x]) 0 := by rw [HT.out.fi]; cases L <;> rfl
  have HFI := Lib.hid hfi; clear hfi
  generalize nth (L ++ [x]) 0 = fi at *
  have K0 := Lib.hid fun o => ((((Below.refl w1.heap.size w1).alloc (Nat.le_refl _) o).drew).cell (p := ⟨g, 0, none⟩) hgl).trans c0
  have KM := Lib.hid fun o => ((((Below.refl w1.heap.size w1).alloc (Nat.le_refl _) o).drew).cell (p := ⟨g, L.length, none⟩) hgl).trans cm
  have HZ := Lib.hid fun o => (((Below.refl w1.heap.size w1).alloc (Nat.le_refl _) o).drew).size
  have hne : g ≠ w1.heap.size := by omega
  have hne' : w1.heap.size ≠ g := by omega
  have NZ := Lib.hid (show RawAt 27 ((w1.alloc (.cells (qcs q0) 27)).drew) w1.heap.size (qcs q0) from heap_alloc_new w1 _)
  have hq1 : IntKind.i64.wrap ((L.length : Int) + 1 - 1) = (L.length : Int) := by rw [show (L.length : Int) + 1 - 1 = (L.length : Int) from by omega]; exact IntWalk.i64_in _ (by omega)
  have hq2 : IntKind.i64.wrap (((L.length + 1 : Nat) : Int) - 1) = (L.length : Int) := by rw [show ((L.length + 1 : Nat) : Int) - 1 = (L.length : Int) from by omega]; exact IntWalk.i64_in _ (by omega)
  have hq6 : IntKind.i64.wrap (L.length : Int) = (L.length : Int) := IntWalk.i64_in _ (by omega)
  have hq7 : (L.length : Int) < (L.length : Int) + 1 := by omega
  have hq3 : (0 : Int) ≤ (L.length : Int) := by omega
  have hq4 : (L.length : Int) < ((L.length + 1 : Nat) : Int) := by omega
  have hq5 : (0 : Int) < ((L.length + 1 : Nat) : Int) := by omega
  go_wp2_with fail
  go_region_held3 (fun W => W.cell? ⟨g, 0, none⟩ = some (.int .i64 fi) ∧ W.cell? ⟨g, L.length, none⟩ = some (.int .i64 x)) (first | (with_reducible exact ⟨c0', cm'⟩) | go_keep)
    (first
      | (go_at_call 30; refine (E1.out _ (HA.out.below hbw.drew)).mono ?_; rintro e w2 ⟨rfl, hb2⟩; have c0' := (hb2.cell (p := ⟨g, 0, none⟩) hgl).trans c0; have cm' := (hb2.cell (p := ⟨g, L.length, none⟩) hgl).trans cm)
      | (go_at_call 30; refine (E1.out _ (HA.out.below (hbw.alloc hbw.size _).drew)).mono ?_; rintro e w2 ⟨rfl, hb2⟩; have c0' := (hb2.cell (p := ⟨g, 0, none⟩) (Nat.lt_of_lt_of_le hgl (HZ.out _))).trans (K0.out _); have cm' := (hb2.cell (p := ⟨g, L.length, none⟩) (Nat.lt_of_lt_of_le hgl (HZ.out _))).trans (KM.out _); have hzz : RawAt 27 w2 w1.heap.size (qcs q0) := RawAt.below NZ.out hb2 (by simp); obtain ⟨z0, z1, z2, z3, z4, z5, z6⟩ := raw_cells hzz; have y0 := RawAt.free hzz 0; have y1 := RawAt.free hzz 1; have y2 := RawAt.free hzz 2; have y3 := RawAt.free hzz 3; have y4 := RawAt.free hzz 4; have y5 := RawAt.free hzz 5; have y6 := RawAt.free hzz 6))
  rename_i hh; clear hh
  have hb3 : Below w1.heap.size w1 w2 := ((Below.refl _ _).drew).trans hb2
  have pre : RPre w1 (w2.alloc (.cells #[.int .i64 ((encAll l).length : Int), .int .i64 n, .int .i64 L.length, .int .i64 fi, .int .i64 x, .int .i64 0, .int .i64 0] 27)) w2.heap.size #[.int .i64 ((encAll l).length : Int), .int .i64 n, .int .i64 L.length, .int .i64 fi, .int .i64 x, .int .i64 0, .int .i64 0] := ⟨hb3.alloc hb3.size _, heap_alloc_new w2 _, hb3.size⟩
  clear hb3 hb2 c0' cm'
  generalize (w2.alloc (.cells #[.int .i64 ((encAll l).length : Int), .int .i64 n, .int .i64 L.length, .int .i64 fi, .int .i64 x, .int .i64 0, .int .i64 0] 27)) = W at *
  generalize w2.heap.size = b at *
  have HP := Lib.hid pre; clear pre
  rotate_left
  rename_i hh; clear hh
  have hb3 : Below w1.heap.size w1 w2 := (((Below.refl _ _).alloc (Nat.le_refl _) _).drew).trans (hb2.mono (by simp))
  have pre : RPre w1 (((((((w2.setCell ⟨w1.heap.size, 0, none⟩ (.int .i64 ((encAll l).length : Int))).setCell ⟨w1.heap.size, 1, none⟩ (.int .i64 n)).setCell ⟨w1.heap.size, 2, none⟩ (.int .i64 L.length)).setCell ⟨w1.heap.size, 3, none⟩ (.int .i64 fi)).setCell ⟨w1.heap.size, 4, none⟩ (.int .i64 x)).setCell ⟨w1.heap.size, 5, none⟩ (.int .i64 0)).setCell ⟨w1.heap.size, 6, none⟩ (.int .i64 0)) w1.heap.size #[.int .i64 ((encAll l).length : Int), .int .i64 n, .int .i64 L.length, .int .i64 fi, .int .i64 x, .int .i64 0, .int .i64 0] := ⟨(((((((hb3.setCell (p := ⟨w1.heap.size, _, none⟩) (Nat.le_refl _) _).setCell (p := ⟨w1.heap.size, _, none⟩) (Nat.le_refl _) _).setCell (p := ⟨w1.heap.size, _, none⟩) (Nat.le_refl _) _).setCell (p := ⟨w1.heap.size, _, none⟩) (Nat.le_refl _) _).setCell (p := ⟨w1.heap.size, _, none⟩) (Nat.le_refl _) _).setCell (p := ⟨w1.heap.size, _, none⟩) (Nat.le_refl _) _).setCell (p := ⟨w1.heap.size, _, none⟩) (Nat.le_refl _) _), (RawAt.set_ (RawAt.set_ (RawAt.set_ (RawAt.set_ (RawAt.set_ (RawAt.set_ (RawAt.set_ hzz _ _) _ _) _ _) _ _) _ _) _ _) _ _).of_eq (by simp [qcs]), Nat.le_refl _⟩
  clear hb3 hb2 c0' cm' hzz z0 z1 z2 z3 z4 z5 z6 y0 y1 y2 y3 y4 y5 y6
  generalize (((((((w2.setCell ⟨w1.heap.size, 0, none⟩ (.int .i64 ((encAll l).length : Int))).setCell ⟨w1.heap.size, 1, none⟩ (.int .i64 n)).setCell ⟨w1.heap.size, 2, none⟩ (.int .i64 L.length)).setCell ⟨w1.heap.size, 3, none⟩ (.int .i64 fi)).setCell ⟨w1.heap.size, 4, none⟩ (.int .i64 x)).setCell ⟨w1.heap.size, 5, none⟩ (.int .i64 0)).setCell ⟨w1.heap.size, 6, none⟩ (.int .i64 0)) = W at *
  generalize w1.heap.size = b at pre ⊢
  have HP := Lib.hid pre; clear pre
  all_goals
    clear c0 cm K0 KM HZ hne hne' NZ hq1 hq2 hq6 hq7 hq3 hq4 hq5
    have hbW := HP.out.below
    have hle := HP.out.le
    have hbw2 : Below w.heap.size w W := hbw.trans (hbW.mono hbw.size)
    go_wp2
    go_loopg [29] (L.length + 1) (fun k i wr => ∃ j : Nat, i = .int .i64 j ∧ j ≤ L.length + 1 ∧ L.length + 1 - j ≤ k ∧ Below b W wr ∧ Hid (RawAt 27 wr b #[.int .i64 ((encAll l).length : Int), .int .i64 n, .int .i64 L.length, .int .i64 fi, .int .i64 x, .int .i64 (best ((L ++ [x]).take j)).1, .int .i64 (best ((L ++ [x]).take j)).2]))
    case atStart => exact ⟨0, rfl, by omega, by omega, Below.refl _ _, HP.out.at_⟩
    case round =>
      obtain ⟨j, rfl, h1, h2, hb, hraw⟩ := hrel
      have hbf : Below w.heap.size w wr := hbw2.trans (hb.mono (by have := hbw.size; omega))
      have f5 := RawAt.free hraw.out 5
      have f6 := RawAt.free hraw.out 6
      have c5 := RawAt.cell hraw.out 5
      have c6 := RawAt.cell hraw.out 6
      simp only [List.getElem?_toArray, List.getElem?_cons_succ, List.getElem?_cons_zero] at c5 c6
      by_cases hlt : j < L.length + 1
      · have hy : wr.cell? ⟨g, j, none⟩ = some (.int .i64 (nth (L ++ [x]) j)) := by
          have := HC.out j (by simp; omega)
          rw [Nat.zero_add] at this
          exact (hb.cell (p := ⟨g, j, none⟩) (Nat.lt_of_lt_of_le hgl hle)).trans ((hbW.cell (p := ⟨g, j, none⟩) hgl).trans this)
        have hbs : best ((L ++ [x]).take (j + 1)) = if (best ((L ++ [x]).take j)).1 < nth (L ++ [x]) j then (nth (L ++ [x]) j, (j : Int)) else best ((L ++ [x]).take j) := by
          have hj : j < (L ++ [x]).length := by simp; omega
          rw [List.take_succ_eq_append_getElem hj, best_snoc]
          have e := nth_get (L ++ [x]) hj
          rw [e, show ((L ++ [x]).take j).length = j from by rw [List.length_take]; omega]
        have HB := Lib.hid hbs; clear hbs
        have HRW := Lib.hid hraw.out; clear hraw
        generalize best ((L ++ [x]).take j) = p at *
        generalize nth (L ++ [x]) j = y at *
        obtain ⟨lo, rw_⟩ := p
        simp only at c5 c6
        by_cases hlo : lo < y
        · have HB2 := Lib.hid (HB.out.trans (if_pos hlo)); clear HB
          go_wp2
          go_roundg (gk - 1)
          case measure => omega
          case rel => exact ⟨j + 1, by go_num, by omega, by omega, (hb.setCell (p := ⟨b, _, none⟩) (Nat.le_refl _) _).setCell (p := ⟨b, _, none⟩) (Nat.le_refl _) _, by rw [HB2.out]; exact ((RawAt.set_ HRW.out _ _).set_ _ _).of_eq (by simp)⟩
        · have HB2 := Lib.hid (HB.out.trans (if_neg hlo)); clear HB
          go_wp2
          go_roundg (gk - 1)
          case measure => omega
          case rel => exact ⟨j + 1, by go_num, by omega, by omega, hb, by rw [HB2.out]; exact HRW.out⟩
      · have hall : (L ++ [x]).take j = L ++ [x] := List.take_of_length_le (by simp; omega)
        rw [hall, ← HT.out.lo] at hraw
        clear hall c5 c6
        have hqq : qof l = ⟨((encAll l).length : Int), n, L.length, fi, x, (qof l).lo, (qof l).rw⟩ :=
          Q.ext_ HBY.out (by have := HOK.out.2.2.1; have := HL.out; simp only; omega) HT.out.br HFI.out HT.out.la rfl rfl
        have HQ := Lib.hid hqq; clear hqq
        have hr1 : RawAt 27 wr w.heap.size (qcs q0) := (HR.out.below hbW (RawAt.lt HR.out)).below hb (by have := RawAt.lt HR.out; omega)
        obtain ⟨r0, r1, r2, r3, r4, r5, r6⟩ := raw_cells hr1
        have g0 := hr1.free 0
        have g1 := hr1.free 1
        have g2 := hr1.free 2
        have g3 := hr1.free 3
        have g4 := hr1.free 4
        have g5 := hr1.free 5
        have g6 := hr1.free 6
        clear hr1
        generalize (qof l).lo = lo at *
        generalize (qof l).rw = rw_ at *
        have hraw2 : RawAt 27 wr b (qcs ⟨((encAll l).length : Int), n, L.length, fi, x, lo, rw_⟩) := hraw
        clear hraw
        obtain ⟨s0, s1, s2, s3, s4, s5, s6⟩ := raw_cells hraw2
        simp only at s0 s1 s2 s3 s4 s5 s6
        go_wp2
        refine bodyPost_ret (v := .agg (qcs ⟨((encAll l).length : Int), n, L.length, fi, x, lo, rw_⟩)) ?_ rfl ⟨by rw [HQ.out]; rfl, ?_⟩
        · simp [results, Try.results14, go_sem, qcs, r0, r1, r2, r3, r4, r5, r6]
        · exact (((((((hbf.setCell (p := ⟨w.heap.size, _, none⟩) (Nat.le_refl _) _).setCell (p := ⟨w.heap.size, _, none⟩) (Nat.le_refl _) _).setCell (p := ⟨w.heap.size, _, none⟩) (Nat.le_refl _) _).setCell (p := ⟨w.heap.size, _, none⟩) (Nat.le_refl _) _).setCell (p := ⟨w.heap.size, _, none⟩) (Nat.le_refl _) _).setCell (p := ⟨w.heap.size, _, none⟩) (Nat.le_refl _) _).setCell (p := ⟨w.heap.size, _, none⟩) (Nat.le_refl _) _)
end Go.Proofs.Ytajjodooojhhcaa
