/- The document's own answers of trees: size, Find. -/
import Derived.Test.YtbbplppcabeojaaRefAll
import Derived.Test.YtbbplppcabeojaaIdx3
import Derived.Test.YtbbplppcabeojaaItCut
import Derived.Test.YtbbplppcabeojaaItOwn
namespace Go.Proofs.Ytbbplppcabeojaa
open Go.RowKit
/-- A size of items together. -/
def sdim (l : List I7) (dim : Nat) : Int := if dim = 3 then l.length else if dim = 0 then (sall l).d0 else if dim = 1 then (sall l).d1 else (sall l).d2
theorem sdim_bd (l : List I7) (ho : Okl l) (hl : l.length ≤ 1000000) (dim : Nat) : Small (sdim l dim) := by
  obtain ⟨_, h1, h2, h3, _⟩ := (sall_ok _ l rfl ho).small (by omega)
  unfold sdim
  repeat' split
  · unfold Small; omega
  · exact h1
  · exact h2
  · exact h3
theorem fld_d (n a b c m p : Int) (w : World) : (Instr.field 93 (.agg #[.int .i64 n, .int .i64 a, .int .i64 b, .int .i64 c, .int .i64 m, .int .i64 p]) 1).run Try.prog w = .ok (.agg #[.int .i64 a, .int .i64 b, .int .i64 c]) w := by
  simp [Instr.field, run_underlying Try.underlying93, run_underlying Try.underlying50, part, isAgg, asAgg, Result.andThen, go_sem]
set_option maxHeartbeats 2000000 in
set_option maxRecDepth 100000 in
theorem size_any5 (A : Option Addr) (n c : Nat) (l : List I7) (dim : Nat) (w : World) (hA : ItsAt w A l) (hl : l.length = n) (hn : n ≤ 100000) (ho : Okl l) (hd : dim ≤ 3) :
    Calls Try.prog 123 #[.slice A n c, .int .i64 dim] w fun e w' => e = .returned (.int .i64 (sdim l dim)) ∧ Below w.heap.size w w' := by
  have CA := Lib.hid (rall_any A n c l w hA hl hn ho)
  have HL := Lib.hid hl; clear hl hA ho
  obtain rfl | rfl | rfl | rfl : dim = 3 ∨ dim = 0 ∨ dim = 1 ∨ dim = 2 := by omega
  · have HS := Lib.hid (show sdim l 3 = l.length from rfl)
    go_enter Try.func123, Try.ntmps123
    go_wp2
    go_ret
    exact ⟨ret_int (by rw [HS.out, HL.out]), Below.refl _ _⟩
  all_goals
    have hx0 := fun W => idx3_0 (sall l).d0 (sall l).d1 (sall l).d2 W
    have hx1 := fun W => idx3_1 (sall l).d0 (sall l).d1 (sall l).d2 W
    have hx2 := fun W => idx3_2 (sall l).d0 (sall l).d1 (sall l).d2 W
    have hf := fun W => fld_d (sall l).n (sall l).d0 (sall l).d1 (sall l).d2 (sall l).mx (sall l).pl W
    unfold scs at CA
    have HS := Lib.hid (show sdim l 0 = (sall l).d0 ∧ sdim l 1 = (sall l).d1 ∧ sdim l 2 = (sall l).d2 from ⟨rfl, rfl, rfl⟩)
    go_enter Try.func123, Try.ntmps123
    go_wp2_with fail
    refine CA.out.mono ?_
    rintro e w1 ⟨rfl, hb1⟩
    go_wp2_with fail
    go_ret
    exact ⟨ret_int (by first | exact HS.out.1.symm | exact HS.out.2.1.symm | exact HS.out.2.2.symm), hb1⟩
/-- Does a place stand ahead of an end, by a bias? -/
def Stops (e v b : Int) : Prop := v < e ∨ (b = 0 ∧ e = v)
/-- The place that is found. -/
structure FindIs (l : List I7) (dim : Nat) (v b : Int) (k : Nat) : Prop where
  le : k ≤ l.length
  no : ∀ j, j < k → ¬ Stops (sdim (l.take (j + 1)) dim) v b
  yes : k < l.length → Stops (sdim (l.take (k + 1)) dim) v b
theorem FindIs.unique {l : List I7} {dim : Nat} {v b : Int} {k m : Nat} (h : FindIs l dim v b k) (g : FindIs l dim v b m) : k = m := by
  rcases Nat.lt_trichotomy k m with h1 | h1 | h1
  · exact absurd (h.yes (Nat.lt_of_lt_of_le h1 g.le)) (g.no k h1)
  · exact h1
  · exact absurd (g.yes (Nat.lt_of_lt_of_le h1 h.le)) (h.no m h1)
/-- The cells of a place. -/
def pcs (k : Nat) (s : S6) : Array Value := #[.int .i64 k, .int .i64 s.n, .int .i64 s.d0, .int .i64 s.d1, .int .i64 s.d2, .int .i64 s.mx, .int .i64 s.pl]
theorem raw7 {t : TypeId} {w : World} {b k : Nat} {s : S6} (h : RawAt t w b (pcs k s)) : w.cell? ⟨b, 0, none⟩ = some (.int .i64 k) ∧ w.cell? ⟨b, 1, none⟩ = some (.int .i64 s.n) ∧ w.cell? ⟨b, 2, none⟩ = some (.int .i64 s.d0) ∧ w.cell? ⟨b, 3, none⟩ = some (.int .i64 s.d1) ∧ w.cell? ⟨b, 4, none⟩ = some (.int .i64 s.d2) ∧ w.cell? ⟨b, 5, none⟩ = some (.int .i64 s.mx) ∧ w.cell? ⟨b, 6, none⟩ = some (.int .i64 s.pl) :=
  ⟨RawAt.cell h 0, RawAt.cell h 1, RawAt.cell h 2, RawAt.cell h 3, RawAt.cell h 4, RawAt.cell h 5, RawAt.cell h 6⟩
set_option maxHeartbeats 4000000 in
set_option maxRecDepth 100000 in
theorem rfind_any (A : Option Addr) (n c : Nat) (l : List I7) (dim : Nat) (v b : Int) (w : World) (hA : ItsAt w A l) (hl : l.length = n) (hn : n ≤ 100000) (hc : n ≤ c) (ho : Okl l) (hd : dim ≤ 3) :
    Calls Try.prog 98 #[.slice A n c, .int .i64 dim, .agg #[.int .i64 v, .int .i64 b]] w fun e w' => ∃ k, FindIs l dim v b k ∧ e = .returned (.agg (pcs k (sall (l.take k)))) ∧ Below w.heap.size w w' := by
  obtain ⟨i0, hi0, _, _, _⟩ := info_parts ritem_info
  have HA := Lib.hid hA; clear hA
  have HL := Lib.hid hl; clear hl
  have HO := Lib.hid ho; clear ho
  go_enter Try.func98, Try.ntmps98
  go_wp2
  obtain ⟨hr0, hz0, hb0, _⟩ := new2 w 36 137 #[.int .i64 v, .int .i64 b] (pcs 0 s0)
  change Code.wp _ _ _ _ ((w.alloc (.cells #[.int .i64 v, .int .i64 b] 36)).alloc (.cells (pcs 0 s0) 137))
  generalize ((w.alloc (.cells #[.int .i64 v, .int .i64 b] 36)).alloc (.cells (pcs 0 s0) 137)) = W1 at *
  have HR := Lib.hid hr0; clear hr0
  have HZ := Lib.hid hz0; clear hz0
  go_loopg [7] n (fun k i wr => ∃ j : Nat, i = .int .i64 j ∧ j ≤ n ∧ n - j ≤ k ∧ Below w.heap.size w wr ∧ Hid (RawAt 36 wr w.heap.size #[.int .i64 v, .int .i64 b]) ∧ Hid (RawAt 137 wr (w.heap.size + 1) (pcs 0 s0)) ∧ Hid (∀ i, i < j → ¬ Stops (sdim (l.take (i + 1)) dim) v b))
  case atStart => exact ⟨0, rfl, by omega, by omega, hb0, HR, HZ, fun i hi => absurd hi (by omega)⟩
  case round =>
    obtain ⟨j, rfl, h1, h2, hb, hr, hz, hno⟩ := hrel
    by_cases hlt : j < n
    · have hm : j < l.length := by rw [HL.out]; exact hlt
      have s1 : ∀ W : World, (Instr.slice 30 (.slice A n c) none (some (.int .i64 ((j : Int) + 1))) none).run Try.prog W = .ok (.slice A (j + 1) c) W := fun W => by
        have := cut_front (P := Try.prog) Try.underlying30 hi0 A n c (j + 1) (by omega) W
        rwa [show ((j + 1 : Nat) : Int) = (j : Int) + 1 from by omega] at this
      have CS := Lib.hid (size_any5 A (j + 1) c (l.take (j + 1)) dim wr ((HA.out.front (j + 1)).below hb) (by rw [List.length_take, HL.out]; omega) (by omega) (HO.out.take_ (j + 1)) hd)
      generalize hE : sdim (l.take (j + 1)) dim = E at *
      have HE := Lib.hid hE; clear hE
      by_cases q1 : v < E
      · have HF := Lib.hid (show FindIs l dim v b j from ⟨by omega, hno.out, fun _ => by rw [HE.out]; exact .inl q1⟩)
        go_wp2_with fail
        refine CS.out.mono ?_
        rintro e w1 ⟨rfl, hb1⟩
        have hb := hb.trans (hb1.mono hb.size)
        have hz : Hid _ := Lib.hid (RawAt.below hz.out hb1 (RawAt.lt hz.out))
        have hr1 := RawAt.below hr.out hb1 (RawAt.lt hr.out)
        have c0 : w1.cell? ⟨w.heap.size, 0, none⟩ = some (.int .i64 v) := RawAt.cell hr1 0
        have c1 : w1.cell? ⟨w.heap.size, 1, none⟩ = some (.int .i64 b) := RawAt.cell hr1 1
        clear hr1
        have CR := Lib.hid fun (W : World) (hW : Below w.heap.size w W) => rall_any A j c (l.take j) W ((HA.out.front j).below hW) (by rw [List.length_take, HL.out]; omega) (by omega) (HO.out.take_ j)
        have s2 := fun W : World => cut_front (P := Try.prog) Try.underlying30 hi0 A n c j (by omega) W
        unfold scs at CR
        generalize hu : sall (l.take j) = u at *
        have HU := Lib.hid hu; clear hu
        go_wp2_with fail
        refine (CR.out _ hb).mono ?_
        rintro e w2 ⟨rfl, hb2⟩
        have hf := hb.trans (hb2.mono hb.size)
        have hz2 := RawAt.below hz.out hb2 (RawAt.lt hz.out)
        obtain ⟨z0, z1, z2, z3, z4, z5, z6⟩ := raw7 hz2
        have y0 := RawAt.free hz2 0
        have y1 := RawAt.free hz2 1
        have y2 := RawAt.free hz2 2
        have y3 := RawAt.free hz2 3
        have y4 := RawAt.free hz2 4
        have y5 := RawAt.free hz2 5
        have y6 := RawAt.free hz2 6
        go_wp2
        refine bodyPost_ret (v := .agg #[.int .i64 j, .int .i64 u.n, .int .i64 u.d0, .int .i64 u.d1, .int .i64 u.d2, .int .i64 u.mx, .int .i64 u.pl]) (by simp [results, Try.results98, go_sem, z0, z1, z2, z3, z4, z5, z6]) rfl ⟨j, HF.out, by rw [HU.out]; rfl, ?_⟩
        (repeat' (first | (with_reducible exact hf) | (with_reducible refine Below.setCell ?_ ?_ _) | (with_reducible refine Below.drew ?_))) <;> first | (simp; done) | (simp; omega)
      · by_cases q2 : b = 0
        · subst q2
          by_cases q3 : E = v
          · have HF := Lib.hid (show FindIs l dim v 0 j from ⟨by omega, hno.out, fun _ => by rw [HE.out]; exact .inr ⟨rfl, q3⟩⟩)
            subst q3
            go_wp2_with fail
            refine CS.out.mono ?_
            rintro e w1 ⟨rfl, hb1⟩
            have hb := hb.trans (hb1.mono hb.size)
            have hz : Hid _ := Lib.hid (RawAt.below hz.out hb1 (RawAt.lt hz.out))
            have hr1 := RawAt.below hr.out hb1 (RawAt.lt hr.out)
            have c0 : w1.cell? ⟨w.heap.size, 0, none⟩ = some (.int .i64 E) := RawAt.cell hr1 0
            have c1 : w1.cell? ⟨w.heap.size, 1, none⟩ = some (.int .i64 0) := RawAt.cell hr1 1
            clear hr1
            have CR := Lib.hid fun (W : World) (hW : Below w.heap.size w W) => rall_any A j c (l.take j) W ((HA.out.front j).below hW) (by rw [List.length_take, HL.out]; omega) (by omega) (HO.out.take_ j)
            have s2 := fun W : World => cut_front (P := Try.prog) Try.underlying30 hi0 A n c j (by omega) W
            unfold scs at CR
            generalize hu : sall (l.take j) = u at *
            have HU := Lib.hid hu; clear hu
            go_wp2_with fail
            refine (CR.out _ hb).mono ?_
            rintro e w2 ⟨rfl, hb2⟩
            have hf := hb.trans (hb2.mono hb.size)
            have hz2 := RawAt.below hz.out hb2 (RawAt.lt hz.out)
            obtain ⟨z0, z1, z2, z3, z4, z5, z6⟩ := raw7 hz2
            have y0 := RawAt.free hz2 0
            have y1 := RawAt.free hz2 1
            have y2 := RawAt.free hz2 2
            have y3 := RawAt.free hz2 3
            have y4 := RawAt.free hz2 4
            have y5 := RawAt.free hz2 5
            have y6 := RawAt.free hz2 6
            go_wp2
            refine bodyPost_ret (v := .agg #[.int .i64 j, .int .i64 u.n, .int .i64 u.d0, .int .i64 u.d1, .int .i64 u.d2, .int .i64 u.mx, .int .i64 u.pl]) (by simp [results, Try.results98, go_sem, z0, z1, z2, z3, z4, z5, z6]) rfl ⟨j, HF.out, by rw [HU.out]; rfl, ?_⟩
            (repeat' (first | (with_reducible exact hf) | (with_reducible refine Below.setCell ?_ ?_ _) | (with_reducible refine Below.drew ?_))) <;> first | (simp; done) | (simp; omega)
          · have q3b : (E == v) = false := by simpa using q3
            have HN := Lib.hid (show ∀ i, i < j + 1 → ¬ Stops (sdim (l.take (i + 1)) dim) v 0 from fun i hi => by
              by_cases e : i = j
              · subst e; rw [HE.out]; unfold Stops; omega
              · exact hno.out i (by omega))
            clear q3
            go_wp2_with fail
            refine CS.out.mono ?_
            rintro e w1 ⟨rfl, hb1⟩
            have hb := hb.trans (hb1.mono hb.size)
            have hz := Lib.hid (RawAt.below hz.out hb1 (RawAt.lt hz.out))
            have hr1 := RawAt.below hr.out hb1 (RawAt.lt hr.out)
            have c0 : w1.cell? ⟨w.heap.size, 0, none⟩ = some (.int .i64 v) := RawAt.cell hr1 0
            have c1 : w1.cell? ⟨w.heap.size, 1, none⟩ = some (.int .i64 0) := RawAt.cell hr1 1
            have HR1 := Lib.hid hr1; clear hr1
            go_wp2
            go_roundg (gk - 1)
            case measure => omega
            case rel => exact ⟨j + 1, by go_num, by omega, by omega, hb, HR1, hz, HN⟩
        · have q2b : (b == 0) = false := by simpa using q2
          have HN := Lib.hid (show ∀ i, i < j + 1 → ¬ Stops (sdim (l.take (i + 1)) dim) v b from fun i hi => by
            by_cases e : i = j
            · subst e; rw [HE.out]; unfold Stops; omega
            · exact hno.out i (by omega))
          clear q2
          go_wp2_with fail
          refine CS.out.mono ?_
          rintro e w1 ⟨rfl, hb1⟩
          have hb := hb.trans (hb1.mono hb.size)
          have hz := Lib.hid (RawAt.below hz.out hb1 (RawAt.lt hz.out))
          have hr1 := RawAt.below hr.out hb1 (RawAt.lt hr.out)
          have c0 : w1.cell? ⟨w.heap.size, 0, none⟩ = some (.int .i64 v) := RawAt.cell hr1 0
          have c1 : w1.cell? ⟨w.heap.size, 1, none⟩ = some (.int .i64 b) := RawAt.cell hr1 1
          have HR1 := Lib.hid hr1; clear hr1
          go_wp2
          go_roundg (gk - 1)
          case measure => omega
          case rel => exact ⟨j + 1, by go_num, by omega, by omega, hb, HR1, hz, HN⟩
    · have hj : j = n := by omega
      have HF := Lib.hid (show FindIs l dim v b j from ⟨by have := HL.out; omega, hno.out, fun h => absurd h (by have := HL.out; omega)⟩)
      have HJ := Lib.hid hj; clear hj
      have CR := Lib.hid fun (W : World) (hW : Below w.heap.size w W) => rall_any A j c (l.take j) W ((HA.out.front j).below hW) (by rw [List.length_take, HL.out]; omega) (by omega) (HO.out.take_ j)
      have s2 := fun W : World => cut_front (P := Try.prog) Try.underlying30 hi0 A n c j (by omega) W
      unfold scs at CR
      generalize hu : sall (l.take j) = u at *
      have HU := Lib.hid hu; clear hu
      go_wp2_with fail
      refine (CR.out _ hb).mono ?_
      rintro e w2 ⟨rfl, hb2⟩
      have hf := hb.trans (hb2.mono hb.size)
      have hz2 := RawAt.below hz.out hb2 (RawAt.lt hz.out)
      obtain ⟨z0, z1, z2, z3, z4, z5, z6⟩ := raw7 hz2
      have y0 := RawAt.free hz2 0
      have y1 := RawAt.free hz2 1
      have y2 := RawAt.free hz2 2
      have y3 := RawAt.free hz2 3
      have y4 := RawAt.free hz2 4
      have y5 := RawAt.free hz2 5
      have y6 := RawAt.free hz2 6
      go_wp2
      refine bodyPost_ret (v := .agg #[.int .i64 j, .int .i64 u.n, .int .i64 u.d0, .int .i64 u.d1, .int .i64 u.d2, .int .i64 u.mx, .int .i64 u.pl]) (by simp [results, Try.results98, go_sem, z0, z1, z2, z3, z4, z5, z6]) rfl ⟨j, HF.out, by rw [HU.out]; rfl, ?_⟩
      (repeat' (first | (with_reducible exact hf) | (with_reducible refine Below.setCell ?_ ?_ _) | (with_reducible refine Below.drew ?_))) <;> first | (simp; done) | (simp; omega)
end Go.Proofs.Ytbbplppcabeojaa
