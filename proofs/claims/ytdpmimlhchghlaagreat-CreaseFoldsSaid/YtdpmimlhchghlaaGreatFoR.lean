/- Folds: the document's New. -/
import Derived.Test.YtdpmimlhchghlaaGreatFoC
import Derived.Test.YtdpmimlhchghlaaGreatPlSp
namespace Go.Proofs.YtdpmimlhchghlaaGreat
open Go.RowKit Go.Sort
set_option linter.unusedVariables false
/-- What is laid so far, where one more goes among others, and whether it has gone. -/
def fgo (x : Fo) : List Fo → List Fo × Bool
  | [] => ([], false)
  | y :: l => if flt x y = true then (x :: y :: l, true) else (y :: (fgo x l).1, (fgo x l).2)
theorem fgo_ins (x : Fo) : ∀ l : List Fo, ins flt x l = if (fgo x l).2 = true then (fgo x l).1 else (fgo x l).1 ++ [x]
  | [] => by simp [ins, fgo]
  | y :: l => by
    have ih := fgo_ins x l
    unfold ins fgo
    split
    · simp
    · rw [ih]
      split <;> simp_all
theorem fgo_snoc (x b : Fo) : ∀ l : List Fo, fgo x (l ++ [b]) = if (fgo x l).2 = true then ((fgo x l).1 ++ [b], true) else if flt x b = true then ((fgo x l).1 ++ [x, b], true) else ((fgo x l).1 ++ [b], false)
  | [] => by simp only [List.nil_append, fgo]; split <;> simp
  | y :: l => by
    have ih := fgo_snoc x b l
    rw [List.cons_append, fgo, fgo]
    split
    · simp
    · rw [ih]
      split
      · simp_all
      · split <;> simp_all
theorem fgo_len (x : Fo) : ∀ l : List Fo, (fgo x l).1.length ≤ l.length + 1
  | [] => by simp [fgo]
  | y :: l => by
    have := fgo_len x l
    unfold fgo
    split
    · simp
    · simp; omega
theorem fw_step (n : Int) {l : List Fo} {k : Nat} (h : k < l.length) : fw n (l.take k) (l.drop k) = if ¬ (0 ≤ l[k].f ∧ l[k].f < l[k].t ∧ l[k].t ≤ n) then 1 else if l[k] ∈ l.take k then 8 else fw n (l.take (k + 1)) (l.drop (k + 1)) := by
  rw [List.drop_eq_getElem_cons h, fw, List.take_succ_eq_append_getElem h]
  have e : (fsp l[k] n ∧ l[k].f ≠ l[k].t) ↔ (0 ≤ l[k].f ∧ l[k].f < l[k].t ∧ l[k].t ≤ n) := by unfold fsp; omega
  by_cases g : 0 ≤ l[k].f ∧ l[k].f < l[k].t ∧ l[k].t ≤ n
  · exact (if_neg (fun h => h (e.2 g))).trans (if_neg (fun h => h g)).symm
  · exact (if_pos (fun h => g (e.1 h))).trans (if_pos g).symm
theorem rows_takeF {w : World} {A : Option Addr} {l : List Fo} (h : RowsAt encF 2 w A l) (j : Nat) : RowsAt encF 2 w A (l.take j) := by
  intro hl
  rw [List.length_take] at hl
  obtain ⟨b, off, rfl, h1, h2⟩ := h (by omega)
  exact ⟨b, off, rfl, h1, fun i hi c hc => by
    rw [h2 i (by rw [List.length_take] at hi; omega) c hc, List.getElem_take]⟩
theorem own_neF {w : World} {base : Nat} {e : TypeId} {size : Nat} {v : Value} {n : Nat} {xs : List Value} (h : w.ownsRow base e size v n xs) {b : Nat} (hb : ∀ g, v.ownBlock = some g → g ≠ b) (k : Nat) (u : Value) : (w.setCell ⟨b, k, none⟩ u).ownsRow base e size v n xs := by
  refine ⟨h.1, ?_⟩
  rcases h.2 with h2 | ⟨g, cap, cur, rfl, hB, c, h3⟩
  · exact .inl h2
  · exact .inr ⟨g, cap, cur, rfl, hB, (Below.heap_setCell w ⟨b, k, none⟩ u g (by simpa using hb g rfl)).trans c, h3⟩
/-- What New answers. -/
def FNewRes (n : Int) (l : List Fo) (w : World) (r : Int) (e : Ending) (w' : World) : Prop := ∃ nn A2 m2 c2, e = .returned (.agg #[.int .i64 nn, .slice A2 m2 c2, .int .i64 r]) ∧ (r = 0 → nn = n ∧ m2 = l.length ∧ RowsAt encF 2 w' A2 (ord flt l) ∧ Caps A2 m2 c2) ∧ Below w.heap.size w w'
set_option maxHeartbeats 32000000 in
set_option maxRecDepth 100000 in
theorem rNew15 (n : Int) (A : Option Addr) (m c : Nat) (l : List Fo) (w : World) (hA : RowsAt encF 2 w A l) (hcap : Caps A m c) (hl : l.length = m) (r : Int) (hr : fwrong n l = r) :
    Calls Tryz.prog 31 #[.int .i64 n, .slice A m c] w (FNewRes n l w r) := by
  have ST := fo_slt
  have HR := Lib.hid hr
  have HL := Lib.hid hl
  have HC := Lib.hid hcap
  have HA := Lib.hid hA
  clear hA hl hcap hr
  by_cases g1 : n < 0
  · have k1 : decide (n < 0) = true := decide_eq_true g1
    have e : r = 1 := by rw [← HR.out]; unfold fwrong; rw [if_pos (.inl g1)]
    subst e
    clear HR
    go_enter Tryz.func31, Tryz.ntmps31
    go_wp2
    refine bodyPost_ret (v := .agg #[.int .i64 0, .slice none 0 0, .int .i64 1]) (by simp [results, Tryz.results31, go_sem]) rfl ⟨0, none, 0, 0, rfl, fun h => absurd h (by decide), (Below.refl _ _).alloc (Nat.le_refl _) _⟩
  · have k1 : decide (n < 0) = false := decide_eq_false g1
    by_cases g2 : 1099511627776 < n
    · have k2 : decide (1099511627776 < n) = true := decide_eq_true g2
      have e : r = 1 := by rw [← HR.out]; unfold fwrong; rw [if_pos (.inr g2)]
      subst e
      clear HR
      go_enter Tryz.func31, Tryz.ntmps31
      go_wp2
      refine bodyPost_ret (v := .agg #[.int .i64 0, .slice none 0 0, .int .i64 1]) (by simp [results, Tryz.results31, go_sem]) rfl ⟨0, none, 0, 0, rfl, fun h => absurd h (by decide), (Below.refl _ _).alloc (Nat.le_refl _) _⟩
    · have k2 : decide (1099511627776 < n) = false := decide_eq_false g2
      by_cases g3 : 60 < m
      · have k3 : decide (60 < m) = true := decide_eq_true g3
        have k4 : decide ((60 : Int) < (m : Int)) = true := decide_eq_true (by omega)
        have e : r = 5 := by rw [← HR.out]; unfold fwrong; rw [if_neg (by omega), if_pos (by rw [HL.out]; exact g3)]
        subst e
        clear HR
        go_enter Tryz.func31, Tryz.ntmps31
        go_wp2
        refine bodyPost_ret (v := .agg #[.int .i64 0, .slice none 0 0, .int .i64 5]) (by simp [results, Tryz.results31, go_sem]) rfl ⟨0, none, 0, 0, rfl, fun h => absurd h (by decide), (Below.refl _ _).alloc (Nat.le_refl _) _⟩
      · have k3 : decide (60 < m) = false := decide_eq_false g3
        have k4 : decide ((60 : Int) < (m : Int)) = false := decide_eq_false (by omega)
        have e : r = fw n [] l := by rw [← HR.out]; unfold fwrong; rw [if_neg (by omega), if_neg (by rw [HL.out]; exact g3)]
        have x1 : Below w.heap.size w (w.alloc (.cells #[.int .i64 0, .slice none 0 0, .int .i64 0] 63)) := (Below.refl _ _).alloc (Nat.le_refl _) _
        have r1 : RawAt 63 (w.alloc (.cells #[.int .i64 0, .slice none 0 0, .int .i64 0] 63)) w.heap.size #[.int .i64 0, .slice none 0 0, .int .i64 0] := heap_alloc_new w _
        have hz1 : w.heap.size < (w.alloc (.cells #[.int .i64 0, .slice none 0 0, .int .i64 0] 63)).heap.size := by simp
        obtain ⟨W1, hW1⟩ : ∃ W1, W1 = w.alloc (.cells #[.int .i64 0, .slice none 0 0, .int .i64 0] 63) := ⟨_, rfl⟩
        rw [← hW1] at x1 r1 hz1
        have HR2 := Lib.hid e
        have HW1 := Lib.hid hW1
        have X1 := Lib.hid x1
        have R1 := Lib.hid r1
        have HZ1 := Lib.hid hz1
        have hm60 : m ≤ 60 := by omega
        clear HR e hW1 x1 r1 hz1
        go_enter Tryz.func31, Tryz.ntmps31
        go_wp2_with fail
        rw [← HW1.out]
        go_loopg [5, 27] m (fun g v i wr => ∃ (k : Nat), i = .int .i64 k ∧ k ≤ m ∧ m - k ≤ g ∧ Hid (Below W1.heap.size W1 wr) ∧ Hid (wr.ownsRow W1.heap.size 47 2 v k (kfl encF (ord flt (l.take k)))) ∧ Hid (r = fw n (l.take k) (l.drop k)))
        case atStart => exact ⟨0, rfl, by omega, by omega, Lib.hid (Below.refl _ _), Lib.hid (World.ownsRow_nil _ _ _ _), HR2⟩
        case round =>
          clear HR2 HW1
          obtain ⟨k, rfl, h1, h2, hb, hown, hst⟩ := hrel
          obtain ⟨gO, hgO⟩ : ∃ g, g = gk := ⟨_, rfl⟩
          subst hgO
          by_cases hlt : k < m
          · have hkl : k < l.length := by rw [HL.out]; exact hlt
            obtain ⟨bA, off, rfl, hbA, d0, d1⟩ := (HA.out.below (X1.out.trans (hb.out.mono X1.out.size))).in2F hkl
            have hst2 := hst.out
            rw [fw_step n hkl] at hst2
            have htk : l.take (k + 1) = l.take k ++ [l[k]] := by rw [List.take_succ_eq_append_getElem hkl]
            have HTK := Lib.hid htk
            have HST := Lib.hid hst2
            clear htk hst2 hst
            generalize l[k] = a at *
            have i1 : (0 : Int) ≤ k := by omega
            have i2 : (k : Int) < m := by omega
            have i3 : k ≤ c := Nat.le_trans h1 HC.out.1
            have i4 : (k : Int) ≤ c := by omega
            have x3 : Below wr.heap.size wr (wr.alloc (.cells #[.int .i64 a.f, .int .i64 a.t] 47)) := (Below.refl _ _).alloc (Nat.le_refl _) _
            have R3 : RawAt 47 (wr.alloc (.cells #[.int .i64 a.f, .int .i64 a.t] 47)) wr.heap.size #[.int .i64 a.f, .int .i64 a.t] := heap_alloc_new wr _
            have HB3 := Lib.hid (hb.out.trans (x3.mono hb.out.size))
            have HO3 := Lib.hid (own_below hown.out x3)
            have HRT := Lib.hid (rows_takeF (HA.out.below (X1.out.trans (HB3.out.mono X1.out.size))) k)
            have hlk : (l.take k).length = k := by rw [List.length_take, Nat.min_eq_left (by omega)]
            have HLK := Lib.hid hlk
            have HR3 := Lib.hid R3
            have c0 := RawAt.cell R3 0
            have c1 := RawAt.cell R3 1
            simp at c0 c1
            clear hlk hb hown R3 x3
            by_cases g4 : a.f < 0
            · have k5 : decide (a.f < 0) = true := decide_eq_true g4
              have e : r = 1 := by rw [HST.out, if_pos (by omega)]
              subst e
              clear HST g4 HRT HO3
              have HBE := X1.out.trans (HB3.out.mono X1.out.size)
              have r4 := RawAt.below R1.out HB3.out HZ1.out
              have q0 := RawAt.cell r4 0
              have q1 := RawAt.cell r4 1
              have q2 := RawAt.cell r4 2
              have f0 := RawAt.free r4 0
              have f1 := RawAt.free r4 1
              have f2 := RawAt.free r4 2
              simp at q0 q1 q2
              have HBZ := Lib.hid HBE
              clear HBE r4
              go_wp2
              refine bodyPost_ret (v := .agg #[.int .i64 0, .slice none 0 0, .int .i64 1]) (by simp [results, Tryz.results31, go_sem, q0, q1, q2]) rfl ⟨0, none, 0, 0, rfl, fun h => absurd h (by decide), ?_⟩
              (repeat' (first | (with_reducible exact HBZ.out) | (with_reducible refine Below.setCell ?_ ?_ _) | (with_reducible refine Below.drew ?_))) <;> first | exact Nat.le_refl _ | (simp; done) | (simp; omega)
            · have k5 : decide (a.f < 0) = false := decide_eq_false g4
              by_cases g5 : a.t ≤ a.f
              · have k6 : decide (a.t ≤ a.f) = true := decide_eq_true g5
                have e : r = 1 := by rw [HST.out, if_pos (by omega)]
                subst e
                clear HST g4 g5 HRT HO3
                have HBE := X1.out.trans (HB3.out.mono X1.out.size)
                have r4 := RawAt.below R1.out HB3.out HZ1.out
                have q0 := RawAt.cell r4 0
                have q1 := RawAt.cell r4 1
                have q2 := RawAt.cell r4 2
                have f0 := RawAt.free r4 0
                have f1 := RawAt.free r4 1
                have f2 := RawAt.free r4 2
                simp at q0 q1 q2
                have HBZ := Lib.hid HBE
                clear HBE r4
                go_wp2
                refine bodyPost_ret (v := .agg #[.int .i64 0, .slice none 0 0, .int .i64 1]) (by simp [results, Tryz.results31, go_sem, q0, q1, q2]) rfl ⟨0, none, 0, 0, rfl, fun h => absurd h (by decide), ?_⟩
                (repeat' (first | (with_reducible exact HBZ.out) | (with_reducible refine Below.setCell ?_ ?_ _) | (with_reducible refine Below.drew ?_))) <;> first | exact Nat.le_refl _ | (simp; done) | (simp; omega)
              · have k6 : decide (a.t ≤ a.f) = false := decide_eq_false g5
                by_cases g6 : n < a.t
                · have k7 : decide (n < a.t) = true := decide_eq_true g6
                  have e : r = 1 := by rw [HST.out, if_pos (by omega)]
                  subst e
                  clear HST g4 g5 g6 HRT HO3
                  have HBE := X1.out.trans (HB3.out.mono X1.out.size)
                  have r4 := RawAt.below R1.out HB3.out HZ1.out
                  have q0 := RawAt.cell r4 0
                  have q1 := RawAt.cell r4 1
                  have q2 := RawAt.cell r4 2
                  have f0 := RawAt.free r4 0
                  have f1 := RawAt.free r4 1
                  have f2 := RawAt.free r4 2
                  simp at q0 q1 q2
                  have HBZ := Lib.hid HBE
                  clear HBE r4
                  go_wp2
                  refine bodyPost_ret (v := .agg #[.int .i64 0, .slice none 0 0, .int .i64 1]) (by simp [results, Tryz.results31, go_sem, q0, q1, q2]) rfl ⟨0, none, 0, 0, rfl, fun h => absurd h (by decide), ?_⟩
                  (repeat' (first | (with_reducible exact HBZ.out) | (with_reducible refine Below.setCell ?_ ?_ _) | (with_reducible refine Below.drew ?_))) <;> first | exact Nat.le_refl _ | (simp; done) | (simp; omega)
                · have k7 : decide (n < a.t) = false := decide_eq_false g6
                  have hst3 : r = if a ∈ l.take k then 8 else fw n (l.take (k + 1)) (l.drop (k + 1)) := by rw [HST.out, if_neg (by omega)]
                  have HS3 := Lib.hid hst3
                  clear HST g4 g5 g6 hst3
                  have run1 : ∀ W : World, (Instr.slice 23 (.slice (some ⟨bA, off, none⟩) m c) none (some (.int .i64 (k : Int))) none).run Tryz.prog W = .ok (.slice (some ⟨bA, off, none⟩) k c) W := fun W => cutK_hd ST (some ⟨bA, off, none⟩) m c k i3 W
                  obtain ⟨bX, hbX⟩ : ∃ bX, bX = wr.heap.size := ⟨_, rfl⟩
                  obtain ⟨W3, hW3⟩ : ∃ W3, W3 = wr.alloc (.cells #[.int .i64 a.f, .int .i64 a.t] 47) := ⟨_, rfl⟩
                  rw [← hW3] at HB3 HO3 HRT HR3
                  rw [← hbX] at HR3
                  have HW3 := Lib.hid hW3
                  have HBX := Lib.hid hbX
                  clear hbX hW3 c0 c1
                  go_wp2_with fail
                  rw [← HW3.out, ← HBX.out]
                  clear HW3 HBX
                  go_loopg [53] k (fun g i wr2 => ∃ (j : Nat), i = .int .i64 j ∧ j ≤ k ∧ k - j ≤ g ∧ Hid (Below W3.heap.size W3 wr2) ∧ Hid (a ∉ (l.take k).take j))
                  case atStart => exact ⟨0, rfl, by omega, by omega, Lib.hid (Below.refl _ _), Lib.hid (by simp)⟩
                  case round =>
                    obtain ⟨j, rfl, j1, j2, hbw, hno⟩ := hrel
                    have HRX := Lib.hid (HR3.out.below hbw.out HR3.out.lt)
                    by_cases hlt2 : j < k
                    · have hjl : j < (l.take k).length := by rw [HLK.out]; exact hlt2
                      obtain ⟨bO, off2, hO, hbO, u0, u1⟩ := (HRT.out.below hbw.out).in2F hjl
                      injection hO with hO
                      injection hO with hO1 hO2
                      subst hO1
                      subst hO2
                      have hmem : (l.take k)[j] ∈ l.take k := List.getElem_mem hjl
                      have htj : (l.take k).take (j + 1) = (l.take k).take j ++ [(l.take k)[j]] := by rw [List.take_succ_eq_append_getElem hjl]
                      have HTJ := Lib.hid htj
                      have HMEM := Lib.hid hmem
                      clear htj hmem
                      generalize (l.take k)[j] = b at *
                      obtain ⟨bf, bt⟩ := b
                      dsimp only at u0 u1
                      have q1 : (0 : Int) ≤ j := by omega
                      have q2 : (j : Int) < k := by omega
                      have x6 : Below wr.heap.size wr (wr.alloc (.cells #[.int .i64 bf, .int .i64 bt] 47)) := (Below.refl _ _).alloc (Nat.le_refl _) _
                      have R6 : RawAt 47 (wr.alloc (.cells #[.int .i64 bf, .int .i64 bt] 47)) wr.heap.size #[.int .i64 bf, .int .i64 bt] := heap_alloc_new wr _
                      have RA6 := RawAt.below HRX.out x6 HRX.out.lt
                      have HB6 := Lib.hid (hbw.out.trans (x6.mono hbw.out.size))
                      have y0 := RawAt.cell R6 0
                      have y1 := RawAt.cell R6 1
                      have c0 := RawAt.cell HRX.out 0
                      have c1 := RawAt.cell HRX.out 1
                      simp at y0 y1 c0 c1
                      have hne : bX ≠ wr.heap.size := Nat.ne_of_lt HRX.out.lt
                      have hltx : bX < wr.heap.size := HRX.out.lt
                      clear x6 R6 RA6 hbw
                      by_cases g7 : a.f = bf
                      · by_cases g8 : a.t = bt
                        · subst g7
                          subst g8
                          have e : r = 8 := by rw [HS3.out, if_pos HMEM.out]
                          subst e
                          clear HS3 hno HRT HO3 HTJ HMEM
                          have HBE := X1.out.trans ((HB3.out.trans (HB6.out.mono HB3.out.size)).mono X1.out.size)
                          have r4 := RawAt.below R1.out (HB3.out.trans (HB6.out.mono HB3.out.size)) HZ1.out
                          have q0 := RawAt.cell r4 0
                          have q1 := RawAt.cell r4 1
                          have q2 := RawAt.cell r4 2
                          have f0 := RawAt.free r4 0
                          have f1 := RawAt.free r4 1
                          have f2 := RawAt.free r4 2
                          simp at q0 q1 q2
                          have HBZ := Lib.hid HBE
                          clear HBE r4
                          go_wp2
                          refine bodyPost_ret (v := .agg #[.int .i64 0, .slice none 0 0, .int .i64 8]) (by simp [results, Tryz.results31, go_sem, q0, q1, q2]) rfl ⟨0, none, 0, 0, rfl, fun h => absurd h (by decide), ?_⟩
                          (repeat' (first | (with_reducible exact HBZ.out) | (with_reducible refine Below.setCell ?_ ?_ _) | (with_reducible refine Below.drew ?_))) <;> first | exact Nat.le_refl _ | (simp; done) | (simp; omega)
                        · have HAB : Hid (a ≠ ⟨bf, bt⟩) := Lib.hid fun e => g8 (by rw [e])
                          subst g7
                          have k9 : decide (a.t = bt) = false := decide_eq_false g8
                          have k9' : (a.t == bt) = false := by simp [g8]
                          clear g8
                          have HN2 : Hid (a ∉ (l.take k).take (j + 1)) := Lib.hid (by rw [HTJ.out]; intro hh; rcases List.mem_append.1 hh with hh | hh; exact hno.out hh; exact HAB.out (List.mem_singleton.1 hh))
                          clear HTJ HMEM hno
                          go_wp2
                          go_roundg (gk - 1)
                          case measure => omega
                          case rel => exact ⟨j + 1, by go_num, by omega, by omega, HB6, HN2⟩
                      · have HAB : Hid (a ≠ ⟨bf, bt⟩) := Lib.hid fun e => g7 (by rw [e])
                        have k8 : decide (a.f = bf) = false := decide_eq_false g7
                        have k8' : (a.f == bf) = false := by simp [g7]
                        clear g7
                        have HN2 : Hid (a ∉ (l.take k).take (j + 1)) := Lib.hid (by rw [HTJ.out]; intro hh; rcases List.mem_append.1 hh with hh | hh; exact hno.out hh; exact HAB.out (List.mem_singleton.1 hh))
                        clear HTJ HMEM hno
                        go_wp2
                        go_roundg (gk - 1)
                        case measure => omega
                        case rel => exact ⟨j + 1, by go_num, by omega, by omega, HB6, HN2⟩
                    · obtain rfl : j = k := by omega
                      have hn2 := hno.out
                      rw [List.take_of_length_le (by rw [HLK.out]; exact Nat.le_refl _)] at hn2
                      have HST2 : Hid (r = fw n (l.take (j + 1)) (l.drop (j + 1))) := Lib.hid (by rw [HS3.out, if_neg hn2])
                      have HBV := Lib.hid (HB3.out.trans (hbw.out.mono HB3.out.size))
                      have hown4 := own_below HO3.out hbw.out
                      obtain ⟨o, ho⟩ : ∃ o, o = ord flt (l.take j) := ⟨_, rfl⟩
                      have HO := Lib.hid ho
                      rw [← ho] at hown4
                      obtain ⟨A3, c3, h3, hR3, hol, _⟩ := rows_of_own encF_len (by omega) hown4
                      subst h3
                      have HRO := Lib.hid hR3
                      have HOL := Lib.hid hol
                      have hwB : W1.heap.size ≤ wr.heap.size := HBV.out.size
                      obtain ⟨V, hV⟩ : ∃ V, V = wr := ⟨_, rfl⟩
                      rw [← hV] at HRX HRO HBV hwB ⊢
                      clear hV hbw hno hn2 HS3 HRT HO3 HB3 hown4 ho hR3 hol HR3
                      go_wp2_with fail
                      go_loopg [10, 11, 64] j (fun g v pt i wr2 => ∃ (q : Nat), i = .int .i64 q ∧ q ≤ j ∧ j - q ≤ g ∧ pt = .bool (fgo a (o.take q)).2 ∧ Hid (Below V.heap.size V wr2) ∧ Hid (wr2.ownsRow V.heap.size 47 2 v (fgo a (o.take q)).1.length (kfl encF (fgo a (o.take q)).1)))
                      case atStart => exact ⟨0, rfl, by omega, by omega, rfl, Lib.hid (Below.refl _ _), Lib.hid (World.ownsRow_nil _ _ _ _)⟩
                      case round =>
                        obtain ⟨q, rfl, q1, q2, rfl, hbw, hown⟩ := hrel
                        have hlt4 := hown.out.lt
                        have HRX2 := Lib.hid (HRX.out.below hbw.out HRX.out.lt)
                        by_cases hlt2 : q < j
                        · have hql : q < o.length := by rw [HOL.out]; exact hlt2
                          obtain ⟨bO, off2, rfl, hbO, u0, u1⟩ := (HRO.out.below hbw.out).in2F hql
                          have hts : fgo a (o.take (q + 1)) = fgo a (o.take q ++ [o[q]]) := by rw [List.take_succ_eq_append_getElem hql]
                          rw [fgo_snoc] at hts
                          have hq5 := fgo_len a (o.take q)
                          rw [List.length_take] at hq5
                          generalize o[q] = b at *
                          obtain ⟨bf, bt⟩ := b
                          dsimp only at u0 u1
                          have HN := Lib.hid hts
                          clear hts
                          obtain ⟨A5, c5, rfl⟩ := own_formF hown.out
                          generalize (fgo a (o.take q)).1 = L0 at *
                          generalize (fgo a (o.take q)).2 = pb at *
                          generalize hq0 : L0.length = p at *
                          have HQ0 := Lib.hid hq0
                          clear hq0
                          have i5 : (0 : Int) ≤ q := by omega
                          have i6 : (q : Int) < j := by omega
                          have x6 : Below wr.heap.size wr (wr.alloc (.cells #[.int .i64 bf, .int .i64 bt] 47)) := (Below.refl _ _).alloc (Nat.le_refl _) _
                          have R6 : RawAt 47 (wr.alloc (.cells #[.int .i64 bf, .int .i64 bt] 47)) wr.heap.size #[.int .i64 bf, .int .i64 bt] := heap_alloc_new wr _
                          have HR6 := Lib.hid R6
                          have HRA6 := Lib.hid (RawAt.below HRX2.out x6 HRX2.out.lt)
                          have HW6 := Lib.hid (hbw.out.trans (x6.mono hbw.out.size))
                          have HO6 := Lib.hid (own_below hown.out x6)
                          have hz6 : (wr.alloc (.cells #[.int .i64 bf, .int .i64 bt] 47)).heap.size = wr.heap.size + 1 := by simp
                          have y0 := RawAt.cell R6 0
                          have y1 := RawAt.cell R6 1
                          have c0 := RawAt.cell HRX2.out 0
                          have c1 := RawAt.cell HRX2.out 1
                          simp at y0 y1 c0 c1
                          have hltx : bX < wr.heap.size := HRX2.out.lt
                          clear hbw hown x6 R6 HRX2
                          cases pb with
                          | true =>
                            have HN2 : Hid (fgo a (o.take (q + 1)) = (L0 ++ [⟨bf, bt⟩], true)) := Lib.hid (by rw [HN.out, if_pos rfl])
                            clear HN HRA6 HR6
                            have x7 : Below (wr.alloc (.cells #[.int .i64 bf, .int .i64 bt] 47)).heap.size (wr.alloc (.cells #[.int .i64 bf, .int .i64 bt] 47)) ((wr.alloc (.cells #[.int .i64 bf, .int .i64 bt] 47)).alloc (.cells #[.int .i64 bf, .int .i64 bt] 47)) := (Below.refl _ _).alloc (Nat.le_refl _) _
                            have R7 : RawAt 47 ((wr.alloc (.cells #[.int .i64 bf, .int .i64 bt] 47)).alloc (.cells #[.int .i64 bf, .int .i64 bt] 47)) (wr.alloc (.cells #[.int .i64 bf, .int .i64 bt] 47)).heap.size #[.int .i64 bf, .int .i64 bt] := heap_alloc_new (wr.alloc (.cells #[.int .i64 bf, .int .i64 bt] 47)) _
                            have hs7 : RowsAt encF 2 ((wr.alloc (.cells #[.int .i64 bf, .int .i64 bt] 47)).alloc (.cells #[.int .i64 bf, .int .i64 bt] 47)) (some ⟨(wr.alloc (.cells #[.int .i64 bf, .int .i64 bt] 47)).heap.size, 0, none⟩) [⟨bf, bt⟩] := rows_of_block (enc := encF) (k := 2) encF_len R7 (l := [⟨bf, bt⟩]) rfl
                            rw [hz6] at hs7
                            have HS7 := Lib.hid hs7
                            have HO7 := Lib.hid (own_below HO6.out x7)
                            have HW7 := Lib.hid (HW6.out.trans (x7.mono HW6.out.size))
                            clear x7 R7 HO6 HW6 hz6 hs7
                            go_wp2_with (at_builtin; refine wpList_appK (enc := encF) ST encF_len (by omega) rfl (.tmp 95) (.tmp 97) rfl (base := V.heap.size) (v := .slice A5 p c5) rfl HO7.out _ 1 1 [⟨bf, bt⟩] rfl HS7.out ⟨Nat.le_refl _, fun h => by cases h⟩ rfl (kfl_one' encF_one _) (by simp only [maxLen]; omega) (by omega) HW7.out.size ?_; intro v8 w8 hown8 hg8 hor8; have hw8 := Lib.hid (HW7.out.grown hg8 HW7.out.size (fun j hj => (hlt4 j hj).1)); have hO8 : Hid (w8.ownsRow V.heap.size 47 2 v8 (fgo a (o.take (q + 1))).1.length (kfl encF (fgo a (o.take (q + 1))).1)) := Lib.hid (by rw [HN2.out]; simp only [List.length_append, kfl_append]; rw [HQ0.out]; exact hown8); clear hown8 hg8 hor8 HO7 HS7 HW7)
                            go_roundg (gk - 1)
                            case measure => omega
                            case rel => exact ⟨q + 1, by go_num, by omega, by omega, by rw [HN2.out], hw8, hO8⟩
                          | false =>
                            by_cases g7 : a.f < bf
                            · have k8 : decide (a.f < bf) = true := decide_eq_true g7
                              have HFL : Hid (flt a ⟨bf, bt⟩ = true) := Lib.hid (decide_eq_true (.inl g7))
                              clear g7
                              have HN2 : Hid (fgo a (o.take (q + 1)) = (L0 ++ [a, ⟨bf, bt⟩], true)) := Lib.hid (by rw [HN.out, if_neg (by simp), if_pos HFL.out])
                              clear HN HFL
                              have x7 : Below (wr.alloc (.cells #[.int .i64 bf, .int .i64 bt] 47)).heap.size (wr.alloc (.cells #[.int .i64 bf, .int .i64 bt] 47)) ((wr.alloc (.cells #[.int .i64 bf, .int .i64 bt] 47)).alloc (.cells #[.int .i64 a.f, .int .i64 a.t] 47)) := (Below.refl _ _).alloc (Nat.le_refl _) _
                              have R7 : RawAt 47 ((wr.alloc (.cells #[.int .i64 bf, .int .i64 bt] 47)).alloc (.cells #[.int .i64 a.f, .int .i64 a.t] 47)) (wr.alloc (.cells #[.int .i64 bf, .int .i64 bt] 47)).heap.size #[.int .i64 a.f, .int .i64 a.t] := heap_alloc_new (wr.alloc (.cells #[.int .i64 bf, .int .i64 bt] 47)) _
                              have hs7 : RowsAt encF 2 ((wr.alloc (.cells #[.int .i64 bf, .int .i64 bt] 47)).alloc (.cells #[.int .i64 a.f, .int .i64 a.t] 47)) (some ⟨(wr.alloc (.cells #[.int .i64 bf, .int .i64 bt] 47)).heap.size, 0, none⟩) [a] := rows_of_block (enc := encF) (k := 2) encF_len R7 (l := [a]) rfl
                              rw [hz6] at hs7
                              have HS7 := Lib.hid hs7
                              have HO7 := Lib.hid (own_below HO6.out x7)
                              have HW7 := Lib.hid (HW6.out.trans (x7.mono HW6.out.size))
                              have HRY7 := Lib.hid (RawAt.below HR6.out x7 HR6.out.lt)
                              obtain ⟨wy, hwy⟩ : ∃ wy, wy = wr.heap.size := ⟨_, rfl⟩
                              rw [← hwy] at HRY7
                              have hwyl : wy < wr.heap.size + 1 := by omega
                              clear x7 R7 HO6 HW6 hz6 hs7
                              go_wp2_with (first
                                | (at_builtin; refine wpList_appK (enc := encF) ST encF_len (by omega) rfl (.tmp 91) (.tmp 93) rfl (base := V.heap.size) (v := .slice A5 p c5) rfl HO7.out _ 1 1 [a] rfl HS7.out ⟨Nat.le_refl _, fun h => by cases h⟩ rfl (kfl_one' encF_one _) (by simp only [maxLen]; omega) (by omega) HW7.out.size ?_; intro v8 w8 hown8 hg8 hor8; obtain ⟨A8, c8, rfl⟩ := own_formF hown8; have hw8 := Lib.hid (HW7.out.grown hg8 HW7.out.size (fun j hj => (hlt4 j hj).1)); have hrb8 := (hg8.block wy HRY7.out.lt (fun hk => by have := (hlt4 _ hk.symm).2; omega)).trans HRY7.out; have hrb8 : RawAt 47 w8 wy #[.int .i64 bf, .int .i64 bt] := hrb8; have hlt8 := hown8.lt; have y0 := RawAt.cell hrb8 0; have y1 := RawAt.cell hrb8 1; simp at y0 y1; rw [hwy] at y0 y1; have x9 : Below w8.heap.size w8 (w8.alloc (.cells #[.int .i64 bf, .int .i64 bt] 47)) := (Below.refl _ _).alloc (Nat.le_refl _) _; have R9 : RawAt 47 (w8.alloc (.cells #[.int .i64 bf, .int .i64 bt] 47)) w8.heap.size #[.int .i64 bf, .int .i64 bt] := heap_alloc_new w8 _; have HS9 := Lib.hid (rows_of_block (enc := encF) (k := 2) encF_len R9 (l := [⟨bf, bt⟩]) rfl); have HO9 := Lib.hid (own_below hown8 x9); have HW9 := Lib.hid (hw8.out.trans (x9.mono hw8.out.size)); clear hown8 hg8 hor8 HO7 HS7 HW7 HRY7 hw8 hrb8 x9 R9)
                                | (at_builtin; refine wpList_appK (enc := encF) ST encF_len (by omega) rfl (.tmp 95) (.tmp 97) rfl (base := V.heap.size) (v := .slice A8 (p + 1) c8) rfl HO9.out _ 1 1 [⟨bf, bt⟩] rfl HS9.out ⟨Nat.le_refl _, fun h => by cases h⟩ rfl (kfl_one' encF_one _) (by simp only [maxLen]; omega) (by omega) HW9.out.size ?_; intro v10 w10 hown10 hg10 hor10; have hw10 := Lib.hid (HW9.out.grown hg10 HW9.out.size (fun j hj => (hlt8 j hj).1)); have hO10 : Hid (w10.ownsRow V.heap.size 47 2 v10 (fgo a (o.take (q + 1))).1.length (kfl encF (fgo a (o.take (q + 1))).1)) := Lib.hid (by rw [HN2.out, show L0 ++ [a, ⟨bf, bt⟩] = L0 ++ [a] ++ [⟨bf, bt⟩] by simp]; simp only [List.length_append, kfl_append]; rw [HQ0.out]; exact hown10); clear hown10 hg10 hor10 HO9 HS9 HW9))
                              go_roundg (gk - 1)
                              case measure => omega
                              case rel => exact ⟨q + 1, by go_num, by omega, by omega, by rw [HN2.out], hw10, hO10⟩
                            · have k8 : decide (a.f < bf) = false := decide_eq_false g7
                              by_cases g8 : a.f = bf
                              · subst g8
                                by_cases g9 : a.t < bt
                                · have k10 : decide (a.t < bt) = true := decide_eq_true g9
                                  have HFL : Hid (flt a ⟨a.f, bt⟩ = true) := Lib.hid (decide_eq_true (.inr ⟨rfl, g9⟩))
                                  clear g7 g9
                                  have HN2 : Hid (fgo a (o.take (q + 1)) = (L0 ++ [a, ⟨a.f, bt⟩], true)) := Lib.hid (by rw [HN.out, if_neg (by simp), if_pos HFL.out])
                                  clear HN HFL
                                  have x7 : Below (wr.alloc (.cells #[.int .i64 a.f, .int .i64 bt] 47)).heap.size (wr.alloc (.cells #[.int .i64 a.f, .int .i64 bt] 47)) ((wr.alloc (.cells #[.int .i64 a.f, .int .i64 bt] 47)).alloc (.cells #[.int .i64 a.f, .int .i64 a.t] 47)) := (Below.refl _ _).alloc (Nat.le_refl _) _
                                  have R7 : RawAt 47 ((wr.alloc (.cells #[.int .i64 a.f, .int .i64 bt] 47)).alloc (.cells #[.int .i64 a.f, .int .i64 a.t] 47)) (wr.alloc (.cells #[.int .i64 a.f, .int .i64 bt] 47)).heap.size #[.int .i64 a.f, .int .i64 a.t] := heap_alloc_new (wr.alloc (.cells #[.int .i64 a.f, .int .i64 bt] 47)) _
                                  have hs7 : RowsAt encF 2 ((wr.alloc (.cells #[.int .i64 a.f, .int .i64 bt] 47)).alloc (.cells #[.int .i64 a.f, .int .i64 a.t] 47)) (some ⟨(wr.alloc (.cells #[.int .i64 a.f, .int .i64 bt] 47)).heap.size, 0, none⟩) [a] := rows_of_block (enc := encF) (k := 2) encF_len R7 (l := [a]) rfl
                                  rw [hz6] at hs7
                                  have HS7 := Lib.hid hs7
                                  have HO7 := Lib.hid (own_below HO6.out x7)
                                  have HW7 := Lib.hid (HW6.out.trans (x7.mono HW6.out.size))
                                  have HRY7 := Lib.hid (RawAt.below HR6.out x7 HR6.out.lt)
                                  obtain ⟨wy, hwy⟩ : ∃ wy, wy = wr.heap.size := ⟨_, rfl⟩
                                  rw [← hwy] at HRY7
                                  have hwyl : wy < wr.heap.size + 1 := by omega
                                  clear x7 R7 HO6 HW6 hz6 hs7
                                  go_wp2_with (first
                                    | (at_builtin; refine wpList_appK (enc := encF) ST encF_len (by omega) rfl (.tmp 91) (.tmp 93) rfl (base := V.heap.size) (v := .slice A5 p c5) rfl HO7.out _ 1 1 [a] rfl HS7.out ⟨Nat.le_refl _, fun h => by cases h⟩ rfl (kfl_one' encF_one _) (by simp only [maxLen]; omega) (by omega) HW7.out.size ?_; intro v8 w8 hown8 hg8 hor8; obtain ⟨A8, c8, rfl⟩ := own_formF hown8; have hw8 := Lib.hid (HW7.out.grown hg8 HW7.out.size (fun j hj => (hlt4 j hj).1)); have hrb8 := (hg8.block wy HRY7.out.lt (fun hk => by have := (hlt4 _ hk.symm).2; omega)).trans HRY7.out; have hrb8 : RawAt 47 w8 wy #[.int .i64 a.f, .int .i64 bt] := hrb8; have hlt8 := hown8.lt; have y0 := RawAt.cell hrb8 0; have y1 := RawAt.cell hrb8 1; simp at y0 y1; rw [hwy] at y0 y1; have x9 : Below w8.heap.size w8 (w8.alloc (.cells #[.int .i64 a.f, .int .i64 bt] 47)) := (Below.refl _ _).alloc (Nat.le_refl _) _; have R9 : RawAt 47 (w8.alloc (.cells #[.int .i64 a.f, .int .i64 bt] 47)) w8.heap.size #[.int .i64 a.f, .int .i64 bt] := heap_alloc_new w8 _; have HS9 := Lib.hid (rows_of_block (enc := encF) (k := 2) encF_len R9 (l := [⟨a.f, bt⟩]) rfl); have HO9 := Lib.hid (own_below hown8 x9); have HW9 := Lib.hid (hw8.out.trans (x9.mono hw8.out.size)); clear hown8 hg8 hor8 HO7 HS7 HW7 HRY7 hw8 hrb8 x9 R9)
                                    | (at_builtin; refine wpList_appK (enc := encF) ST encF_len (by omega) rfl (.tmp 95) (.tmp 97) rfl (base := V.heap.size) (v := .slice A8 (p + 1) c8) rfl HO9.out _ 1 1 [⟨a.f, bt⟩] rfl HS9.out ⟨Nat.le_refl _, fun h => by cases h⟩ rfl (kfl_one' encF_one _) (by simp only [maxLen]; omega) (by omega) HW9.out.size ?_; intro v10 w10 hown10 hg10 hor10; have hw10 := Lib.hid (HW9.out.grown hg10 HW9.out.size (fun j hj => (hlt8 j hj).1)); have hO10 : Hid (w10.ownsRow V.heap.size 47 2 v10 (fgo a (o.take (q + 1))).1.length (kfl encF (fgo a (o.take (q + 1))).1)) := Lib.hid (by rw [HN2.out, show L0 ++ [a, ⟨a.f, bt⟩] = L0 ++ [a] ++ [⟨a.f, bt⟩] by simp]; simp only [List.length_append, kfl_append]; rw [HQ0.out]; exact hown10); clear hown10 hg10 hor10 HO9 HS9 HW9))
                                  go_roundg (gk - 1)
                                  case measure => omega
                                  case rel => exact ⟨q + 1, by go_num, by omega, by omega, by rw [HN2.out], hw10, hO10⟩
                                · have k10 : decide (a.t < bt) = false := decide_eq_false g9
                                  have HFL : Hid (flt a ⟨a.f, bt⟩ = false) := Lib.hid (decide_eq_false (by simp only; omega))
                                  clear g7 g9
                                  have HN2 : Hid (fgo a (o.take (q + 1)) = (L0 ++ [⟨a.f, bt⟩], false)) := Lib.hid (by rw [HN.out, if_neg (by simp), if_neg (by rw [HFL.out]; simp)])
                                  clear HN HFL HRA6 HR6
                                  have x7 : Below (wr.alloc (.cells #[.int .i64 a.f, .int .i64 bt] 47)).heap.size (wr.alloc (.cells #[.int .i64 a.f, .int .i64 bt] 47)) ((wr.alloc (.cells #[.int .i64 a.f, .int .i64 bt] 47)).alloc (.cells #[.int .i64 a.f, .int .i64 bt] 47)) := (Below.refl _ _).alloc (Nat.le_refl _) _
                                  have R7 : RawAt 47 ((wr.alloc (.cells #[.int .i64 a.f, .int .i64 bt] 47)).alloc (.cells #[.int .i64 a.f, .int .i64 bt] 47)) (wr.alloc (.cells #[.int .i64 a.f, .int .i64 bt] 47)).heap.size #[.int .i64 a.f, .int .i64 bt] := heap_alloc_new (wr.alloc (.cells #[.int .i64 a.f, .int .i64 bt] 47)) _
                                  have hs7 : RowsAt encF 2 ((wr.alloc (.cells #[.int .i64 a.f, .int .i64 bt] 47)).alloc (.cells #[.int .i64 a.f, .int .i64 bt] 47)) (some ⟨(wr.alloc (.cells #[.int .i64 a.f, .int .i64 bt] 47)).heap.size, 0, none⟩) [⟨a.f, bt⟩] := rows_of_block (enc := encF) (k := 2) encF_len R7 (l := [⟨a.f, bt⟩]) rfl
                                  rw [hz6] at hs7
                                  have HS7 := Lib.hid hs7
                                  have HO7 := Lib.hid (own_below HO6.out x7)
                                  have HW7 := Lib.hid (HW6.out.trans (x7.mono HW6.out.size))
                                  clear x7 R7 HO6 HW6 hz6 hs7
                                  go_wp2_with (at_builtin; refine wpList_appK (enc := encF) ST encF_len (by omega) rfl (.tmp 95) (.tmp 97) rfl (base := V.heap.size) (v := .slice A5 p c5) rfl HO7.out _ 1 1 [⟨a.f, bt⟩] rfl HS7.out ⟨Nat.le_refl _, fun h => by cases h⟩ rfl (kfl_one' encF_one _) (by simp only [maxLen]; omega) (by omega) HW7.out.size ?_; intro v8 w8 hown8 hg8 hor8; have hw8 := Lib.hid (HW7.out.grown hg8 HW7.out.size (fun j hj => (hlt4 j hj).1)); have hO8 : Hid (w8.ownsRow V.heap.size 47 2 v8 (fgo a (o.take (q + 1))).1.length (kfl encF (fgo a (o.take (q + 1))).1)) := Lib.hid (by rw [HN2.out]; simp only [List.length_append, kfl_append]; rw [HQ0.out]; exact hown8); clear hown8 hg8 hor8 HO7 HS7 HW7)
                                  go_roundg (gk - 1)
                                  case measure => omega
                                  case rel => exact ⟨q + 1, by go_num, by omega, by omega, by rw [HN2.out], hw8, hO8⟩
                              · have k9 : decide (a.f = bf) = false := decide_eq_false g8
                                have k9' : (a.f == bf) = false := by simp [g8]
                                have HFL : Hid (flt a ⟨bf, bt⟩ = false) := Lib.hid (decide_eq_false (by simp only; omega))
                                clear g7 g8
                                have HN2 : Hid (fgo a (o.take (q + 1)) = (L0 ++ [⟨bf, bt⟩], false)) := Lib.hid (by rw [HN.out, if_neg (by simp), if_neg (by rw [HFL.out]; simp)])
                                clear HN HFL HRA6 HR6
                                have x7 : Below (wr.alloc (.cells #[.int .i64 bf, .int .i64 bt] 47)).heap.size (wr.alloc (.cells #[.int .i64 bf, .int .i64 bt] 47)) ((wr.alloc (.cells #[.int .i64 bf, .int .i64 bt] 47)).alloc (.cells #[.int .i64 bf, .int .i64 bt] 47)) := (Below.refl _ _).alloc (Nat.le_refl _) _
                                have R7 : RawAt 47 ((wr.alloc (.cells #[.int .i64 bf, .int .i64 bt] 47)).alloc (.cells #[.int .i64 bf, .int .i64 bt] 47)) (wr.alloc (.cells #[.int .i64 bf, .int .i64 bt] 47)).heap.size #[.int .i64 bf, .int .i64 bt] := heap_alloc_new (wr.alloc (.cells #[.int .i64 bf, .int .i64 bt] 47)) _
                                have hs7 : RowsAt encF 2 ((wr.alloc (.cells #[.int .i64 bf, .int .i64 bt] 47)).alloc (.cells #[.int .i64 bf, .int .i64 bt] 47)) (some ⟨(wr.alloc (.cells #[.int .i64 bf, .int .i64 bt] 47)).heap.size, 0, none⟩) [⟨bf, bt⟩] := rows_of_block (enc := encF) (k := 2) encF_len R7 (l := [⟨bf, bt⟩]) rfl
                                rw [hz6] at hs7
                                have HS7 := Lib.hid hs7
                                have HO7 := Lib.hid (own_below HO6.out x7)
                                have HW7 := Lib.hid (HW6.out.trans (x7.mono HW6.out.size))
                                clear x7 R7 HO6 HW6 hz6 hs7
                                go_wp2_with (at_builtin; refine wpList_appK (enc := encF) ST encF_len (by omega) rfl (.tmp 95) (.tmp 97) rfl (base := V.heap.size) (v := .slice A5 p c5) rfl HO7.out _ 1 1 [⟨bf, bt⟩] rfl HS7.out ⟨Nat.le_refl _, fun h => by cases h⟩ rfl (kfl_one' encF_one _) (by simp only [maxLen]; omega) (by omega) HW7.out.size ?_; intro v8 w8 hown8 hg8 hor8; have hw8 := Lib.hid (HW7.out.grown hg8 HW7.out.size (fun j hj => (hlt4 j hj).1)); have hO8 : Hid (w8.ownsRow V.heap.size 47 2 v8 (fgo a (o.take (q + 1))).1.length (kfl encF (fgo a (o.take (q + 1))).1)) := Lib.hid (by rw [HN2.out]; simp only [List.length_append, kfl_append]; rw [HQ0.out]; exact hown8); clear hown8 hg8 hor8 HO7 HS7 HW7)
                                go_roundg (gk - 1)
                                case measure => omega
                                case rel => exact ⟨q + 1, by go_num, by omega, by omega, by rw [HN2.out], hw8, hO8⟩
                        · obtain rfl : q = j := by omega
                          have e3 : o.take q = o := List.take_of_length_le (by rw [HOL.out]; exact Nat.le_refl _)
                          rw [e3] at hown ⊢
                          have hins := fgo_ins a o
                          have hord : ord flt (l.take (q + 1)) = ins flt a o := by rw [HTK.out, ord_snoc, ← HO.out]
                          have hlen : (ins flt a o).length = q + 1 := by rw [(ins_perm flt a o).length_eq, List.length_cons, HOL.out]
                          rw [hins] at hord hlen
                          have HORD := Lib.hid hord
                          have HLEN := Lib.hid hlen
                          obtain ⟨A5, c5, rfl⟩ := own_formF hown.out
                          clear hins hord hlen e3
                          generalize (fgo a o).1 = L0 at *
                          generalize (fgo a o).2 = pb at *
                          have HBW := Lib.hid (HBV.out.trans (hbw.out.mono HBV.out.size))
                          have c0 := RawAt.cell HRX2.out 0
                          have c1 := RawAt.cell HRX2.out 1
                          simp at c0 c1
                          clear hbw HRX2
                          cases pb with
                          | true =>
                            have hl1 : L0.length = q + 1 := by have := HLEN.out; simpa using this
                            rw [hl1] at hown ⊢
                            clear hl1
                            go_wp2
                            go_roundg (gO - 1)
                            case measure => omega
                            case rel => exact ⟨q + 1, by go_num, by omega, by omega, HBW, Lib.hid (by rw [HORD.out]; simpa using own_baseF hown.out hwB), HST2⟩
                          | false =>
                            have hl1 : L0.length = q := by have := HLEN.out; simp at this; omega
                            rw [hl1] at hown hlt4 ⊢
                            have x7 : Below wr.heap.size wr (wr.alloc (.cells #[.int .i64 a.f, .int .i64 a.t] 47)) := (Below.refl _ _).alloc (Nat.le_refl _) _
                            have R7 : RawAt 47 (wr.alloc (.cells #[.int .i64 a.f, .int .i64 a.t] 47)) wr.heap.size #[.int .i64 a.f, .int .i64 a.t] := heap_alloc_new wr _
                            have HS7 := Lib.hid (rows_of_block (enc := encF) (k := 2) encF_len R7 (l := [a]) rfl)
                            have HO7 := Lib.hid (own_baseF (own_below hown.out x7) hwB)
                            have HB7 := Lib.hid (HBW.out.trans (x7.mono HBW.out.size))
                            clear x7 R7 hown hl1 HBW
                            go_wp2_with (at_builtin; refine wpList_appK (enc := encF) ST encF_len (by omega) rfl (.tmp 102) (.tmp 104) rfl (base := W1.heap.size) (v := .slice A5 q c5) rfl HO7.out _ 1 1 [a] rfl HS7.out ⟨Nat.le_refl _, fun h => by cases h⟩ rfl (kfl_one' encF_one _) (by simp only [maxLen]; omega) (by omega) HB7.out.size ?_; intro v8 w8 hown8 hg8 hor8; have hb8 := Lib.hid (HB7.out.grown hg8 HB7.out.size (fun j hj => Nat.le_trans hwB (hlt4 j hj).1)); have hO8 : Hid (w8.ownsRow W1.heap.size 47 2 v8 (q + 1) (kfl encF (ord flt (l.take (q + 1))))) := Lib.hid (by rw [HORD.out]; simp only [Bool.false_eq_true, if_false, kfl_append]; exact hown8); clear hown8 hg8 hor8 HO7 HS7 HB7)
                            go_roundg (gO - 1)
                            case measure => omega
                            case rel => exact ⟨q + 1, by go_num, by omega, by omega, hb8, hO8, HST2⟩
          · obtain rfl : m = k := by omega
            have hr0 : r = 0 := by rw [hst.out, List.drop_of_length_le (by rw [HL.out]; exact Nat.le_refl _)]; rfl
            subst hr0
            have e2 : l.take m = l := List.take_of_length_le (by rw [HL.out]; exact Nat.le_refl _)
            have ho2 := hown.out
            rw [e2] at ho2
            obtain ⟨A3, c3, rfl⟩ := own_formF ho2
            have HO2 := Lib.hid ho2
            have r4 := RawAt.below R1.out hb.out HZ1.out
            have q0 := RawAt.cell r4 0
            have q1 := RawAt.cell r4 1
            have q2 := RawAt.cell r4 2
            have f0 := RawAt.free r4 0
            have f1 := RawAt.free r4 1
            have f2 := RawAt.free r4 2
            simp at q0 q1 q2
            have HR4 := Lib.hid r4
            have HBZ := Lib.hid (X1.out.trans (hb.out.mono X1.out.size))
            clear hst e2 ho2 hown hb r4
            go_wp2
            have hne : ∀ g, (Value.slice A3 m c3).ownBlock = some g → g ≠ w.heap.size := fun g hg => by have := (HO2.out.lt g hg).1; have := HZ1.out; omega
            have ho3 := own_neF (own_neF (own_neF HO2.out hne 0 (.int .i64 n)) hne 1 (.slice A3 m c3)) hne 2 (.int .i64 0)
            obtain ⟨A4, c4, e4, hR4, _, hC4⟩ := rows_of_own encF_len (by omega) ho3
            injection e4 with e5 _ e6
            subst e5
            subst e6
            refine bodyPost_ret (v := .agg #[.int .i64 n, .slice A3 m c3, .int .i64 0]) (by simp [results, Tryz.results31, go_sem, q0, q1, q2]) rfl ⟨n, A3, m, c3, rfl, fun _ => ⟨rfl, HL.out.symm, hR4, hC4⟩, ?_⟩
            exact (((HBZ.out.setCell (p := ⟨w.heap.size, 0, none⟩) (Nat.le_refl _) _).setCell (p := ⟨w.heap.size, 1, none⟩) (Nat.le_refl _) _).setCell (p := ⟨w.heap.size, 2, none⟩) (Nat.le_refl _) _)
end Go.Proofs.YtdpmimlhchghlaaGreat
