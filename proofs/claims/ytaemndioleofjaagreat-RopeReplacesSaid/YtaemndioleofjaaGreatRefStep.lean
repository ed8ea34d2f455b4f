/- A step of the document's decoding: the contract of bodkinref01.Step. -/
import Derived.Test.YtaemndioleofjaaGreatStepPure
namespace Go.Proofs.YtaemndioleofjaaGreat
open Go.RowKit
theorem cutAt_size {s : ByteArray} {p n : Nat} (h : p + n ≤ s.size) : (bcutAt s p n).size = n := by
  rw [← size_list, cutAt_list, List.length_take, List.length_drop, size_list]
  omega
theorem number_any (s : ByteArray) (p n : Nat) (w : World) (h1 : 1 ≤ n) (h4 : n ≤ 4) (h : p + n ≤ s.size) :
    Calls Tryz.prog 61 #[.string (bcutAt s p n)] w fun e w' => e = .returned (.int .i32 (numAt s p n)) ∧ w' = w := by
  have hz := cutAt_size h
  unfold numAt
  obtain rfl | rfl | rfl | rfl : n = 1 ∨ n = 2 ∨ n = 3 ∨ n = 4 := by omega
  · exact number_one _ w hz
  · exact number_2 _ w hz
  · exact number_3 _ w hz
  · exact number_4 _ w hz
set_option maxHeartbeats 1000000 in
theorem step_out (s : ByteArray) (p : Int) (w : World) (_ : s.size ≤ 1000000000) (h1 : -9223372036854775808 ≤ p) (h2 : p ≤ 9223372036854775807) (ho : p < 0 ∨ (s.size : Int) ≤ p) :
    Calls Tryz.prog 35 #[.string s, .int .i64 p] w fun e w' => e = .returned (.agg #[.int .i32 0, .int .i64 0]) ∧ Below w.heap.size w w' := by
  by_cases g : p < 0
  · go_enter Tryz.func35, Tryz.ntmps35
    go_wp2
    exact bodyPost_ret (v := .agg #[.int .i32 0, .int .i64 0]) (by simp [results, Tryz.results35, go_sem]) rfl ⟨rfl, (Below.refl _ _).alloc (Nat.le_refl _) _⟩
  · have g' : (s.size : Int) ≤ p := by omega
    go_enter Tryz.func35, Tryz.ntmps35
    go_wp2
    exact bodyPost_ret (v := .agg #[.int .i32 0, .int .i64 0]) (by simp [results, Tryz.results35, go_sem]) rfl ⟨rfl, (Below.refl _ _).alloc (Nat.le_refl _) _⟩
set_option maxHeartbeats 2000000 in
set_option maxRecDepth 100000 in
theorem step_in (s : ByteArray) (p : Nat) (w : World) (hs : s.size ≤ 1000000000) (hp : p < s.size) :
    Calls Tryz.prog 35 #[.string s, .int .i64 p] w fun e w' => e = .returned (.agg #[.int .i32 (Utf8.decode s p).1, .int .i64 (Utf8.decode s p).2]) ∧ Below w.heap.size w w' := by
  have b1 : decide ((p : Int) < 0) = false := decide_eq_false (by omega)
  have b2 : decide (s.size ≤ p) = false := decide_eq_false (by omega)
  have b3 : decide ((s.size : Int) ≤ p) = false := decide_eq_false (by omega)
  go_enter Tryz.func35, Tryz.ntmps35
  go_wp2
  go_loopg [5, 6, 7] 5 (fun g v x y wr => ∃ k : Nat, v = .int .i64 k ∧ 1 ≤ k ∧ k ≤ 5 ∧ 5 - k ≤ g ∧ Below (w.heap.size + 1) (w.alloc (.cells #[.int .i32 0, .int .i64 0] 71)) wr ∧ ∀ i, i < k → ¬ Mt s p i)
  case atStart => exact ⟨1, rfl, by omega, by omega, by omega, Below.refl _ _, fun i hi h => by have := h.1; omega⟩
  case round =>
    obtain ⟨k, rfl, i0, i1, i2, hb, hno⟩ := hrel
    have HN := Lib.hid hno; clear hno
    have hB0 : Below w.heap.size w wr := ((Below.refl _ _).alloc (Nat.le_refl _) _).trans (hb.mono (by omega))
    have q0 : wr.cell? ⟨w.heap.size, 0, none⟩ = some (.int .i32 0) := by
      rw [hb.cell (p := ⟨w.heap.size, 0, none⟩) (by simp), cell_of_row _ _ _ _ _ _ (heap_alloc_new w _)]; rfl
    have q1 : wr.cell? ⟨w.heap.size, 1, none⟩ = some (.int .i64 0) := by
      rw [hb.cell (p := ⟨w.heap.size, 1, none⟩) (by simp), cell_of_row _ _ _ _ _ _ (heap_alloc_new w _)]; rfl
    have f0 : ∀ i, wr.frozen? ⟨w.heap.size, i, none⟩ = false := fun i => by
      rw [hb.frozen (p := ⟨w.heap.size, i, none⟩) (by simp)]; unfold World.frozen?; rw [heap_alloc_new w _]; simp
    by_cases g1 : k ≤ 4
    · by_cases g2 : p + k ≤ s.size
      · have z1 : (k : Int) ≤ (s.size : Int) - p := by omega
        have z2 : (p : Int) + k ≤ s.size := by omega
        have z3 : (0 : Int) ≤ p := by omega
        have z4 : (p : Int) ≤ (p : Int) + k := by omega
        have hM : Mt s p k ↔ (1 ≤ k ∧ k ≤ 4 ∧ p + k ≤ s.size ∧ rsz (numAt s p k) = k ∧ Lib.encodeRune (numAt s p k) = (bcutAt s p k).data.toList) := Iff.rfl
        have hMd := Mt.decode (s := s) (p := p) (n := k)
        have C := Lib.hid fun W => number_any s p k W i0 g1 g2
        generalize hr : numAt s p k = r at *
        generalize hc : bcutAt s p k = t at *
        unfold bcutAt at hc
        have HC := Lib.hid hc; clear hc
        have HR := Lib.hid hr; clear hr
        have D := Lib.hid fun W => rsize_any r W
        have E := Lib.hid fun (W : World) (h : rsz r = k) => one_any r k W h (by omega)
        by_cases hrk : rsz r = k
        · have hE := E.out
          by_cases he : Lib.encodeRune r = t.data.toList
          · -- it matches
            obtain ⟨d0, d1, d2⟩ := hMd (hM.2 ⟨i0, g1, g2, hrk, he⟩)
            have heq : (Lib.encodeRune r == t.toList) = true := by
              rw [ByteArray.toList_eq, beq_iff_eq]; exact he
            have HQ := Lib.hid heq; clear heq
            have HD1 := Lib.hid d1
            have HD2 := Lib.hid d2
            have HE := Lib.hid fun W => E.out W hrk
            clear hM hMd d1 d2 E hE he
            go_wp2_with fail
            rw [HC.out]
            refine (C.out _).mono ?_
            rintro e w1 ⟨rfl, rfl⟩
            go_wp2_with fail
            refine (D.out _).mono ?_
            rintro e w1 ⟨rfl, rfl⟩
            rw [hrk]
            go_wp2_with fail
            refine (HE.out _).mono ?_
            rintro e w2 ⟨rfl, hb2⟩
            have hszr : w.heap.size + 1 ≤ w1.heap.size := by have := hb.size; simpa using this
            have p0 : w2.cell? ⟨w.heap.size, 0, none⟩ = some (.int .i32 0) := (hb2.cell (p := ⟨w.heap.size, 0, none⟩) (by show w.heap.size < _; omega)).trans q0
            have p1 : w2.cell? ⟨w.heap.size, 1, none⟩ = some (.int .i64 0) := (hb2.cell (p := ⟨w.heap.size, 1, none⟩) (by show w.heap.size < _; omega)).trans q1
            have pf : ∀ i, w2.frozen? ⟨w.heap.size, i, none⟩ = false := fun i => (hb2.frozen (p := ⟨w.heap.size, i, none⟩) (by show w.heap.size < _; omega)).trans (f0 i)
            have heq := HQ.out
            go_wp2_with fail
            exact bodyPost_ret (v := .agg #[.int .i32 r, .int .i64 k]) (by simp [results, Tryz.results35, go_sem, p0, p1]) rfl ⟨by rw [HD1.out, HD2.out], ((hB0.trans (hb2.mono hB0.size)).setCell (p := ⟨w.heap.size, 0, none⟩) (Nat.le_refl _) _).setCell (p := ⟨w.heap.size, 1, none⟩) (Nat.le_refl _) _⟩
          · have hno := fun hh => he (hM.1 hh).2.2.2.2
            have heq : (Lib.encodeRune r == t.toList) = false := by
              rw [ByteArray.toList_eq, beq_eq_false_iff_ne]; exact he
            have HQ := Lib.hid heq; clear heq
            have HX := Lib.hid hno; clear hno
            have HE := Lib.hid fun W => E.out W hrk
            clear hM hMd E hE he
            go_wp2_with fail
            rw [HC.out]
            refine (C.out _).mono ?_
            rintro e w1 ⟨rfl, rfl⟩
            go_wp2_with fail
            refine (D.out _).mono ?_
            rintro e w1 ⟨rfl, rfl⟩
            rw [hrk]
            go_wp2_with fail
            refine (HE.out _).mono ?_
            rintro e w2 ⟨rfl, hb2⟩
            have heq := HQ.out
            go_wp2_with fail
            go_roundg (gk - 1)
            case measure => omega
            case rel => exact ⟨k + 1, by go_num, by omega, by omega, by omega, hb.trans (hb2.mono (by have := hb.size; simpa using this)), fun i hi => by
              by_cases e : i < k
              · exact HN.out i e
              · obtain rfl : i = k := by omega
                exact HX.out⟩
        · have hno := fun hh => hrk (hM.1 hh).2.2.2.1
          have HX := Lib.hid hno; clear hno
          have hne : (rsz r == (k : Int)) = false := by simpa using hrk
          generalize rsz r = x at *
          clear hM hMd E
          go_wp2_with fail
          rw [HC.out]
          refine (C.out _).mono ?_
          rintro e w1 ⟨rfl, rfl⟩
          go_wp2_with fail
          refine (D.out _).mono ?_
          rintro e w1 ⟨rfl, rfl⟩
          go_wp2_with fail
          go_roundg (gk - 1)
          case measure => omega
          case rel => exact ⟨k + 1, by go_num, by omega, by omega, by omega, hb, fun i hi => by
              by_cases e : i < k
              · exact HN.out i e
              · obtain rfl : i = k := by omega
                exact HX.out⟩
      · have z1 : ¬ (k : Int) ≤ (s.size : Int) - p := by omega
        have z5 : (s.size : Int) - p < k := by omega
        have herr := decode_error hp (fun n n1 n4 n5 => HN.out n (by omega))
        have HE := Lib.hid herr; clear herr
        go_wp2_with fail
        exact bodyPost_ret (v := .agg #[.int .i32 65533, .int .i64 1]) (by simp [results, Tryz.results35, go_sem, q0, q1]) rfl ⟨by rw [HE.out.1, HE.out.2]; rfl, (hB0.setCell (p := ⟨w.heap.size, 0, none⟩) (Nat.le_refl _) _).setCell (p := ⟨w.heap.size, 1, none⟩) (Nat.le_refl _) _⟩
    · have hk : k = 5 := by omega
      subst hk
      have herr := decode_error hp (fun n n1 n4 n5 => HN.out n (by omega))
      have HE := Lib.hid herr; clear herr
      go_wp2_with fail
      exact bodyPost_ret (v := .agg #[.int .i32 65533, .int .i64 1]) (by simp [results, Tryz.results35, go_sem, q0, q1]) rfl ⟨by rw [HE.out.1, HE.out.2]; rfl, (hB0.setCell (p := ⟨w.heap.size, 0, none⟩) (Nat.le_refl _) _).setCell (p := ⟨w.heap.size, 1, none⟩) (Nat.le_refl _) _⟩
end Go.Proofs.YtaemndioleofjaaGreat
