/- Which patches are sound, and the least one: the program's. -/
import Derived.Test.YtebjkgeldjgnfaaDfC
namespace Go.Proofs.Ytebjkgeldjgnfaa
open Go.RowKit
set_option linter.unusedVariables false
/-- What along hands over, in memory. -/
def ClAt (w : World) (k1 k2 k3 : Nat) (a b s : Int) : Prop := RawAt 3 w k1 #[.int .i64 a] ∧ RawAt 3 w k2 #[.int .i64 s] ∧ RawAt 3 w k3 #[.int .i64 b]
theorem ClAt.below {w w' : World} {k1 k2 k3 : Nat} {a b s : Int} (h : ClAt w k1 k2 k3 a b s) (hb : Below w.heap.size w w') : ClAt w' k1 k2 k3 a b s :=
  ⟨RawAt.below h.1 hb (RawAt.lt h.1), RawAt.below h.2.1 hb (RawAt.lt h.2.1), RawAt.below h.2.2 hb (RawAt.lt h.2.2)⟩
abbrev clK (k1 k2 k3 : Nat) : Value := .func (.func 29) #[] #[.pointer (some ⟨k1, 0, none⟩), .pointer (some ⟨k2, 0, none⟩), .pointer (some ⟨k3, 0, none⟩)]
theorem dAlong_cl (a b s : Int) (w : World) :
    Calls Try.prog 25 #[.int .i64 a, .int .i64 b, .int .i64 s] w fun e w' => ∃ k1 k2 k3, e = .returned (clK k1 k2 k3) ∧ ClAt w' k1 k2 k3 a b s ∧ Below w.heap.size w w' := by
  refine (dAlong_any a b s w).mono ?_
  rintro e w' ⟨rfl, rfl⟩
  have x1 : Below w.heap.size w (w.alloc (.cells #[.int .i64 a] 3)) := (Below.refl _ _).alloc (Nat.le_refl _) _
  have R1 : RawAt 3 (w.alloc (.cells #[.int .i64 a] 3)) w.heap.size #[.int .i64 a] := heap_alloc_new w _
  have z1 : (w.alloc (.cells #[.int .i64 a] 3)).heap.size = w.heap.size + 1 := by simp
  generalize w.alloc (.cells #[.int .i64 a] 3) = w1 at *
  have x2 : Below w1.heap.size w1 (w1.alloc (.cells #[.int .i64 b] 3)) := (Below.refl _ _).alloc (Nat.le_refl _) _
  have R2 : RawAt 3 (w1.alloc (.cells #[.int .i64 b] 3)) w1.heap.size #[.int .i64 b] := heap_alloc_new w1 _
  have z2 : (w1.alloc (.cells #[.int .i64 b] 3)).heap.size = w1.heap.size + 1 := by simp
  generalize w1.alloc (.cells #[.int .i64 b] 3) = w2 at *
  have x3 : Below w2.heap.size w2 (w2.alloc (.cells #[.int .i64 s] 3)) := (Below.refl _ _).alloc (Nat.le_refl _) _
  have R3 : RawAt 3 (w2.alloc (.cells #[.int .i64 s] 3)) w2.heap.size #[.int .i64 s] := heap_alloc_new w2 _
  rw [z2, z1] at R3
  rw [z1] at R2
  have hb := (x1.trans (x2.mono x1.size)).trans (x3.mono (x1.trans (x2.mono x1.size)).size)
  exact ⟨_, _, _, rfl, ⟨RawAt.below (RawAt.below R1 x2 (RawAt.lt R1)) x3 (RawAt.lt (RawAt.below R1 x2 (RawAt.lt R1))), R3, RawAt.below R2 x3 (RawAt.lt R2)⟩, hb⟩
theorem dAlikeF (A B : Option Addr) (n c m d : Nat) (l o : List Rw) (N : Nat) (r : Nat) (hr : Alk (PF l o) N r) (w W : World) (hW : Below w.heap.size w W) (hA : RowsAt encR 7 w A l) (hl : l.length = n) (hB : RowsAt encR 7 w B o) (hy : o.length = m) (okl : ∀ s ∈ l, RwOk w s ∧ s.n ≤ 9223372036854775807) (oko : ∀ s ∈ o, RwOk w s ∧ s.n ≤ 9223372036854775807) (hn : n ≤ 9223372036854775807) (hm : m ≤ 9223372036854775807) (hN : N ≤ n ∧ N ≤ m) (k1 k2 k3 : Nat) (hC : ClAt W k1 k2 k3 0 0 1) :
    Calls Try.prog 24 #[.slice A n c, .slice B m d, .int .i64 N, clK k1 k2 k3] W fun e w' => e = .returned (.int .i64 r) ∧ Below W.heap.size W w' := by
  refine dAlike_any A B n c m d l o N (fun i => i) (fun i => i) _ _ _ _ rfl r hr W (hA.below hW) hl (hB.below hW) hy (fun s hs => ⟨(okl s hs).1.below hW, (okl s hs).2⟩) (fun s hs => ⟨(oko s hs).1.below hW, (oko s hs).2⟩) (fun i hi => ⟨by omega, by omega⟩) (by omega) hn hm ?_
  intro i hi V hV
  have h := hC.below hV
  exact dAlongC_any k1 k2 k3 0 0 1 i i i i (by rw [Int.mul_one]; exact IntWalk.i64_in _ (by omega)) (by rw [Int.zero_add]; exact IntWalk.i64_in _ (by omega)) (by rw [Int.zero_add]; exact IntWalk.i64_in _ (by omega)) V (RawAt.cell h.1 0) (RawAt.cell h.2.1 0) (RawAt.cell h.2.2 0)
theorem dAlikeB (A B : Option Addr) (n c m d : Nat) (l o : List Rw) (N : Nat) (r : Nat) (hr : Alk (PB l o) N r) (w W : World) (hW : Below w.heap.size w W) (hA : RowsAt encR 7 w A l) (hl : l.length = n) (hB : RowsAt encR 7 w B o) (hy : o.length = m) (okl : ∀ s ∈ l, RwOk w s ∧ s.n ≤ 9223372036854775807) (oko : ∀ s ∈ o, RwOk w s ∧ s.n ≤ 9223372036854775807) (hn : n ≤ 9223372036854775807) (hm : m ≤ 9223372036854775807) (hN : N ≤ n ∧ N ≤ m) (k1 k2 k3 : Nat) (hC : ClAt W k1 k2 k3 ((n : Int) - 1) ((m : Int) - 1) (-1)) :
    Calls Try.prog 24 #[.slice A n c, .slice B m d, .int .i64 N, clK k1 k2 k3] W fun e w' => e = .returned (.int .i64 r) ∧ Below W.heap.size W w' := by
  refine dAlike_any A B n c m d l o N (fun i => n - 1 - i) (fun i => m - 1 - i) _ _ _ _ rfl r (by rw [← hl, ← hy]; exact hr) W (hA.below hW) hl (hB.below hW) hy (fun s hs => ⟨(okl s hs).1.below hW, (okl s hs).2⟩) (fun s hs => ⟨(oko s hs).1.below hW, (oko s hs).2⟩) (fun i hi => ⟨by omega, by omega⟩) (by omega) hn hm ?_
  intro i hi V hV
  have h := hC.below hV
  exact dAlongC_any k1 k2 k3 ((n : Int) - 1) ((m : Int) - 1) (-1) i (-i) ((n - 1 - i : Nat) : Int) ((m - 1 - i : Nat) : Int) (by rw [Int.mul_neg, Int.mul_one]; exact IntWalk.i64_in _ (by omega)) (by rw [show (n : Int) - 1 + -(i : Int) = ((n - 1 - i : Nat) : Int) from by omega]; exact IntWalk.i64_in _ (by omega)) (by rw [show (m : Int) - 1 + -(i : Int) = ((m - 1 - i : Nat) : Int) from by omega]; exact IntWalk.i64_in _ (by omega)) V (RawAt.cell h.1 0) (RawAt.cell h.2.1 0) (RawAt.cell h.2.2 0)
set_option maxHeartbeats 4000000 in
set_option maxRecDepth 100000 in
theorem dLeast_any (A B : Option Addr) (n c m d : Nat) (l o : List Rw) (p : Rp) (hp : Lst l o p) (w : World) (hA : RowsAt encR 7 w A l) (hl : l.length = n) (hB : RowsAt encR 7 w B o) (hy : o.length = m) (okl : ∀ s ∈ l, RwOk w s ∧ s.n ≤ 9223372036854775807) (oko : ∀ s ∈ o, RwOk w s ∧ s.n ≤ 9223372036854775807) (hn : n ≤ 9223372036854775807) (hm : m ≤ 9223372036854775807) :
    Calls Try.prog 17 #[.slice A n c, .slice B m d] w fun e w' => e = .returned (.agg #[.int .i64 p.a, .int .i64 p.b, .int .i64 p.c, .int .i64 p.d]) ∧ Below w.heap.size w w' := by
  obtain ⟨r1, r2, hr1, hr2, rfl⟩ := hp
  rw [hl, hy] at hr1 hr2
  simp only [hl, hy]
  have q1 := hr1.1
  have q2 := hr2.1
  have CF := Lib.hid fun W (hW : Below w.heap.size w W) k1 k2 k3 (hC : ClAt W k1 k2 k3 0 0 1) => dAlikeF A B n c m d l o (min n m) r1 hr1 w W hW hA hl hB hy okl oko hn hm ⟨by omega, by omega⟩ k1 k2 k3 hC
  have CB := Lib.hid fun W (hW : Below w.heap.size w W) k1 k2 k3 (hC : ClAt W k1 k2 k3 ((n : Int) - 1) ((m : Int) - 1) (-1)) => dAlikeB A B n c m d l o (min n m - r1) r2 hr2 w W hW hA hl hB hy okl oko hn hm ⟨by omega, by omega⟩ k1 k2 k3 hC
  clear hr1 hr2 hA hl hB hy okl oko
  obtain ⟨M, hM⟩ : ∃ M, M = min n m := ⟨_, rfl⟩
  have e1 : min (n : Int) (m : Int) = (M : Int) := by omega
  rw [← hM] at CF CB q1 q2
  have e2 : IntKind.i64.wrap ((M : Int) - r1) = ((M - r1 : Nat) : Int) := by rw [show (M : Int) - r1 = ((M - r1 : Nat) : Int) from by omega]; exact IntWalk.i64_in _ (by omega)
  have e3 : IntKind.i64.wrap ((n : Int) - 1) = (n : Int) - 1 := IntWalk.i64_in _ (by omega)
  have e4 : IntKind.i64.wrap ((m : Int) - 1) = (m : Int) - 1 := IntWalk.i64_in _ (by omega)
  have e5 : IntKind.i64.wrap ((n : Int) - r2) = (n : Int) - r2 := IntWalk.i64_in _ (by omega)
  have e6 : IntKind.i64.wrap ((m : Int) - r2) = (m : Int) - r2 := IntWalk.i64_in _ (by omega)
  have hz : (.agg #[.int .i64 0, .int .i64 0, .int .i64 0, .int .i64 0] : Value) = .agg #[.int .i64 0, .int .i64 0, .int .i64 0, .int .i64 0] := rfl
  have x0 : Below w.heap.size w (w.alloc (.cells #[.int .i64 0, .int .i64 0, .int .i64 0, .int .i64 0] 28)) := (Below.refl _ _).alloc (Nat.le_refl _) _
  have HX := Lib.hid x0
  have R0 : Hid (RawAt 28 (w.alloc (.cells #[.int .i64 0, .int .i64 0, .int .i64 0, .int .i64 0] 28)) w.heap.size #[.int .i64 0, .int .i64 0, .int .i64 0, .int .i64 0]) := Lib.hid (heap_alloc_new w _)
  clear x0 hz
  by_cases g : m < n
  · have eM : m = M := by omega
    subst eM
    clear hM
    have g1 : decide ((m : Int) < (n : Int)) = true := decide_eq_true (by omega)
    have g2 : decide ((n : Int) < (m : Int)) = false := decide_eq_false (by omega)
    have g3 : decide ((n : Int) ≤ (m : Int)) = false := decide_eq_false (by omega)
    have g4 : decide ((m : Int) ≤ (n : Int)) = true := decide_eq_true (by omega)
    go_enter Try.func17, Try.ntmps17
    go_wp2_with fail
    generalize hW0 : w.alloc (.cells #[.int .i64 0, .int .i64 0, .int .i64 0, .int .i64 0] 28) = w0 at *
    with_reducible refine (dAlong_cl 0 0 1 _).mono ?_
    rintro e w1 ⟨k1, k2, k3, rfl, hC1, hb1⟩
    have HB1 := Lib.hid (HX.out.trans (hb1.mono HX.out.size))
    have R1 := Lib.hid (RawAt.below R0.out hb1 (RawAt.lt R0.out))
    clear hb1 R0
    go_wp2_with fail
    with_reducible refine (CF.out _ HB1.out _ _ _ hC1).mono ?_
    rintro e w2 ⟨rfl, hb2⟩
    have HB2 := Lib.hid (HB1.out.trans (hb2.mono HB1.out.size))
    have R2 := Lib.hid (RawAt.below R1.out hb2 (RawAt.lt R1.out))
    clear hb2 R1
    go_wp2_with fail
    with_reducible refine (dAlong_cl ((n : Int) - 1) ((m : Int) - 1) (-1) _).mono ?_
    rintro e w3 ⟨j1, j2, j3, rfl, hC3, hb3⟩
    have HB3 := Lib.hid (HB2.out.trans (hb3.mono HB2.out.size))
    have R3 := Lib.hid (RawAt.below R2.out hb3 (RawAt.lt R2.out))
    clear hb3 R2
    go_wp2_with fail
    with_reducible refine (CB.out _ HB3.out _ _ _ hC3).mono ?_
    rintro e w4 ⟨rfl, hb4⟩
    have HB4 := Lib.hid (HB3.out.trans (hb4.mono HB3.out.size))
    have R4 := RawAt.below R3.out hb4 (RawAt.lt R3.out)
    clear hb4 R3
    have f0 := RawAt.free R4 0
    have f1 := RawAt.free R4 1
    have f2 := RawAt.free R4 2
    have f3 := RawAt.free R4 3
    have c0 := RawAt.cell R4 0
    have c1 := RawAt.cell R4 1
    have c2 := RawAt.cell R4 2
    have c3 := RawAt.cell R4 3
    simp at c0 c1 c2 c3
    go_wp2
    have R5 := RawAt.set_ (RawAt.set_ (RawAt.set_ (RawAt.set_ R4 0 (.int .i64 r1)) 1 (.int .i64 (n - r2))) 2 (.int .i64 r1)) 3 (.int .i64 (m - r2))
    have p0 := RawAt.cell R5 0
    have p1 := RawAt.cell R5 1
    have p2 := RawAt.cell R5 2
    have p3 := RawAt.cell R5 3
    simp at p0 p1 p2 p3
    refine bodyPost_ret (v := .agg #[.int .i64 r1, .int .i64 (n - r2), .int .i64 r1, .int .i64 (m - r2)]) (by simp [results, Try.results17, go_sem, p0, p1, p2, p3]) rfl ⟨rfl, ?_⟩
    exact (((HB4.out.setCell (Nat.le_refl _) _).setCell (Nat.le_refl _) _).setCell (Nat.le_refl _) _).setCell (Nat.le_refl _) _
  · have eM : n = M := by omega
    subst eM
    clear hM
    have g1 : decide ((m : Int) < (n : Int)) = false := decide_eq_false (by omega)
    have g3 : decide ((n : Int) ≤ (m : Int)) = true := decide_eq_true (by omega)
    go_enter Try.func17, Try.ntmps17
    go_wp2_with fail
    generalize hW0 : w.alloc (.cells #[.int .i64 0, .int .i64 0, .int .i64 0, .int .i64 0] 28) = w0 at *
    with_reducible refine (dAlong_cl 0 0 1 _).mono ?_
    rintro e w1 ⟨k1, k2, k3, rfl, hC1, hb1⟩
    have HB1 := Lib.hid (HX.out.trans (hb1.mono HX.out.size))
    have R1 := Lib.hid (RawAt.below R0.out hb1 (RawAt.lt R0.out))
    clear hb1 R0
    go_wp2_with fail
    with_reducible refine (CF.out _ HB1.out _ _ _ hC1).mono ?_
    rintro e w2 ⟨rfl, hb2⟩
    have HB2 := Lib.hid (HB1.out.trans (hb2.mono HB1.out.size))
    have R2 := Lib.hid (RawAt.below R1.out hb2 (RawAt.lt R1.out))
    clear hb2 R1
    go_wp2_with fail
    with_reducible refine (dAlong_cl ((n : Int) - 1) ((m : Int) - 1) (-1) _).mono ?_
    rintro e w3 ⟨j1, j2, j3, rfl, hC3, hb3⟩
    have HB3 := Lib.hid (HB2.out.trans (hb3.mono HB2.out.size))
    have R3 := Lib.hid (RawAt.below R2.out hb3 (RawAt.lt R2.out))
    clear hb3 R2
    go_wp2_with fail
    with_reducible refine (CB.out _ HB3.out _ _ _ hC3).mono ?_
    rintro e w4 ⟨rfl, hb4⟩
    have HB4 := Lib.hid (HB3.out.trans (hb4.mono HB3.out.size))
    have R4 := RawAt.below R3.out hb4 (RawAt.lt R3.out)
    clear hb4 R3
    have f0 := RawAt.free R4 0
    have f1 := RawAt.free R4 1
    have f2 := RawAt.free R4 2
    have f3 := RawAt.free R4 3
    have c0 := RawAt.cell R4 0
    have c1 := RawAt.cell R4 1
    have c2 := RawAt.cell R4 2
    have c3 := RawAt.cell R4 3
    simp at c0 c1 c2 c3
    go_wp2
    have R5 := RawAt.set_ (RawAt.set_ (RawAt.set_ (RawAt.set_ R4 0 (.int .i64 r1)) 1 (.int .i64 (n - r2))) 2 (.int .i64 r1)) 3 (.int .i64 (m - r2))
    have p0 := RawAt.cell R5 0
    have p1 := RawAt.cell R5 1
    have p2 := RawAt.cell R5 2
    have p3 := RawAt.cell R5 3
    simp at p0 p1 p2 p3
    refine bodyPost_ret (v := .agg #[.int .i64 r1, .int .i64 (n - r2), .int .i64 r1, .int .i64 (m - r2)]) (by simp [results, Try.results17, go_sem, p0, p1, p2, p3]) rfl ⟨rfl, ?_⟩
    exact (((HB4.out.setCell (Nat.le_refl _) _).setCell (Nat.le_refl _) _).setCell (Nat.le_refl _) _).setCell (Nat.le_refl _) _
end Go.Proofs.Ytebjkgeldjgnfaa
