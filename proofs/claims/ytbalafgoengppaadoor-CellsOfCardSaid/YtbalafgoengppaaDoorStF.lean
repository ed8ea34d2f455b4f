/- Stops: a cell's place: the contract of Place. -/
import Derived.Test.YtbalafgoengppaaDoorStE
namespace Go.Proofs.YtbalafgoengppaaDoor
open Go.RowKit
set_option linter.unusedVariables false
theorem sPlace_bad (tv : Value) (A : Option Addr) (n c : Nat) (tab q : Int) (w : World) (h : ¬ (1 ≤ tab ∧ tab ≤ 16)) :
    Calls Tryd.prog 21 #[tv, .slice A n c, .agg #[.int .i64 tab, .int .i64 q]] w fun e w' => e = .returned (.tuple #[.int .i64 0, .int .i64 0, .int .i64 1]) ∧ Below w.heap.size w w' := by
  have CN := Lib.hid fun W => stRight_no tab W h
  have R1 : RawAt 37 (w.alloc (.cells #[.int .i64 tab, .int .i64 q] 37)) w.heap.size #[.int .i64 tab, .int .i64 q] := heap_alloc_new w _
  have x1 : Below w.heap.size w (w.alloc (.cells #[.int .i64 tab, .int .i64 q] 37)) := (Below.refl _ _).alloc (Nat.le_refl _) _
  have c0 := RawAt.cell R1 0
  simp at c0
  clear h R1
  go_enter Tryd.func21, Tryd.ntmps21
  go_wp2_with fail
  with_reducible refine (CN.out _).mono ?_
  rintro e w1 ⟨rfl, rfl⟩
  go_wp2
  refine bodyPost_ret (v := .tuple #[.int .i64 0, .int .i64 0, .int .i64 1]) (by simp [results, Tryd.results21, go_sem]) rfl ⟨rfl, x1⟩
def PlRes (d : List Int) (q : Int) (e : Ending) : Prop := (q < 0 ∨ d.sum < q) ∧ e = .returned (.tuple #[.int .i64 0, .int .i64 0, .int .i64 1]) ∨ 0 ≤ q ∧ q ≤ d.sum ∧ ∃ p : Nat, PlaceIs d q p ∧ e = .returned (.tuple #[.int .i64 (p : Int), .int .i64 (q - (d.take p).sum), .int .i64 0])
set_option maxHeartbeats 4000000 in
set_option maxRecDepth 100000 in
theorem sPlace_any (tv : Value) (f : Int → Int) (A : Option Addr) (n c : Nat) (l : List Int) (tab q : Int) (w : World) (hT : TabV w tv f) (hA : IntsAt .i32 w A l) (hl : l.length = n) (hn : n ≤ 1000000) (h1 : 1 ≤ tab) (h2 : tab ≤ 16) :
    Calls Tryd.prog 21 #[tv, .slice A n c, .agg #[.int .i64 tab, .int .i64 q]] w fun e w' => PlRes (szs f tab 0 l) q e ∧ Below w.heap.size w w' := by
  have CR := Lib.hid fun W => stRight_yes tab W h1 h2
  have hmf : ∀ (fn : Fn) (first cap : Array Value) (w : World), (Instr.makeFunc fn first cap).run Tryd.prog w = .ok (.func fn first cap) w := fun _ _ _ _ => rfl
  have HE := Lib.hid fun (w0 : World) (h0 : PlAt w.heap.size tab q [] w0 ∧ Below w.heap.size w w0) => stEach_any 39 #[.pointer (some ⟨w.heap.size + 3, 0, none⟩), .pointer (some ⟨w.heap.size, 0, none⟩), .pointer (some ⟨w.heap.size + 1, 0, none⟩), .pointer (some ⟨w.heap.size + 2, 0, none⟩)] tv f A n c l tab (fun d W => PlAt w.heap.size tab q d W ∧ Below w.heap.size w W) w0 hT.bd h1 h2 hK_pl hl hn
    (fun d W h => hA.below h.2) (fun d W W' h hb => ⟨h.1.keep hb, h.2.trans (hb.mono h.2.size)⟩) (fun d W r h => tabV_of (hT.below h.2) r)
    (fun d x r W hd h => by
      have hle := congrArg List.length hd
      rw [szs_length, List.length_append] at hle
      obtain ⟨g1, g2⟩ := szs_bd hT.bd h1 h2 l 0 (by omega)
      rw [← hd] at g1
      have gx := g1 x (by simp)
      have gd : ∀ y ∈ d, 0 ≤ y ∧ y ≤ 16 := fun y hy => g1 y (by simp [hy])
      exact (plC_any w.heap.size tab q d x W h.1 gd (by omega) gx.1 gx.2).mono fun e w' ⟨he, hs, hw⟩ => ⟨he, hs, h.2.trans hw⟩) h0
  have hlen := szs_length f tab l 0
  obtain ⟨hbd, _, hsum⟩ := szs_bd hT.bd h1 h2 l 0 (by omega)
  rw [hl] at hlen hsum
  have HBD := Lib.hid hbd
  have x1 : Below w.heap.size w (w.alloc (.cells #[.int .i64 tab, .int .i64 q] 37)) := (Below.refl _ _).alloc (Nat.le_refl _) _
  have R1 : RawAt 37 (w.alloc (.cells #[.int .i64 tab, .int .i64 q] 37)) w.heap.size #[.int .i64 tab, .int .i64 q] := heap_alloc_new w _
  have c0 := RawAt.cell R1 0
  simp at c0
  have HT0 : Hid (PlAt w.heap.size tab q [] ((((w.alloc (.cells #[.int .i64 tab, .int .i64 q] 37)).alloc (.cells #[.int .i64 0] 3)).alloc (.cells #[.int .i64 0] 3)).alloc (.cells #[.int .i64 0] 3)) ∧ Below w.heap.size w ((((w.alloc (.cells #[.int .i64 tab, .int .i64 q] 37)).alloc (.cells #[.int .i64 0] 3)).alloc (.cells #[.int .i64 0] 3)).alloc (.cells #[.int .i64 0] 3))) := Lib.hid (by
    have y1 := x1.alloc x1.size (.cells #[.int .i64 0] 3)
    have y2 := y1.alloc y1.size (.cells #[.int .i64 0] 3)
    have y3 := y2.alloc y2.size (.cells #[.int .i64 0] 3)
    have k1 : RawAt 3 ((w.alloc (.cells #[.int .i64 tab, .int .i64 q] 37)).alloc (.cells #[.int .i64 0] 3)) (w.heap.size + 1) #[.int .i64 0] := by have := heap_alloc_new (w.alloc (.cells #[.int .i64 tab, .int .i64 q] 37)) (.cells #[.int .i64 0] 3); simpa [RawAt] using this
    have k2 : RawAt 3 (((w.alloc (.cells #[.int .i64 tab, .int .i64 q] 37)).alloc (.cells #[.int .i64 0] 3)).alloc (.cells #[.int .i64 0] 3)) (w.heap.size + 2) #[.int .i64 0] := by have := heap_alloc_new ((w.alloc (.cells #[.int .i64 tab, .int .i64 q] 37)).alloc (.cells #[.int .i64 0] 3)) (.cells #[.int .i64 0] 3); simpa [RawAt] using this
    have k3 : RawAt 3 ((((w.alloc (.cells #[.int .i64 tab, .int .i64 q] 37)).alloc (.cells #[.int .i64 0] 3)).alloc (.cells #[.int .i64 0] 3)).alloc (.cells #[.int .i64 0] 3)) (w.heap.size + 3) #[.int .i64 0] := by have := heap_alloc_new (((w.alloc (.cells #[.int .i64 tab, .int .i64 q] 37)).alloc (.cells #[.int .i64 0] 3)).alloc (.cells #[.int .i64 0] 3)) (.cells #[.int .i64 0] 3); simpa [RawAt] using this
    have al : ∀ (W : World) (o : Obj), Below W.heap.size W (W.alloc o) := fun W o => (Below.refl _ _).alloc (Nat.le_refl _) _
    exact ⟨⟨((R1.below (al _ _) R1.lt).below (al _ _) (R1.below (al _ _) R1.lt).lt).below (al _ _) ((R1.below (al _ _) R1.lt).below (al _ _) (R1.below (al _ _) R1.lt).lt).lt, ⟨0, 0, PlSt.nil q, (k1.below (al _ _) k1.lt).below (al _ _) (k1.below (al _ _) k1.lt).lt, k2.below (al _ _) k2.lt⟩, k3⟩, y3⟩)
  clear hT hA hl R1 hbd
  go_enter Tryd.func21, Tryd.ntmps21
  go_wp2_with fail
  with_reducible refine (CR.out _).mono ?_
  rintro e w1 ⟨rfl, rfl⟩
  clear x1
  go_wp2_with fail
  generalize (((w.alloc (.cells #[.int .i64 tab, .int .i64 q] 37)).alloc (.cells #[.int .i64 0] 3)).alloc (.cells #[.int .i64 0] 3)).alloc (.cells #[.int .i64 0] 3) = W1 at *
  have HE1 := Lib.hid (HE.out W1 HT0.out)
  have d0 : True := trivial
  with_reducible refine (HE1.out).mono ?_
  rintro e w5 ⟨rfl, ⟨hA5, ⟨p, cell, hp, hP5, hC5⟩, hE5⟩, hb5⟩
  have a5 := RawAt.cell hA5 1
  have p5 := RawAt.cell hP5 0
  have c5 := RawAt.cell hC5 0
  have e5 := RawAt.cell hE5 0
  simp at a5 p5 c5 e5
  obtain ⟨hp1, hp2, hp3, hp4⟩ := hp
  have HP2 := Lib.hid hp2
  have HP3 := Lib.hid hp3
  have HB5 := Lib.hid hb5
  have hcb : 0 ≤ cell ∧ cell ≤ 16000000 := by
    have g1 := sum_take_le (szs f tab 0 l) 0 p (fun y hy => (HBD.out y hy).1) (by omega)
    have g2 := sum_take_le (szs f tab 0 l) p (szs f tab 0 l).length (fun y hy => (HBD.out y hy).1) hp1
    rw [List.take_of_length_le (Nat.le_refl _)] at g2
    simp at g1
    omega
  have hs16 : (szs f tab 0 l).sum ≤ 16000000 := by omega
  obtain ⟨s, hs⟩ : ∃ s, s = (szs f tab 0 l).sum := ⟨_, rfl⟩
  have HS := Lib.hid hs
  rw [← hs] at e5 hs16
  clear hp2 hp3 hp4 hb5 hA5 hP5 hC5 hE5 HT0 HE1 d0 c0 HE CR HBD hsum hs hlen
  by_cases g1 : q < 0
  · have k1 : decide (q < 0) = true := decide_eq_true g1
    go_wp2
    refine bodyPost_ret (v := .tuple #[.int .i64 0, .int .i64 0, .int .i64 1]) (by simp [results, Tryd.results21, go_sem]) rfl ⟨.inl ⟨.inl g1, rfl⟩, HB5.out⟩
  · have k1 : decide (q < 0) = false := decide_eq_false g1
    by_cases g2 : s < q
    · have k2 : decide (s < q) = true := decide_eq_true g2
      go_wp2
      refine bodyPost_ret (v := .tuple #[.int .i64 0, .int .i64 0, .int .i64 1]) (by simp [results, Tryd.results21, go_sem]) rfl ⟨.inl ⟨.inr (by rw [← HS.out]; exact g2), rfl⟩, HB5.out⟩
    · have k2 : decide (s < q) = false := decide_eq_false g2
      have hq : q ≤ 16000000 := by omega
      have hw : IntKind.i64.wrap (q - cell) = q - cell := IntWalk.i64_in _ (by omega)
      go_wp2_with fail
      go_region
      go_wp2
      refine bodyPost_ret (v := .tuple #[.int .i64 (p : Int), .int .i64 (q - cell), .int .i64 0]) (by simp [results, Tryd.results21, go_sem]) rfl ⟨.inr ⟨by omega, by rw [← HS.out]; omega, p, HP3.out (by omega), by rw [HP2.out]⟩, HB5.out.drew⟩
end Go.Proofs.YtbalafgoengppaaDoor
