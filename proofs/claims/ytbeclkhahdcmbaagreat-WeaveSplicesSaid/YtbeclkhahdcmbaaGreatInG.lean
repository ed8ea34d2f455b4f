/- Inlays: Splice and Shift of no set. -/
import Derived.Test.YtbeclkhahdcmbaaGreatInE
import Derived.Test.YtbeclkhahdcmbaaGreatInF
namespace Go.Proofs.YtbeclkhahdcmbaaGreat
open Go.RowKit Go.Sort
set_option linter.unusedVariables false
theorem nth_memI {l : List Int} {j : Nat} (h : j < l.length) : nth l j ∈ l := by
  have : nth l j = l[j] := by simp [nth, List.getD, h]
  rw [this]; exact List.getElem_mem h
set_option maxHeartbeats 8000000 in
set_option maxRecDepth 100000 in
theorem iSplice_nil_no (RA : Option Addr) (m c : Nat) (l : List Int) (w : World) (hR : IntsAt .i64 w RA l) (hl : l.length = m) (hm : 0 < m) (hwf : ∀ x ∈ l, (Lit.int .i64 x).wf = true) :
    Calls Tryz.prog 9 #[.pointer none, .slice RA m c, .slice none 0 0] w fun e w' => e = .returned (.tuple #[.pointer none, .int .i64 6]) ∧ Below w.heap.size w w' := by
  have hmm := @run_makeMap Tryz.prog
  have CA := Lib.hid (iAll_nil w)
  have HR := Lib.hid hR
  have HL := Lib.hid hl
  have HW := Lib.hid hwf
  clear hR hl hwf
  go_enter Tryz.func9, Tryz.ntmps9
  go_wp2_with fail
  with_reducible refine (CA.out).mono ?_
  rintro e1 w1 ⟨v1, rfl, o1, b1⟩
  obtain ⟨A1, c1, rfl, _, _, hC1⟩ := rows_of_own (o := ([] : List In)) encI_len (by omega) o1
  have B1 := Lib.hid b1
  have HC1 := Lib.hid hC1
  clear o1 b1 hC1 CA
  go_wp2_with fail
  have M1 := MapV.made (P := Tryz.prog) (K := 3) (kl := iklI) w1
  have x1 : Below w1.heap.size w1 (w1.alloc (.map #[] 0)) := (Below.refl _ _).alloc (Nat.le_refl _) _
  have x2 : Below (w1.alloc (.map #[] 0)).heap.size (w1.alloc (.map #[] 0)) ((w1.alloc (.map #[] 0)).alloc (.cells #[.map (some w1.heap.size)] 55)) := (Below.refl _ _).alloc (Nat.le_refl _) _
  have R2 : RawAt 55 ((w1.alloc (.map #[] 0)).alloc (.cells #[.map (some w1.heap.size)] 55)) (w1.alloc (.map #[] 0)).heap.size #[.map (some w1.heap.size)] := heap_alloc_new _ _
  rw [show (w1.alloc (.map #[] 0)).heap.size = w1.heap.size + 1 by simp] at R2
  have M2 := M1.below x2
  have Q2 := B1.out.trans ((x1.trans (x2.mono x1.size)).mono B1.out.size)
  obtain ⟨W2, hW2⟩ : ∃ W2, W2 = ((w1.alloc (.map #[] 0)).alloc (.cells #[.map (some w1.heap.size)] 55)) := ⟨_, rfl⟩
  rw [← hW2] at R2 M2 Q2 ⊢
  have e2 := RawAt.cell R2 0
  simp at e2
  have HW2 := Lib.hid hW2
  clear hW2 x1 x2 M1
  generalize w1.heap.size = mb at *
  have Q2 := Lib.hid Q2
  have R2 := Lib.hid R2
  have M2 := Lib.hid M2
  clear B1 HW2
  go_loopg [19] 0 (fun g i wr => i = .int .i64 0 ∧ wr = W2)
  case atStart => exact ⟨rfl, rfl⟩
  case round =>
    obtain ⟨rfl, rfl⟩ := hrel
    generalize hWr : wr = W3 at *
    have HWR := Lib.hid hWr
    clear hWr
    go_wp2_with fail
    obtain ⟨bA, off, rfl, hbA, hce⟩ := (HR.out.below Q2.out) (by rw [HL.out]; exact hm)
    have f0 := hce 0 (by rw [HL.out]; exact hm)
    rw [Nat.add_zero] at f0
    have hw0 : (Lit.int .i64 (nth l 0)).wf = true := HW.out _ (nth_memI (by rw [HL.out]; exact hm))
    have L4 := M2.out.look1 intK' Tryz.underlying55 (bool_zero _) (nth l 0) hw0
    simp only [Option.getD_none] at L4
    have HL4 := Lib.hid L4
    generalize nth l 0 = x0 at *
    have i2 : (0 : Int) < m := by omega
    have i3 : decide ((0 : Int) < (m : Int)) = true := decide_eq_true i2
    have i4 : decide (0 < m) = true := decide_eq_true hm
    clear L4 hce hw0
    go_loopg [29] 0 (fun g i wr => i = .int .i64 0 ∧ wr = W3)
    case atStart => exact ⟨rfl, rfl⟩
    case round =>
      obtain ⟨rfl, rfl⟩ := hrel
      go_wp2_with (at_lookup; refine wpList_lookV1 rfl (.tmp 33) (.tmp 34) _ rfl _ _ rfl rfl HL4.out ?_)
      go_ret2
      exact ⟨rfl, by first | exact Q2.out | (rw [HWR.out]; exact Q2.out)⟩
set_option maxHeartbeats 8000000 in
set_option maxRecDepth 100000 in
theorem iSplice_nil_yes (RA : Option Addr) (c : Nat) (w : World) :
    Calls Tryz.prog 9 #[.pointer none, .slice RA 0 c, .slice none 0 0] w fun e w' => ∃ sb, e = .returned (.tuple #[.pointer (some ⟨sb, 0, none⟩), .int .i64 0]) ∧ Below w.heap.size w w' := by
  have hmm := @run_makeMap Tryz.prog
  have hmf : ∀ (fn : Fn) (first cap : Array Value) (w : World), (Instr.makeFunc fn first cap).run Tryz.prog w = .ok (.func fn first cap) w := fun _ _ _ _ => rfl
  have CA := Lib.hid (iAll_nil w)
  go_enter Tryz.func9, Tryz.ntmps9
  go_wp2_with fail
  with_reducible refine (CA.out).mono ?_
  rintro e1 w1 ⟨v1, rfl, o1, b1⟩
  obtain ⟨A1, c1, rfl, _, _, hC1⟩ := rows_of_own (o := ([] : List In)) encI_len (by omega) o1
  have B1 := Lib.hid b1
  have HC1 := Lib.hid hC1
  clear o1 b1 hC1 CA
  go_wp2_with fail
  have M1 := MapV.made (P := Tryz.prog) (K := 3) (kl := iklI) w1
  have x1 : Below w1.heap.size w1 (w1.alloc (.map #[] 0)) := (Below.refl _ _).alloc (Nat.le_refl _) _
  have x2 : Below (w1.alloc (.map #[] 0)).heap.size (w1.alloc (.map #[] 0)) ((w1.alloc (.map #[] 0)).alloc (.cells #[.map (some w1.heap.size)] 55)) := (Below.refl _ _).alloc (Nat.le_refl _) _
  have R2 : RawAt 55 ((w1.alloc (.map #[] 0)).alloc (.cells #[.map (some w1.heap.size)] 55)) (w1.alloc (.map #[] 0)).heap.size #[.map (some w1.heap.size)] := heap_alloc_new _ _
  rw [show (w1.alloc (.map #[] 0)).heap.size = w1.heap.size + 1 by simp] at R2
  have M2 := M1.below x2
  have Q2 := B1.out.trans ((x1.trans (x2.mono x1.size)).mono B1.out.size)
  obtain ⟨W2, hW2⟩ : ∃ W2, W2 = ((w1.alloc (.map #[] 0)).alloc (.cells #[.map (some w1.heap.size)] 55)) := ⟨_, rfl⟩
  rw [← hW2] at R2 M2 Q2 ⊢
  have e2 := RawAt.cell R2 0
  simp at e2
  have HW2 := Lib.hid hW2
  clear hW2 x1 x2 M1
  generalize w1.heap.size = mb at *
  have Q2 := Lib.hid Q2
  have R2 := Lib.hid R2
  have M2 := Lib.hid M2
  clear B1 HW2
  go_loopg [19] 0 (fun g i wr => i = .int .i64 0 ∧ wr = W2)
  case atStart => exact ⟨rfl, rfl⟩
  case round =>
    obtain ⟨rfl, rfl⟩ := hrel
    generalize hWr : wr = W3 at *
    have HWR := Lib.hid hWr
    clear hWr
    go_wp2_with fail
    go_loopg [29] 0 (fun g i wr => i = .int .i64 0 ∧ wr = W3)
    case atStart => exact ⟨rfl, rfl⟩
    case round =>
      obtain ⟨rfl, rfl⟩ := hrel
      have CDL := Lib.hid fun (K : Value) (W : World) => iDelete0 A1 c1 K W
      have CLN := Lib.hid fun (W : World) => iLen_nil W
      generalize hWr : wr = W4 at *
      have HWR4 := Lib.hid hWr
      clear hWr e2
      go_wp2_with fail
      with_reducible refine (CDL.out _ _).mono ?_
      rintro e5 w5 ⟨rfl, rfl⟩
      go_wp2_with fail
      with_reducible refine (CLN.out _).mono ?_
      rintro e6 w6 ⟨rfl, b6⟩
      have x7 : Below w6.heap.size w6 (w6.alloc (.cells #[.slice A1 0 c1, .slice none 0 0] 22)) := (Below.refl _ _).alloc (Nat.le_refl _) _
      have R7 : RawAt 22 (w6.alloc (.cells #[.slice A1 0 c1, .slice none 0 0] 22)) w6.heap.size #[.slice A1 0 c1, .slice none 0 0] := heap_alloc_new w6 _
      have CCT := Lib.hid (iConcat0 w6.heap.size A1 none c1 0 2 _ (RawAt.cell R7 0) (RawAt.cell R7 1) R7.lt HC1.out ⟨Nat.le_refl _, fun _ => rfl⟩)
      have Q7 := Lib.hid (Q2.out.trans ((b6.trans (x7.mono b6.size)).mono Q2.out.size))
      clear R7 x7 b6
      go_wp2_with fail
      with_reducible refine (CCT.out).mono ?_
      rintro e8 w8 ⟨v8, rfl, o8, b8⟩
      obtain ⟨A8, c8, rfl, hR8, _, hC8⟩ := rows_of_own (o := ([] : List In)) encI_len (by omega) o8
      have CNW := Lib.hid (iNew_any 0 A8 0 c8 [] w8 hR8 hC8 rfl (fun a h => absurd h (by simp)) (fun a h => absurd h (by simp)) 0 (by rfl))
      have Q8 := Lib.hid (Q7.out.trans (b8.mono Q7.out.size))
      clear o8 hR8 hC8 b8 CCT
      go_wp2_with fail
      with_reducible refine (CNW.out).mono ?_
      rintro e9 w9 ⟨p9, rfl, _, hp9, b9⟩
      obtain ⟨s9, rfl, _⟩ := hp9 trivial
      have Q9 := Lib.hid (Q8.out.trans (b9.mono Q8.out.size))
      clear hp9 b9 CNW
      go_wp2
      go_ret2
      exact ⟨s9, rfl, Q9.out⟩
end Go.Proofs.YtbeclkhahdcmbaaGreat
