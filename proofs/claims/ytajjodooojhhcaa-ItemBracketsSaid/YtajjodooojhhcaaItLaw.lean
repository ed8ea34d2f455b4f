/- The contracts of the law's own right, and of both: the small case that each law of items asks. -/
import Derived.Test.YtajjodooojhhcaaItAll
import Derived.Test.YtajjodooojhhcaaItRight
import Derived.Test.YtajjodooojhhcaaItOwn
import Derived.Test.YtajjodooojhhcaaEq3
namespace Go.Proofs.Ytajjodooojhhcaa
open Go.RowKit
theorem Okl.step {l : List I7} {j : Nat} (h : Okl (l.take j)) (hj : j < l.length) (ho : Oki (ith l j)) : Okl (l.take (j + 1)) := by
  rw [take_ith l hj]
  exact h.append_ (fun i hi => by rw [List.mem_singleton.1 hi]; exact ho)
set_option maxHeartbeats 4000000 in
set_option maxRecDepth 100000 in
theorem rightl_any (A : Option Addr) (n c : Nat) (l : List I7) (w : World) (hA : ItsAt w A l) (hl : l.length = n) (hn : n ≤ 9223372036854775807) (rb : Bool) (hrb : rb = true ↔ n ≤ 1000 ∧ Okl l) :
    Calls Try.prog 21 #[.slice A n c] w fun e w' => e = .returned (.bool rb) ∧ Below w.heap.size w w' := by
  have HA := Lib.hid hA; clear hA
  have HL := Lib.hid hl; clear hl
  have HRB := Lib.hid hrb; clear hrb
  by_cases hk : 1000 < n
  · have hf : false = rb := by
      cases rb
      · rfl
      · have := (HRB.out.1 rfl).1; omega
    have HF := Lib.hid hf; clear hf
    go_enter Try.func21, Try.ntmps21
    go_wp2
    go_ret
    exact ⟨ret_bool HF.out, Below.refl _ _⟩
  · go_enter Try.func21, Try.ntmps21
    go_wp2
    go_loopg [10] n (fun k i wr => ∃ j : Nat, i = .int .i64 j ∧ j ≤ n ∧ n - j ≤ k ∧ Below w.heap.size w wr ∧ Hid (Okl (l.take j)))
    case atStart => exact ⟨0, rfl, by omega, by omega, Below.refl _ _, fun i hi => absurd hi (by simp)⟩
    case round =>
      obtain ⟨j, rfl, h1, h2, hb, hok⟩ := hrel
      by_cases hlt : j < n
      · have hm : j < l.length := by rw [HL.out]; exact hlt
        obtain ⟨b, off, rfl, hbs, hc⟩ := HA.out (by omega)
        obtain ⟨e0, e1, e2, e3, e4, e5, e6⟩ := hc j hm
        clear hc
        obtain ⟨H1, H2⟩ := old_cells hb
        have CR : Hid (∀ (W : World), Calls Try.prog 19 #[.agg #[.int .i64 (ith l j).tag, .int .i64 (ith l j).id, .int .i64 (ith l j).d0, .int .i64 (ith l j).d1, .int .i64 (ith l j).d2, .int .i64 (ith l j).mx, .string (ith l j).tx]] W fun e w' => e = .returned (.agg #[.int .i64 (ith l j).tag, .int .i64 (ith l j).id, .int .i64 (ith l j).d0, .int .i64 (ith l j).d1, .int .i64 (ith l j).d2, .int .i64 (ith l j).mx, .string (ith l j).tx]) ∧ Below W.heap.size W w') := fun W => iref_any _ W
        have CX : Hid (∀ (rb : Bool) (W : World), (rb = true ↔ Oki (ith l j)) → Calls Try.prog 18 #[.agg #[.int .i64 (ith l j).tag, .int .i64 (ith l j).id, .int .i64 (ith l j).d0, .int .i64 (ith l j).d1, .int .i64 (ith l j).d2, .int .i64 (ith l j).mx, .string (ith l j).tx]] W fun e w' => e = .returned (.bool rb) ∧ Below W.heap.size W w') := fun rb W h => right_any _ rb h W
        by_cases ho : Oki (ith l j)
        · have HOK := Lib.hid (hok.out.step hm ho)
          have CX2 := Lib.hid fun W => CX.out true W ⟨fun _ => ho, fun _ => rfl⟩
          clear CX ho
          generalize ith l j = x at *
          go_wp2_with fail
          refine (CR.out _).mono ?_
          rintro e w1 ⟨rfl, hb1⟩
          go_wp2_with fail
          refine (CX2.out _).mono ?_
          rintro e w2 ⟨rfl, hb2⟩
          have a1 := (hb.alloc hb.size (.cells (ics x) 41))
          have a2 := a1.trans (hb1.mono a1.size)
          have a3 := a2.trans (hb2.mono a2.size)
          go_wp2
          go_roundg (gk - 1)
          case measure => omega
          case rel => exact ⟨j + 1, by go_num, by omega, by omega, a3, HOK⟩
        · have HF := Lib.hid (show false = rb by
            cases rb
            · rfl
            · exact absurd ((HRB.out.1 rfl).2 _ (ith_mem l hm)) ho)
          have CX2 := Lib.hid fun W => CX.out false W ⟨fun h => absurd h (by simp), fun h => absurd h ho⟩
          clear CX ho
          generalize ith l j = x at *
          go_wp2_with fail
          refine (CR.out _).mono ?_
          rintro e w1 ⟨rfl, hb1⟩
          go_wp2_with fail
          refine (CX2.out _).mono ?_
          rintro e w2 ⟨rfl, hb2⟩
          have a1 := (hb.alloc hb.size (.cells (ics x) 41))
          have a2 := a1.trans (hb1.mono a1.size)
          have a3 := a2.trans (hb2.mono a2.size)
          go_wp2
          go_ret
          exact ⟨ret_bool HF.out, a3⟩
      · have HF := Lib.hid (show true = rb from ((HRB.out.2 ⟨by omega, by have := hok.out; rwa [List.take_of_length_le (by rw [HL.out]; omega)] at this⟩).symm))
        go_wp2
        go_ret
        exact ⟨ret_bool HF.out, hb⟩
set_option maxHeartbeats 4000000 in
theorem both_any (w : World) : Calls Try.prog 20 #[] w fun e w' => e = .returned (.bool true) ∧ Below w.heap.size w w' := by
  have HEQ := eq3
  go_enter Try.func20, Try.ntmps20
  go_wp2_with fail
  refine (iall_any (some ⟨w.heap.size, 0, none⟩) 2 2 [⟨0, 0, 1, 0, 0, 4, ⟨#[]⟩⟩, ⟨0, 0, 2, 3, 0, 4, ⟨#[]⟩⟩] _ (ItsAt.of_cells (by simp) (fun j u hu => ?_)) rfl (by omega) ?_).mono ?_
  · rw [cell_of_row _ _ _ _ _ _ (heap_alloc_new w _), ← Array.getElem?_toList, Nat.zero_add]
    exact hu
  · intro i hi
    simp only [List.mem_cons, List.not_mem_nil, or_false] at hi
    rcases hi with rfl | rfl <;> (unfold Oki Okd Okn; simp only; omega)
  rintro e w1 ⟨rfl, hb1⟩
  rw [show sall [⟨0, 0, 1, 0, 0, 4, ⟨#[]⟩⟩, ⟨0, 0, 2, 3, 0, 4, ⟨#[]⟩⟩] = ⟨2, 3, 3, 0, 4, 0⟩ from S6.ext_ (by decide) (by decide) (by decide) (by decide) (by decide) (by decide)]
  unfold scs
  go_wp2_with fail
  go_ret
  exact ⟨rfl, ((Below.refl _ _).alloc (Nat.le_refl _) _).trans (hb1.mono (by simp))⟩
end Go.Proofs.Ytajjodooojhhcaa
