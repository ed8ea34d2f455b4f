/- A Builder that a call has made, written rune by rune: the contracts of copyCheck (of one that was used) and WriteRune. -/
import Derived.Test.YtaemndioleofjaaGreatBase
import Derived.Test.YtaemndioleofjaaGreatShelf
import Derived.Lib.Builder
namespace Go.Proofs.YtaemndioleofjaaGreat
open Go.RowKit
theorem builder_size : (Tryz.prog.info? 116).isSome = true := by kernel_rfl
set_option maxHeartbeats 1000000 in
set_option maxRecDepth 100000 in
theorem check_used (b : Nat) (w : World) (h0 : w.cell? ⟨b, 0, none⟩ = some (.pointer (some ⟨b, 0, none⟩))) :
    Calls Tryz.prog 88 #[.pointer (some ⟨b, 0, none⟩)] w fun e w' => e = .returned (.tuple #[]) ∧ w' = w := by
  obtain ⟨j, hj⟩ := Option.isSome_iff_exists.1 builder_size
  go_enter Tryz.func88, Tryz.ntmps88
  go_wp2
  rw [Lib.run_neq_ptr_same w _ Tryz.underlying113 hj]
  go_wp2
  go_end0
  exact ⟨rfl, rfl⟩
/-- The form of a row of bytes of the call's own. -/
theorem own_form {w : World} {B e n : Nat} {v : Value} {xs : List Value} (h : w.ownsRow B e 1 v n xs) : ∃ A c, v = .slice A n c := by
  rcases h.2 with ⟨rfl, rfl⟩ | ⟨g, cap, cur, rfl, _⟩
  · exact ⟨none, 0, rfl⟩
  · exact ⟨_, cap, rfl⟩
theorem own_ne {w : World} {B e n : Nat} {v : Value} {xs : List Value} (h : w.ownsRow B e 1 v n xs) {b : Nat} {cs : Array Value} {t : TypeId} {fz : Nat × Nat} (hb : w.heap[b]? = some (.cells cs t fz)) (hne : e ≠ t) : v.ownBlock ≠ some b := by
  rcases h.2 with ⟨rfl, _⟩ | ⟨g, cap, cur, rfl, _, c, _⟩
  · simp [Value.ownBlock]
  · intro e'
    simp [Value.ownBlock] at e'
    subst e'
    rw [hb] at c
    injection c with c
    injection c with _ ht
    exact hne ht.symm
theorem own_set {w : World} {B e n : Nat} {v : Value} {xs : List Value} (h : w.ownsRow B e 1 v n xs) {b : Nat} (hne : v.ownBlock ≠ some b) (i : Nat) (u : Value) : (w.setCell ⟨b, i, none⟩ u).ownsRow B e 1 v n xs := by
  refine ⟨h.1, ?_⟩
  rcases h.2 with h2 | ⟨g, cap, cur, rfl, hB, c, h3⟩
  · exact .inl h2
  · refine .inr ⟨g, cap, cur, rfl, hB, ?_, h3⟩
    rw [Below.heap_setCell w ⟨b, i, none⟩ u g (fun e' => hne (by simp only at e'; rw [← e']; rfl))]
    exact c
set_option maxHeartbeats 1000000 in
set_option maxRecDepth 100000 in
theorem writeRune_any (B b : Nat) (bs : List Value) (r : Int) (hr0 : -2147483648 ≤ r) (hr1 : r ≤ 2147483647) (w : World) (h : Lib.BuilderAt 116 5 B b (.pointer (some ⟨b, 0, none⟩)) bs w) (hlen : bs.length + 4 ≤ 1000000000) (hBw : B ≤ w.heap.size) :
    Calls Tryz.prog 97 #[.pointer (some ⟨b, 0, none⟩), .int .i32 r] w fun e w' => (∃ x, e = .returned x) ∧ Lib.BuilderAt 116 5 B b (.pointer (some ⟨b, 0, none⟩)) (bs ++ Lib.runeCells r) w' ∧ Below B w w' := by
  obtain ⟨hB, v, hb, hown, hne⟩ := h
  obtain ⟨A, c, rfl⟩ := own_form hown
  have c0 : w.cell? ⟨b, 0, none⟩ = some (.pointer (some ⟨b, 0, none⟩)) := by rw [cell_of_row w b 0 _ _ _ hb]; rfl
  have c1 : w.cell? ⟨b, 1, none⟩ = some (.slice A bs.length c) := by rw [cell_of_row w b 1 _ _ _ hb]; rfl
  have hbl : (bs.length : Int) ≤ 1000000000 := by omega
  have HB := Lib.hid hb; clear hb
  go_enter Tryz.func97, Tryz.ntmps97
  go_wp2_with fail
  refine (check_used b w c0).mono ?_
  rintro e w' ⟨rfl, rfl⟩
  go_wp2_with fail
  refine (Tryz.utf8_AppendRune_plain B _ bs.length bs r hr0 hr1 _ hown (by omega) hBw).mono ?_
  rintro e w1 ⟨v1, rfl, hown1, o, hg1⟩
  have hbl1 : b < w'.heap.size := block_lt HB.out
  have hb1 : w1.heap[b]? = some (.cells #[.pointer (some ⟨b, 0, none⟩), .slice A bs.length c] 116 (0, 0)) := by
    rw [hg1.block b (by simp; omega) (fun e => hne e.symm), Below.heap_alloc w' o b hbl1]
    exact HB.out
  have hlo := own_ne hown1 hb1 (by decide)
  obtain ⟨A1, d1, rfl⟩ := own_form hown1
  have k1 : w1.cell? ⟨b, 1, none⟩ = some (.slice A bs.length c) := by rw [cell_of_row w1 b 1 _ _ _ hb1]; rfl
  have f1 : w1.frozen? ⟨b, 1, none⟩ = false := by simp [World.frozen?, hb1]
  have hrl : (Lib.runeCells r).length ≤ 4 := by unfold Lib.runeCells; rw [List.length_map]; exact (Lib.encodeRuneZ_length r).2
  have hown2 := own_set hown1 hlo 1 (.slice A1 (bs.length + (Lib.runeCells r).length) d1)
  have hbw1 : Below B w' w1 := ((Below.refl B w').alloc hBw o).grown hg1 (by simp; omega) (fun k hk => (hown.lt k hk).1)
  have hb2 : (w1.setCell ⟨b, 1, none⟩ (.slice A1 (bs.length + (Lib.runeCells r).length) d1)).heap[b]? = some (.cells #[.pointer (some ⟨b, 0, none⟩), .slice A1 (bs.length + (Lib.runeCells r).length) d1] 116 (0, 0)) := by
    simp [World.setCell, Array.getElem?_modify, hb1]
  have HB2 := Lib.hid hb2; clear hb2 hb1
  have HO2 := Lib.hid hown2; clear hown2 hown1 hown
  clear c0 c1 hg1
  go_wp2_with fail
  go_ret2
  refine ⟨⟨_, rfl⟩, ⟨hB, _, HB2.out, by rw [List.length_append]; exact HO2.out, hlo⟩, hbw1.setCell (p := ⟨b, 1, none⟩) hB _⟩
end Go.Proofs.YtaemndioleofjaaGreat
