/- The plain table: the contract of width.Plain. -/
import Derived.Test.YtbalafgoengppaaDoorSum
namespace Go.Proofs.YtbalafgoengppaaDoor
open Go.RowKit
def zeroL : List (Int × Int) := [(768, 879), (8203, 8207), (65024, 65039)]
def wideL : List (Int × Int) := [(4352, 4447), (11904, 12350), (12353, 19903), (19968, 40959), (44032, 55203), (63744, 64255), (65280, 65376), (127744, 128591)]
/-- The two tables of the program, as its start lays them. -/
def Tabs (w : World) : Prop :=
  (0 < w.heap.size ∧ 1 < w.heap.size) ∧
  (∀ k, k < zeroL.length → w.cell? ⟨0, 0 + k * 2, none⟩ = some (.int .i32 (rlo zeroL k)) ∧ w.cell? ⟨0, 0 + k * 2 + 1, none⟩ = some (.int .i32 (rhi zeroL k))) ∧
  (∀ k, k < wideL.length → w.cell? ⟨1, 0 + k * 2, none⟩ = some (.int .i32 (rlo wideL k)) ∧ w.cell? ⟨1, 0 + k * 2 + 1, none⟩ = some (.int .i32 (rhi wideL k)))
theorem Tabs.below {w w' : World} (h : Tabs w) (hb : Below w.heap.size w w') : Tabs w' :=
  ⟨⟨Nat.lt_of_lt_of_le h.1.1 hb.size, Nat.lt_of_lt_of_le h.1.2 hb.size⟩, fun k hk => ⟨((old_cells hb).1 _ _ h.1.1).trans (h.2.1 k hk).1, ((old_cells hb).1 _ _ h.1.1).trans (h.2.1 k hk).2⟩,
    fun k hk => ⟨((old_cells hb).1 _ _ h.1.2).trans (h.2.2 k hk).1, ((old_cells hb).1 _ _ h.1.2).trans (h.2.2 k hk).2⟩⟩
theorem srt_zero : Srt zeroL := by
  have h : ∀ i, i < 3 → ∀ j, j < 3 → (i = j → rlo zeroL i ≤ rhi zeroL i) ∧ (i < j → rhi zeroL i < rlo zeroL j) := by decide
  intro i j hij hj
  have h1 : j < 3 := hj
  exact h i (by omega) j h1
theorem srt_wide : Srt wideL := by
  have h : ∀ i, i < 8 → ∀ j, j < 8 → (i = j → rlo wideL i ≤ rhi wideL i) ∧ (i < j → rhi wideL i < rlo wideL j) := by decide
  intro i j hij hj
  have h1 : j < 8 := hj
  exact h i (by omega) j h1
theorem tab_of (w : World) (a b c : Array Value) {ta tb tc : TypeId} (ha : a.toList = flat zeroL) (hb : b.toList = flat wideL) (hc : c = #[.slice (some ⟨w.heap.size, 0, none⟩) 3 3, .slice (some ⟨w.heap.size + 1, 0, none⟩) 8 8]) :
    TabAt (((w.alloc (.cells a ta)).alloc (.cells b tb)).alloc (.cells c tc)).drew (w.heap.size + 1 + 1) zeroL wideL := by
  have h2 : (((w.alloc (.cells a ta)).alloc (.cells b tb)).alloc (.cells c tc)).drew.heap[w.heap.size + 1 + 1]? = some (.cells c tc (0, 0)) := by
    have := heap_alloc_new ((w.alloc (.cells a ta)).alloc (.cells b tb)) (.cells c tc)
    rw [show ((w.alloc (.cells a ta)).alloc (.cells b tb)).heap.size = w.heap.size + 1 + 1 from by simp] at this
    exact this
  have h1 : (((w.alloc (.cells a ta)).alloc (.cells b tb)).alloc (.cells c tc)).drew.heap[w.heap.size + 1]? = some (.cells b tb (0, 0)) := by
    have := heap_alloc_new (w.alloc (.cells a ta)) (.cells b tb)
    have e := Below.heap_alloc ((w.alloc (.cells a ta)).alloc (.cells b tb)) (.cells c tc) (w.heap.size + 1) (by simp)
    rw [show (w.alloc (.cells a ta)).heap.size = w.heap.size + 1 from by simp] at this
    exact e.trans this
  have h0 : (((w.alloc (.cells a ta)).alloc (.cells b tb)).alloc (.cells c tc)).drew.heap[w.heap.size]? = some (.cells a ta (0, 0)) := by
    have := heap_alloc_new w (.cells a ta)
    have e := Below.heap_alloc ((w.alloc (.cells a ta)).alloc (.cells b tb)) (.cells c tc) w.heap.size (by simp; omega)
    have e' := Below.heap_alloc (w.alloc (.cells a ta)) (.cells b tb) w.heap.size (by simp)
    exact e.trans (e'.trans this)
  refine ⟨_, _, 3, 8, block_lt h2, ?_, ?_, RngAt.of_block h0 ha, RngAt.of_block h1 hb, by decide, by decide, srt_zero, srt_wide⟩
  · rw [cell_of_row _ _ _ c tc _ h2, hc]; rfl
  · rw [cell_of_row _ _ _ c tc _ h2, hc]; rfl
set_option maxHeartbeats 400000 in
theorem plain_any (w : World) (h : Tabs w) :
    Calls Tryd.prog 15 #[] w fun e w' => ∃ tb, e = .returned (.pointer (some ⟨tb, 0, none⟩)) ∧ Below w.heap.size w w' ∧ TabAt w' tb zeroL wideL := by
  obtain ⟨⟨g1, g2⟩, hz, hw⟩ := h
  obtain ⟨z0, z1⟩ := hz 0 (by decide)
  obtain ⟨z2, z3⟩ := hz 1 (by decide)
  obtain ⟨z4, z5⟩ := hz 2 (by decide)
  obtain ⟨y0, y1⟩ := hw 0 (by decide)
  obtain ⟨y2, y3⟩ := hw 1 (by decide)
  obtain ⟨y4, y5⟩ := hw 2 (by decide)
  obtain ⟨y6, y7⟩ := hw 3 (by decide)
  obtain ⟨y8, y9⟩ := hw 4 (by decide)
  obtain ⟨y10, y11⟩ := hw 5 (by decide)
  obtain ⟨y12, y13⟩ := hw 6 (by decide)
  obtain ⟨y14, y15⟩ := hw 7 (by decide)
  clear hz hw
  simp only [rlo, rhi, zeroL, wideL, List.getD_cons_zero, List.getD_cons_succ, Nat.zero_mul, Nat.zero_add, Nat.one_mul, Nat.reduceMul, Nat.reduceAdd] at z0 z1 z2 z3 z4 z5 y0 y1 y2 y3 y4 y5 y6 y7 y8 y9 y10 y11 y12 y13 y14 y15
  go_enter Tryd.func15, Tryd.ntmps15
  go_wp2
  go_region
  go_wp2
  go_ret
  refine ⟨_, rfl, ?_, ?_⟩
  · exact (((((Below.refl _ _).alloc (Nat.le_refl _) _).alloc (by simp) _).alloc (by simp; omega) _)).drew
  · exact tab_of w _ _ _ rfl rfl rfl
end Go.Proofs.YtbalafgoengppaaDoor
