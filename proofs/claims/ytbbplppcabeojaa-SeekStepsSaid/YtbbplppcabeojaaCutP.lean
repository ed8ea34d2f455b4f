/- A part of a tree: the contract of tree.cutBranch. -/
import Derived.Test.YtbbplppcabeojaaCut
namespace Go.Proofs.Ytbbplppcabeojaa
open Go.RowKit
/-- How many items the first nodes have. -/
def sz (ks : List Kd) (j : Nat) : Nat := (fl (ks.take j)).length
theorem sz_zero (ks : List Kd) : sz ks 0 = 0 := rfl
theorem sz_succ (ks : List Kd) {j : Nat} (h : j < ks.length) : sz ks (j + 1) = sz ks j + (kth ks j).l.length := by unfold sz; rw [fl_take ks h, List.length_append]
theorem sz_le (ks : List Kd) (j : Nat) : sz ks j ≤ (fl ks).length := by
  unfold sz
  have e : fl ks = fl (ks.take j) ++ fl (ks.drop j) := by rw [← fl_append, List.take_append_drop]
  rw [e, List.length_append]
  omega
theorem lst_front (L K : List I7) (x y a : Nat) (ha : L.length = a) (hx : a ≤ x) : ((L ++ K).take y).drop x = (K.drop (x - a)).take (min (y - a) K.length - (x - a)) := by
  rw [List.drop_take, List.drop_append, ha, List.drop_eq_nil_of_le (by omega), List.nil_append, List.take_eq_take_iff, List.length_drop]
  omega
theorem lst_whole (L K : List I7) (x y a : Nat) (ha : L.length = a) (hx : x ≤ a) (hy : a + K.length ≤ y) : ((L ++ K).take y).drop x = (L.take y).drop x ++ K := by
  have e1 : (L ++ K).take y = L ++ K := List.take_of_length_le (by rw [List.length_append]; omega)
  have e2 : L.take y = L := List.take_of_length_le (by omega)
  rw [e1, e2, List.drop_append_of_le_length (by omega)]
theorem lst_back (L K : List I7) (x y a : Nat) (ha : L.length = a) (hx : x ≤ a) (hy : a ≤ y) : ((L ++ K).take y).drop x = (L.take y).drop x ++ K.take (y - a) := by
  have e2 : L.take y = L := List.take_of_length_le (by omega)
  rw [List.take_append, e2, ha, List.drop_append_of_le_length (by omega)]
/-- What was gathered of the first j nodes. -/
def CI (w wr : World) (ks : List Kd) (x y j : Nat) (fv bv v : Value) : Prop :=
  ∃ (wf : World) (f g : List I7) (m : List Kd) (hf hb : Nat),
    Below w.heap.size w wf ∧ Below wf.heap.size wf wr ∧ Top wf fv f hf ∧ Top wr bv g hb ∧ wr.ownsRow wf.heap.size 83 1 v m.length (kvs m) ∧ (∀ κ ∈ m, κ ∈ ks) ∧ m.length ≤ j ∧
    f ++ fl m ++ g = ((fl (ks.take j)).take y).drop x ∧ (sz ks j ≤ x → v = .slice none 0 0 ∧ m = [] ∧ fv = .nilIface ∧ f = []) ∧ (sz ks j < y → bv = .nilIface ∧ g = [])
theorem CI.start (w : World) (ks : List Kd) (x y : Nat) : CI w w ks x y 0 .nilIface .nilIface (.slice none 0 0) :=
  ⟨w, [], [], [], 0, 0, Below.refl _ _, Below.refl _ _, .inl ⟨rfl, rfl, rfl⟩, .inl ⟨rfl, rfl, rfl⟩, World.ownsRow_nil _ _ _ _, fun κ h => absurd h (by simp), Nat.le_refl _, by simp [fl], fun _ => ⟨rfl, rfl, rfl, rfl⟩, fun _ => ⟨rfl, rfl⟩⟩
theorem CI.below {w wr wr' : World} {ks : List Kd} {x y j : Nat} {fv bv v : Value} (hc : CI w wr ks x y j fv bv v) (hb : Below wr.heap.size wr wr') : CI w wr' ks x y j fv bv v := by
  obtain ⟨wf, f, g, m, hf, hg, h1, h2, h3, h4, h5, h6⟩ := hc
  exact ⟨wf, f, g, m, hf, hg, h1, h2.trans (hb.mono h2.size), h3, h4.below hb, own_below h5 hb, h6⟩
theorem CI.toBelow {w wr : World} {ks : List Kd} {x y j : Nat} {fv bv v : Value} (hc : CI w wr ks x y j fv bv v) : Below w.heap.size w wr := by
  obtain ⟨wf, f, g, m, hf, hg, h1, h2, _⟩ := hc
  exact h1.trans (h2.mono h1.size)
/-- A node that has none of them. -/
theorem CI.skip {w wr : World} {ks : List Kd} {x y j : Nat} {fv bv v : Value} (hc : CI w wr ks x y j fv bv v) (hj : j < ks.length) (h : sz ks (j + 1) ≤ x ∨ y ≤ sz ks j) (hp : 1 ≤ (kth ks j).l.length) : CI w wr ks x y (j + 1) fv bv v := by
  obtain ⟨wf, f, g, m, hf, hg, h1, h2, h3, h4, h5, h6, h7, h8, h9, h10⟩ := hc
  have e := sz_succ ks hj
  refine ⟨wf, f, g, m, hf, hg, h1, h2, h3, h4, h5, h6, by omega, ?_, fun ha => ?_, fun ha => ?_⟩
  · rw [h8, fl_take ks hj]
    have hl : (fl (ks.take j)).length = sz ks j := rfl
    rcases h with h | h
    · rw [List.drop_eq_nil_of_le (by rw [List.length_take]; omega), List.drop_eq_nil_of_le (by rw [List.length_take, List.length_append]; omega)]
    · rw [List.take_append_of_le_length (by omega)]
  · exact h9 (by omega)
  · rcases h with h | h
    · exact h10 (by omega)
    · omega
/-- A node that is taken whole. -/
theorem CI.whole {w wr' : World} {ks : List Kd} {x y j : Nat} {fv bv v' : Value} {wf : World} {f g : List I7} {m : List Kd} {hf : Nat}
    (h1 : Below w.heap.size w wf) (h2 : Below wf.heap.size wf wr') (h3 : Top wf fv f hf) (h5 : wr'.ownsRow wf.heap.size 83 1 v' (m.length + 1) (kvs m ++ [(kth ks j).v])) (h6 : ∀ κ ∈ m, κ ∈ ks) (h7 : m.length ≤ j)
    (h8 : f ++ fl m ++ g = ((fl (ks.take j)).take y).drop x) (h10 : sz ks j < y → bv = .nilIface ∧ g = []) (hj : j < ks.length) (hx : x ≤ sz ks j) (hy : sz ks (j + 1) ≤ y) (hp : 1 ≤ (kth ks j).l.length) : CI w wr' ks x y (j + 1) fv bv v' := by
  have e := sz_succ ks hj
  obtain ⟨rfl, rfl⟩ := h10 (by omega)
  have hl : (fl (ks.take j)).length = sz ks j := rfl
  have h11 : (m ++ [kth ks j]).length = m.length + 1 := by rw [List.length_append]; rfl
  refine ⟨wf, f, [], m ++ [kth ks j], hf, 0, h1, h2, h3, .inl ⟨rfl, rfl, rfl⟩, ?_, fun κ hk => ?_, by omega, ?_, fun ha => by omega, fun _ => ⟨rfl, rfl⟩⟩
  · rw [h11, kvs_append]; exact h5
  · rcases List.mem_append.1 hk with hk | hk
    · exact h6 κ hk
    · rw [List.mem_singleton.1 hk]; exact kth_mem ks hj
  · rw [List.append_nil] at h8
    rw [fl_take ks hj, lst_whole _ _ x y _ hl hx (by omega), fl_append, fl_one, List.append_nil, ← List.append_assoc, h8]
/-- A node of which the later items are taken. -/
theorem CI.front {w wr wr' : World} {ks : List Kd} {x y j : Nat} {fv bv v fv' : Value} {hf : Nat} (hc : CI w wr ks x y j fv bv v) (hb : Below wr.heap.size wr wr') (hj : j < ks.length) (hx : sz ks j < x) (hxy : x < y) (hy : x < sz ks (j + 1))
    (hT : Top wr' fv' (((kth ks j).l.drop (x - sz ks j)).take (min (y - sz ks j) (kth ks j).l.length - (x - sz ks j))) hf) : CI w wr' ks x y (j + 1) fv' bv v := by
  have hbw := hc.toBelow
  obtain ⟨wf, f, g, m, hf', hg, h1, h2, h3, h4, h5, h6, h7, h8, h9, h10⟩ := hc
  have e := sz_succ ks hj
  obtain ⟨rfl, rfl, rfl, rfl⟩ := h9 (by omega)
  obtain ⟨rfl, rfl⟩ := h10 (by omega)
  have hl : (fl (ks.take j)).length = sz ks j := rfl
  refine ⟨wr', _, [], [], hf, 0, hbw.trans (hb.mono hbw.size), Below.refl _ _, hT, .inl ⟨rfl, rfl, rfl⟩, World.ownsRow_nil _ _ _ _, h6, by simp, ?_, fun ha => by omega, fun _ => ⟨rfl, rfl⟩⟩
  rw [fl_take ks hj, lst_front _ _ x y _ hl (by omega)]
  simp [fl]
/-- A node of which the first items are taken. -/
theorem CI.back {w wr wr' : World} {ks : List Kd} {x y j : Nat} {fv bv v bv' : Value} {hb' : Nat} (hc : CI w wr ks x y j fv bv v) (hb : Below wr.heap.size wr wr') (hj : j < ks.length) (hx : x ≤ sz ks j) (ha : sz ks j < y) (hy : y < sz ks (j + 1))
    (hT : Top wr' bv' (((kth ks j).l.drop 0).take (y - sz ks j - 0)) hb') : CI w wr' ks x y (j + 1) fv bv' v := by
  obtain ⟨wf, f, g, m, hf', hg, h1, h2, h3, h4, h5, h6, h7, h8, h9, h10⟩ := hc
  have e := sz_succ ks hj
  obtain ⟨rfl, rfl⟩ := h10 ha
  have hl : (fl (ks.take j)).length = sz ks j := rfl
  refine ⟨wf, f, _, m, hf', hb', h1, h2.trans (hb.mono h2.size), h3, hT, own_below h5 hb, h6, by omega, ?_, fun h => by omega, fun h => by omega⟩
  rw [List.append_nil] at h8
  rw [h8, fl_take ks hj, lst_back _ _ x y _ hl hx (by omega)]
  simp
end Go.Proofs.Ytbbplppcabeojaa
