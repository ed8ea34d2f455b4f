/- Rows as arguments, and how long each may be. -/
import Derived.Test.YtebjkgeldjgnfaaDfO
namespace Go.Proofs.Ytebjkgeldjgnfaa
open Go.ChangeShapes Go.WideShapes Go.ChangeAt Go.RowKit
set_option linter.unusedVariables false
/-- No slice in it takes more than the form's reach. -/
def W8 {H : Type} (P : Program) (t : TypeId) (d : DataW H) : Prop := ∀ x ∈ d.weights P t, x ≤ reachBytes
theorem w8_all {H : Type} {P : Program} {e : TypeId} : ∀ {l : List (DataW H)}, (∀ x ∈ DataW.weightsAll P e l, x ≤ reachBytes) → ∀ d ∈ l, W8 P e d
  | [], _, d, h => absurd h (by simp)
  | y :: l, hw, d, h => by
    simp only [DataW.weightsAll] at hw
    rcases List.mem_cons.1 h with rfl | h
    · exact fun x hx => hw x (List.mem_append_left _ hx)
    · exact w8_all (fun x hx => hw x (List.mem_append_right _ hx)) d h
theorem w8_slice {H : Type} {P : Program} {t e : TypeId} (ht : P.underlying t = some (.slice e)) {elems spare : List (DataW H)} (h : W8 P t (.slice elems spare)) : (elems.length + spare.length) * P.bytesOf e ≤ reachBytes ∧ ∀ d ∈ elems ++ spare, W8 P e d := by
  unfold W8 at h
  rw [DataW.weights, ht] at h
  simp only at h
  refine ⟨h _ (List.mem_cons_self ..), fun d hd => ?_⟩
  rcases List.mem_append.1 hd with hd | hd
  · exact w8_all (fun x hx => h x (List.mem_cons_of_mem _ (List.mem_append_left _ hx))) d hd
  · exact w8_all (fun x hx => h x (List.mem_cons_of_mem _ (List.mem_append_right _ hx))) d hd
section
variable {H : Type} {encH : TypeId × Value → H} {w : World} {base : Nat} {held : Bool} {P : Program}
set_option maxRecDepth 100000 in
theorem ktrodw {t e : TypeId} (ht : P.underlying t = some (.slice e)) {α : Type} {enc : α → List Value} {k : Nat} (hk : ∀ x, (enc x).length = k) (hp : 0 < k) (hc : P.cellsOf e = k) {Ok : α → Prop}
    (hd : ∀ {fuel : Nat} {cs : List Value} {x : DataW H × List MemPlace}, DataW.trod encH P w base (fun _ => true) held fuel e cs = some x → W8 P e x.1 → ∃ a : α, cs = enc a ∧ Ok a)
    {fuel : Nat} {cs : List Value} {x : DataW H × List MemPlace} (hf : DataW.trod encH P w base (fun _ => true) held fuel t cs = some x) (hw8 : W8 P t x.1) :
    ∃ (A : Option Addr) (n c : Nat) (l : List α), cs = [.slice A n c] ∧ l.length = n ∧ n ≤ maxLen ∧ Caps A n c ∧ RowsAt enc k w A l ∧ (∀ a ∈ l, Ok a) ∧ n * P.bytesOf e ≤ reachBytes := by
  rcases Go.Deep.open_slice ht hf with ⟨hcs, _⟩ | ⟨a, len, cap, m, n', D, Pl, hcs, hb, hl, hm, hmm, hx, hi⟩
  · exact ⟨none, 0, 0, [], hcs, rfl, Nat.zero_le _, ⟨Nat.le_refl _, fun _ => rfl⟩, fun h => absurd h (by simp), fun a h => absurd h (by simp), by simp⟩
  · have hmc : m = cap := by simpa using hmm
    subst hx
    obtain ⟨hwn, hwe⟩ := w8_slice ht hw8
    have hle : len ≤ m := by omega
    have hwD : ∀ j, j < m → W8 P e (D j) := fun j hj => by
      by_cases hjl : j < len
      · exact hwe _ (List.mem_append_left _ (List.mem_map.2 ⟨j, List.mem_range.2 hjl, rfl⟩))
      · refine hwe _ (List.mem_append_right _ (List.mem_map.2 ⟨j - len, List.mem_range.2 (by omega), ?_⟩))
        rw [show len + (j - len) = j from by omega]
    have hwl : len * P.bytesOf e ≤ reachBytes := by
      refine Nat.le_trans (Nat.mul_le_mul_right _ ?_) hwn
      simp only [List.length_map, List.length_range]
      omega
    have each : ∀ j, j < m → ∃ s : α, Ok s ∧ ∀ f u, (enc s)[f]? = some u → w.cell? ((a.add (j * k)).add f) = some u := by
      intro j hj
      obtain ⟨cs', h1, h2⟩ := hi j hj
      obtain ⟨s, rfl, hs⟩ := hd h2 (hwD j hj)
      rw [hc] at h1
      obtain ⟨_, _, hat⟩ := World.cells?_some h1
      refine ⟨s, hs, fun f u hu => ?_⟩
      have hfk : f < k := by have := (List.getElem?_eq_some_iff.1 hu).1; rwa [hk] at this
      rw [hat f hfk]
      exact hu
    rcases Nat.eq_zero_or_pos m with hm0 | hmp
    · have hl0 : len = 0 := by omega
      subst hl0
      exact ⟨some a, 0, cap, [], hcs, rfl, Nat.zero_le _, ⟨Nat.zero_le _, fun h => by cases h⟩, fun h => absurd h (by simp), fun a h => absurd h (by simp), hwl⟩
    · obtain ⟨s0, hs0, _⟩ := each 0 hmp
      have each' : ∀ j, ∃ s : α, j < m → Ok s ∧ ∀ f u, (enc s)[f]? = some u → w.cell? ((a.add (j * k)).add f) = some u := fun j => by
        by_cases h : j < m
        · obtain ⟨s, hs⟩ := each j h
          exact ⟨s, fun _ => hs⟩
        · exact ⟨s0, fun h' => absurd h' h⟩
      obtain ⟨q, hq⟩ := Classical.axiomOfChoice each'
      refine ⟨some a, len, cap, (List.range len).map q, hcs, by simp, by omega, ⟨hl, fun h => by cases h⟩, fun hpp => ?_, fun x hx => ?_, hwl⟩
      · have hn : 0 < len := by simpa using hpp
        obtain ⟨b, off, spot⟩ := a
        have hlen0 : 0 < (enc (q 0)).length := by rw [hk]; exact hp
        have h00 := (hq 0 (by omega)).2 0 _ (List.getElem?_eq_getElem hlen0)
        have hspot : spot = none := by simpa [Addr.add] using World.cell?_spot h00
        subst hspot
        rw [Go.Deep.add_add, add_plain] at h00
        refine ⟨b, off, rfl, cell_block_lt h00, fun j hj c hcc => ?_⟩
        have hjn : j < len := by simpa using hj
        have hlc : c < (enc (q j)).length := by rw [hk]; exact hcc
        have g := (hq j (by omega)).2 c _ (List.getElem?_eq_getElem hlc)
        rw [Go.Deep.add_add, add_plain, ← Nat.add_assoc] at g
        rw [g]
        simp [List.getElem?_eq_getElem hlc]
      · obtain ⟨j, hj, rfl⟩ := List.mem_map.1 hx
        exact (hq j (by have := List.mem_range.1 hj; omega)).1
end
structure RwOkW (w : World) (s : Rw) : Prop where
  ok : RwOk w s
  le : s.n * 32 ≤ reachBytes
section
variable {H : Type} {enc : TypeId × Value → H} {w : World} {base : Nat} {held : Bool}
theorem by_cell : Try.prog.bytesOf 41 = 32 := by kernel_rfl
theorem by_row : Try.prog.bytesOf 24 = 64 := by kernel_rfl
set_option maxRecDepth 100000 in
theorem trod_roww {fuel : Nat} {cs : List Value} {x : DataW H × List MemPlace} (h : DataW.trod enc Try.prog w base (fun _ => true) held fuel 24 cs = some x) (hw8 : W8 Try.prog 24 x.1) : ∃ s : Rw, cs = encR s ∧ RwOkW w s := by
  obtain ⟨ys, n, _, hxe, hlen, hyl, hf⟩ := DataW.trod_struct Try.underlying24 h
  rw [dc_row] at hlen
  match cs, hlen with
  | [c0, c1, c2, c3, c4, c5, c6], _ =>
    match ys, hyl with
    | [y0, y1, y2, y3, y4, y5, y6], _ =>
      have h0 : DataW.trod enc Try.prog w base (fun _ => true) held n 22 [c0] = some y0 := by simpa [dc_int, dc_bool, dc_cells] using hf 0 _ rfl
      have h1 : DataW.trod enc Try.prog w base (fun _ => true) held n 3 [c1] = some y1 := by simpa [dc_int, dc_bool, dc_cells] using hf 1 _ rfl
      have h2 : DataW.trod enc Try.prog w base (fun _ => true) held n 3 [c2] = some y2 := by simpa [dc_int, dc_bool, dc_cells] using hf 2 _ rfl
      have h3 : DataW.trod enc Try.prog w base (fun _ => true) held n 3 [c3] = some y3 := by simpa [dc_int, dc_bool, dc_cells] using hf 3 _ rfl
      have h4 : DataW.trod enc Try.prog w base (fun _ => true) held n 4 [c4] = some y4 := by simpa [dc_int, dc_bool, dc_cells] using hf 4 _ rfl
      have h5 : DataW.trod enc Try.prog w base (fun _ => true) held n 4 [c5] = some y5 := by simpa [dc_int, dc_bool, dc_cells] using hf 5 _ rfl
      have h6 : DataW.trod enc Try.prog w base (fun _ => true) held n 3 [c6] = some y6 := by simpa [dc_int, dc_bool, dc_cells] using hf 6 _ rfl
      have hw0 : W8 Try.prog 22 y0.1 := fun v hv => by
        refine hw8 v ?_
        subst hxe
        show v ∈ DataW.weights Try.prog 24 (.agg _)
        rw [DataW.weights, Try.underlying24]
        simp only [List.map_cons, DataW.weightsEach]
        exact List.mem_append_left _ hv
      obtain ⟨A, k, c, l, e0, g2, g3, g4, g5, _, g6⟩ := ktrodw (α := Cl) (enc := encC) (k := 4) (Ok := ClOk) Try.underlying22 (fun _ => rfl) (by omega) dc_cell (fun {_ _ _} h _ => trod_cell h) h0 hw0
      rw [by_cell] at g6
      obtain ⟨z1, e1, _⟩ := DataW.trod_int Try.underlying3 h1
      obtain ⟨z2, e2, _⟩ := DataW.trod_int Try.underlying3 h2
      obtain ⟨z3, e3, _⟩ := DataW.trod_int Try.underlying3 h3
      obtain ⟨z4, e4, _⟩ := DataW.trod_bool Try.underlying4 h4
      obtain ⟨z5, e5, _⟩ := DataW.trod_bool Try.underlying4 h5
      obtain ⟨z6, e6, _⟩ := DataW.trod_int Try.underlying3 h6
      simp only [List.cons.injEq, and_true] at e0 e1 e2 e3 e4 e5 e6
      exact ⟨⟨A, k, c, l, z1, z2, z3, z4, z5, z6⟩, by rw [e0, e1, e2, e3, e4, e5, e6]; rfl, ⟨g2, g3, g4, g5⟩, g6⟩
set_option maxRecDepth 100000 in
theorem opens_rowsw {r : Reach} {b0 : Nat} {v : Value} {d : DataW H} {ps : List MemPlace} (hv : Value.okWide Try.prog w r b0 30 v) (h : DataW.Trod enc Try.prog w base (fun _ => true) held 30 v d ps) (hw8 : W8 Try.prog 30 d) :
    ∃ (A : Option Addr) (n c : Nat) (l : List Rw), v = .slice A n c ∧ l.length = n ∧ n * 64 ≤ reachBytes ∧ Caps A n c ∧ RowsAt encR 7 w A l ∧ ∀ s ∈ l, RwOkW w s := by
  obtain ⟨A, n, c, rfl⟩ := okWide_slice Try.underlying30 hv
  obtain ⟨fuel, hf⟩ := h
  obtain ⟨A', n', c', l, e, h1, h2, h3, h4, h5, h6⟩ := ktrodw (α := Rw) (enc := encR) (k := 7) (Ok := RwOkW w) Try.underlying30 (fun _ => rfl) (by omega) dc_row (fun {_ _ _} h g => trod_roww h g) hf hw8
  rw [by_row] at h6
  simp [Value.cells] at e
  obtain ⟨rfl, rfl, rfl⟩ := e
  exact ⟨_, _, _, l, rfl, h1, h6, h3, h4, h5⟩
end
end Go.Proofs.Ytebjkgeldjgnfaa
