/- Memory: a row of one's own in which things are set, cut and cleared. -/
import Derived.Test.YtjkmkobnfhepaaaGreatKRow
import Derived.Lib.SliceRun
namespace Go.Proofs.YtjkmkobnfhepaaaGreat
open Go.RowKit
set_option linter.unusedVariables false
def setD : List Value → Nat → List Value → List Value
  | xs, _, [] => xs
  | xs, o, v :: r => setD (xs.set o v) (o + 1) r
theorem setD_low : ∀ (l : List Value) (xs : List Value) (o : Nat), (setD xs o l).take o = xs.take o
  | [], xs, o => rfl
  | v :: r, xs, o => by
    have ih := setD_low r (xs.set o v) (o + 1)
    unfold setD
    have := congrArg (List.take o) ih
    rw [List.take_take, List.take_take, Nat.min_eq_left (by omega)] at this
    rw [this, List.take_set_of_le (Nat.le_refl _)]
theorem own_setD1 {w : World} {base : Nat} {e : TypeId} {size g cap n : Nat} {xs : List Value} (h : w.ownsRow base e size (.slice (some ⟨g, 0, none⟩) n cap) n xs) (i : Nat) (u : Value) : (w.setCell ⟨g, i, none⟩ u).ownsRow base e size (.slice (some ⟨g, 0, none⟩) n cap) n (xs.set i u) := by
  refine ⟨by rw [List.length_set]; exact h.1, .inr ?_⟩
  rcases h.2 with ⟨h2, _⟩ | ⟨g', cap', cur, hv, hB, c, h3, h4, h5, h6⟩
  · cases h2
  · injection hv with hv1 hv2 hv3
    injection hv1 with hv1
    injection hv1 with hv1
    subst hv1
    subst hv3
    refine ⟨g, cap, cur.setIfInBounds i u, rfl, hB, RawAt.set_ (t := e) c i u, h3, h4, by rw [Array.size_setIfInBounds]; exact h5, ?_⟩
    rw [Array.toList_setIfInBounds, List.take_set, h6]
theorem own_setD {base : Nat} {e : TypeId} {size g cap n : Nat} : ∀ (l : List Value) (o : Nat) {w : World} {xs : List Value}, w.ownsRow base e size (.slice (some ⟨g, 0, none⟩) n cap) n xs → (w.setCells g o l).ownsRow base e size (.slice (some ⟨g, 0, none⟩) n cap) n (setD xs o l)
  | [], _, _, _, h => h
  | v :: l, o, _, _, h => own_setD l (o + 1) (own_setD1 h o v)
theorem own_rawD {w : World} {base : Nat} {e : TypeId} {size g cap n : Nat} {xs : List Value} (h : w.ownsRow base e size (.slice (some ⟨g, 0, none⟩) n cap) n xs) : ∃ cur, RawAt e w g cur ∧ cur.size = cap * size ∧ n ≤ cap ∧ base ≤ g := by
  rcases h.2 with ⟨h2, _⟩ | ⟨g', cap', cur, hv, hB, c, h3, h4, h5, h6⟩
  · cases h2
  · injection hv with hv1 hv2 hv3
    injection hv1 with hv1
    injection hv1 with hv1
    subst hv1
    subst hv3
    exact ⟨cur, c, h5, h3, hB⟩
theorem own_cutD {w : World} {base : Nat} {e : TypeId} {size g cap n m : Nat} {xs : List Value} (h : w.ownsRow base e size (.slice (some ⟨g, 0, none⟩) n cap) n xs) (hm : m ≤ n) : w.ownsRow base e size (.slice (some ⟨g, 0, none⟩) m cap) m (xs.take (m * size)) := by
  have hms : m * size ≤ n * size := Nat.mul_le_mul_right _ hm
  refine ⟨by rw [List.length_take, h.1]; omega, .inr ?_⟩
  rcases h.2 with ⟨h2, _⟩ | ⟨g', cap', cur, hv, hB, c, h3, h4, h5, h6⟩
  · cases h2
  · injection hv with hv1 hv2 hv3
    injection hv1 with hv1
    injection hv1 with hv1
    subst hv1
    subst hv3
    exact ⟨g, cap, cur, rfl, hB, c, by omega, h4, h5, by rw [← h6, List.take_take, Nat.min_eq_left hms]⟩
theorem zero_one {z : Array Value} (h : ∀ u ∈ z.toList, u.oneCell' = true) (n : Nat) : ∀ u ∈ (Builtin.zeroCells z n).toList, u.oneCell' = true := by
  intro u hu
  simp only [Builtin.zeroCells, Array.toList_map, List.mem_map] at hu
  obtain ⟨i, hi, rfl⟩ := hu
  have hi2 : i < n * z.size := by simpa using hi
  have hz : 0 < z.size := by
    rcases Nat.eq_zero_or_pos z.size with e | e
    · rw [e] at hi2; omega
    · exact e
  have hm : i % z.size < z.size := Nat.mod_lt _ hz
  rw [getElem!_pos z (i % z.size) hm]
  exact h _ (by rw [Array.mem_toList_iff]; exact Array.getElem_mem hm)
theorem run_clearD {P : Program} {t e : TypeId} {k bytes : Nat} (S : SlT P t e k bytes) {z : Value} (hz : ∀ w, (zeroValue e).run P w = .ok z w) (hzk : z.cells.size = k) (hone : ∀ u ∈ z.cells.toList, u.oneCell' = true) (w : World) (ty : TypeId) (g o n c : Nat) (cur : Array Value) (hr : RawAt e w g cur) (hs : o + n * k ≤ cur.size) (hn : 0 < n) :
    (Builtin.clear_ #[t] ty #[.slice (some ⟨g, o, none⟩) n c]).run P w = .ok (.tuple #[]) (w.setCells g o (Builtin.zeroCells z.cells n).toList) := by
  have hlen : (Builtin.zeroCells z.cells n).toList.length = n * k := by rw [Array.length_toList, size_zeroCells, hzk]
  have hst := run_storeCells_cells (P := P) g o (Builtin.zeroCells z.cells n).toList 0 w (by
    intro j hj
    rw [hlen] at hj
    rw [RawAt.cell hr, Array.getElem?_eq_getElem (by omega)]; rfl) (fun j hj => RawAt.free hr _) (zero_one hone n)
  simp only [Nat.add_zero] at hst
  obtain ⟨m, rfl⟩ : ∃ m, n = m + 1 := ⟨n - 1, by omega⟩
  simp [Builtin.clear_, run_underlying S.ht, hz, hst]
theorem own_freeD {w : World} {base : Nat} {e : TypeId} {size g cap n : Nat} {xs : List Value} (h : w.ownsRow base e size (.slice (some ⟨g, 0, none⟩) n cap) n xs) (i : Nat) : w.frozen? ⟨g, i, none⟩ = false := by
  obtain ⟨cur, h1, _⟩ := own_rawD h
  exact RawAt.free h1 i
section
variable {α : Type} {enc : α → List Value} {k : Nat}
theorem own_someD (hk : ∀ x, (enc x).length = k) {w : World} {base : Nat} {e : TypeId} {g cap n : Nat} {l : List α} (h : w.ownsRow base e k (.slice (some ⟨g, 0, none⟩) n cap) n (kfl enc l)) (hp : 0 < k) {i : Nat} (hi : i < n) {c : Nat} (hc : c < k) : ∃ v, w.cell? ⟨g, i * k + c, none⟩ = some v := by
  obtain ⟨cur, h1, h2, h3, _⟩ := own_rawD h
  have hlt : i * k + c < cur.size := by
    rw [h2]
    have := Nat.mul_le_mul_right k (show i + 1 ≤ cap by omega)
    rw [Nat.add_mul, Nat.one_mul] at this
    omega
  exact ⟨cur[i * k + c], by rw [RawAt.cell h1, Array.getElem?_eq_getElem hlt]⟩
theorem own_clearD (hk : ∀ x, (enc x).length = k) {w : World} {base : Nat} {e : TypeId} {g cap n i : Nat} {F T : List α} (h : w.ownsRow base e k (.slice (some ⟨g, 0, none⟩) n cap) n (kfl enc (F ++ T))) (hi : F.length = i) (hn : i ≤ n) (zs : List Value) :
    (w.setCells g (i * k) zs).ownsRow base e k (.slice (some ⟨g, 0, none⟩) i cap) i (kfl enc F) := by
  have h1 := own_cutD (own_setD zs (i * k) h) hn
  rw [setD_low, kfl_append, List.take_append_of_le_length (by rw [kfl_length hk, hi]; exact Nat.le_refl _), List.take_of_length_le (by rw [kfl_length hk, hi]; exact Nat.le_refl _)] at h1
  exact h1
theorem kfl_setD (hk : ∀ x, (enc x).length = k) : ∀ (l : List α) (j : Nat) (h : j < l.length) (a : α), setD (kfl enc l) (j * k) (enc a) = kfl enc (l.set j a)
  | x :: l, 0, _, a => by
    rw [Nat.zero_mul, List.set_cons_zero, kfl_cons, kfl_cons]
    have key : ∀ (vs ys rest : List Value), vs.length = ys.length → ∀ pre : List Value, setD (pre ++ ys ++ rest) pre.length vs = pre ++ vs ++ rest := by
      intro vs
      induction vs with
      | nil => intro ys rest h pre; cases ys with | nil => rfl | cons y ys => simp at h
      | cons v vs ih =>
        intro ys rest h pre
        cases ys with
        | nil => simp at h
        | cons y ys =>
          unfold setD
          have e1 : (pre ++ (y :: ys) ++ rest).set pre.length v = (pre ++ [v]) ++ ys ++ rest := by
            rw [List.append_assoc, List.set_append_right _ _ (Nat.le_refl _), Nat.sub_self]
            simp
          rw [e1, show pre.length + 1 = (pre ++ [v]).length by simp, ih ys rest (by simpa using h) (pre ++ [v])]
          simp
    exact key (enc a) (enc x) (kfl enc l) (by rw [hk, hk]) []
  | x :: l, j + 1, h, a => by
    have ih := kfl_setD hk l j (by simpa using h) a
    rw [List.set_cons_succ, kfl_cons, kfl_cons, ← ih]
    have key : ∀ (vs xs ys : List Value) (o : Nat), setD (xs ++ ys) (xs.length + o) vs = xs ++ setD ys o vs := by
      intro vs
      induction vs with
      | nil => intro xs ys o; rfl
      | cons v vs ih =>
        intro xs ys o
        unfold setD
        rw [List.set_append_right _ _ (by omega), Nat.add_sub_cancel_left, show xs.length + o + 1 = xs.length + (o + 1) by omega, ih]
    have := key (enc a) (enc x) (kfl enc l) (j * k)
    rw [hk] at this
    rw [show (j + 1) * k = k + j * k by rw [Nat.add_mul, Nat.one_mul]; omega]
    exact this
end
end Go.Proofs.YtjkmkobnfhepaaaGreat
