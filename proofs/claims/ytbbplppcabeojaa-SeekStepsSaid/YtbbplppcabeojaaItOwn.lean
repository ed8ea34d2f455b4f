/- Items in a row of the call's own: laid one behind the other; appended. -/
import Derived.Test.YtbbplppcabeojaaItBase
import Derived.Test.YtbbplppcabeojaaOwnBase
namespace Go.Proofs.Ytbbplppcabeojaa
open Go.RowKit
/-- The cells of items. -/
def iflat (l : List I7) : List Value := l.flatMap fun i => [.int .i64 i.tag, .int .i64 i.id, .int .i64 i.d0, .int .i64 i.d1, .int .i64 i.d2, .int .i64 i.mx, .string i.tx]
theorem iflat_length (l : List I7) : (iflat l).length = l.length * 7 := by
  induction l with
  | nil => rfl
  | cons i l ih => simp only [iflat, List.flatMap_cons, List.length_append, List.length_cons, List.length_nil] at ih ⊢; omega
theorem iflat_append (a b : List I7) : iflat (a ++ b) = iflat a ++ iflat b := by simp [iflat]
/-- An item's cell by its number. -/
def icell (i : I7) : Nat → Value
  | 0 => .int .i64 i.tag
  | 1 => .int .i64 i.id
  | 2 => .int .i64 i.d0
  | 3 => .int .i64 i.d1
  | 4 => .int .i64 i.d2
  | 5 => .int .i64 i.mx
  | _ => .string i.tx
theorem iflat_at : ∀ (l : List I7) (k f : Nat), k < l.length → f < 7 → (iflat l)[k * 7 + f]? = some (icell (ith l k) f)
  | [], k, f, h, _ => absurd h (by simp)
  | i :: l, 0, f, _, hf => by
    obtain rfl | rfl | rfl | rfl | rfl | rfl | rfl : f = 0 ∨ f = 1 ∨ f = 2 ∨ f = 3 ∨ f = 4 ∨ f = 5 ∨ f = 6 := by omega
    all_goals simp [iflat, ith, icell]
  | i :: l, k + 1, f, h, hf => by
    have := iflat_at l k f (by simpa using h) hf
    rw [show (k + 1) * 7 + f = (k * 7 + f) + 7 from by omega]
    simpa [iflat, ith] using this
theorem ItsAt.of_cells {w : World} {b off : Nat} {l : List I7} (hb : b < w.heap.size) (h : ∀ j u, (iflat l)[j]? = some u → w.cell? ⟨b, off + j, none⟩ = some u) : ItsAt w (some ⟨b, off, none⟩) l := by
  intro _
  refine ⟨b, off, rfl, hb, fun k hk => ?_⟩
  have g := fun f (hf : f < 7) => h _ _ (iflat_at l k f hk hf)
  have g0 := g 0 (by omega)
  have g1 := g 1 (by omega)
  have g2 := g 2 (by omega)
  have g3 := g 3 (by omega)
  have g4 := g 4 (by omega)
  have g5 := g 5 (by omega)
  have g6 := g 6 (by omega)
  simp only [← Nat.add_assoc, Nat.add_zero] at g0 g1 g2 g3 g4 g5 g6
  exact ⟨g0, g1, g2, g3, g4, g5, g6⟩
theorem ItsAt.news {w : World} {a : Addr} {l : List I7} (h : ItsAt w (some a) l) : ∀ (j : Nat) (u : Value), (iflat l)[j]? = some u → w.cell? (a.add j) = some u := by
  intro j u hu
  have hj : j < l.length * 7 := by rw [← iflat_length]; exact (List.getElem?_eq_some_iff.1 hu).1
  obtain ⟨b, off, e, _, hc⟩ := h (by omega)
  obtain rfl : a = ⟨b, off, none⟩ := by injection e
  obtain ⟨e0, e1, e2, e3, e4, e5, e6⟩ := hc (j / 7) (by omega)
  have hat := iflat_at l (j / 7) (j % 7) (by omega) (by omega)
  rw [show j / 7 * 7 + j % 7 = j from by omega, hu] at hat
  rw [hat, Go.WideShapes.add_plain]
  have hf : j % 7 = 0 ∨ j % 7 = 1 ∨ j % 7 = 2 ∨ j % 7 = 3 ∨ j % 7 = 4 ∨ j % 7 = 5 ∨ j % 7 = 6 := by omega
  rcases hf with hf | hf | hf | hf | hf | hf | hf
  · rw [hf, show off + j = off + j / 7 * 7 from by omega]; exact e0
  · rw [hf, show off + j = off + j / 7 * 7 + 1 from by omega]; exact e1
  · rw [hf, show off + j = off + j / 7 * 7 + 2 from by omega]; exact e2
  · rw [hf, show off + j = off + j / 7 * 7 + 3 from by omega]; exact e3
  · rw [hf, show off + j = off + j / 7 * 7 + 4 from by omega]; exact e4
  · rw [hf, show off + j = off + j / 7 * 7 + 5 from by omega]; exact e5
  · rw [hf, show off + j = off + j / 7 * 7 + 6 from by omega]; exact e6
theorem its_of_own {w : World} {base n : Nat} {e : TypeId} {v : Value} {l : List I7} (h : w.ownsRow base e 7 v n (iflat l)) : ∃ A c, v = .slice A n c ∧ ItsAt w A l ∧ l.length = n ∧ Caps A n c := by
  have hl : l.length = n := by have := h.1; rw [iflat_length] at this; omega
  rcases h.2 with ⟨rfl, rfl⟩ | ⟨g, cap, cur, rfl, hbg, hh, hnc, _, hsz, htake⟩
  · exact ⟨none, 0, rfl, fun hp => by omega, hl, Nat.le_refl _, fun _ => rfl⟩
  · refine ⟨_, cap, rfl, ItsAt.of_cells (block_lt hh) (fun j u hu => ?_), hl, hnc, fun h => by cases h⟩
    have hj : j < l.length * 7 := by rw [← iflat_length]; exact (List.getElem?_eq_some_iff.1 hu).1
    rw [cell_of_row w g _ cur e (0, 0) hh, ← Array.getElem?_toList, Nat.zero_add]
    rw [← htake, List.getElem?_take, if_pos (by omega)] at hu
    exact hu
theorem iflat_one (l : List I7) : ∀ u ∈ iflat l, u.oneCell' = true := by
  intro u hu
  obtain ⟨i, _, hi⟩ := List.mem_flatMap.1 hu
  simp only [List.mem_cons, List.not_mem_nil, or_false] at hi
  rcases hi with rfl | rfl | rfl | rfl | rfl | rfl | rfl <;> rfl
theorem news_new (w : World) (t : TypeId) (x : I7) : ∀ (j : Nat) (u : Value), (iflat [x])[j]? = some u → (w.alloc (.cells (ics x) t)).cell? ((⟨w.heap.size, 0, none⟩ : Addr).add j) = some u := by
  intro j u hu
  rw [Go.WideShapes.add_plain, cell_of_row _ _ _ _ t _ (heap_alloc_new w _), Nat.zero_add, ← Array.getElem?_toList]
  exact hu
theorem item_info : (Try.prog.info? 54).map (fun i => (i.zero, i.size, i.bytes)) = some (some (.agg #[.int .i64 0, .int .i64 0, .int .i64 0, .int .i64 0, .int .i64 0, .int .i64 0, .string ⟨#[]⟩]), 7, 64) := by kernel_rfl
theorem ritem_info : (Try.prog.info? 75).map (fun i => (i.zero, i.size, i.bytes)) = some (some (.agg #[.int .i64 0, .int .i64 0, .int .i64 0, .int .i64 0, .int .i64 0, .int .i64 0, .string ⟨#[]⟩]), 7, 64) := by kernel_rfl
theorem wpList_append_items {w : World} {ops : Array Oper} {rest : List Oper} {o : Oper} {a : Act} {Q : Exit → Act → World → Prop} (hgd : o.guard = none) (s x : Operand)
    (ho : o.op = .call { callee := .builtin .append, args := #[s, x], argTypes := #[22, 22] })
    (base : Nat) (v : Value) (n : Nat) (xs : List Value) (hs : a.eval s = v) (hown : w.ownsRow base 54 7 v n xs)
    (A : Option Addr) (m c : Nat) (l : List I7) (hx : a.eval x = .slice A m c) (hA : ItsAt w A l) (hcap : Caps A m c) (hl : l.length = m) (hsz : n + m ≤ 1000000000) (hbase : base ≤ w.heap.size)
    (h : ∀ v' w', w'.ownsRow base 54 7 v' (n + m) (xs ++ iflat l) → w.grownBy w' v.ownBlock → wpList Try.prog ops Q rest (a.put o.dst v') w') : wpList Try.prog ops Q (o :: rest) a w := by
  obtain ⟨i0, hi0, hz0, hz1, hz2⟩ := info_parts item_info
  rcases A with _ | ad
  · obtain rfl := hcap.2 rfl
    have hm : m = 0 := by have := hcap.1; omega
    subst hm
    have hl0 : l = [] := List.eq_nil_of_length_eq_zero hl
    subst hl0
    exact wpList_append_own_none hgd s x _ ho base 54 i0 7 Try.underlying22 hi0 v n xs hs hown hx (h v w (by simpa [iflat] using hown) (World.grownBy.refl w _))
  · exact wpList_append_own w hgd s x _ ho base 54 i0 _ 7 64 Try.underlying22 hi0 hz0 hz1 hz2 rfl (by omega) v n xs hs hown ad m c (iflat l) hx (by rw [iflat_length]; omega) hA.news
      (iflat_one l) (by simp only [maxLen]; omega) (by omega) hbase (fun v' w' h1 h2 _ => h v' w' h1 h2)
end Go.Proofs.Ytbbplppcabeojaa
