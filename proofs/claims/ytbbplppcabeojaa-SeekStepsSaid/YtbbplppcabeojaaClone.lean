/- Rows of nodes, of the call's own: appended; rows copied: the contracts of slices.Clone at items and at nodes, where there is one at least. -/
import Derived.Test.YtbbplppcabeojaaNodeF
import Derived.Test.YtbbplppcabeojaaRefRepl
import Derived.Lib.SliceRun
namespace Go.Proofs.Ytbbplppcabeojaa
open Go.RowKit
theorem node_info : (Try.prog.info? 83).map (fun i => (i.zero, i.size, i.bytes)) = some (some .nilIface, 1, 16) := by kernel_rfl
theorem VsAt.of_cells {w : World} {b off : Nat} {l : List Value} (hb : b < w.heap.size) (h : ∀ j u, l[j]? = some u → w.cell? ⟨b, off + j, none⟩ = some u) : VsAt w (some ⟨b, off, none⟩) l := by
  intro _
  refine ⟨b, off, rfl, hb, fun k hk => h k _ ?_⟩
  simp [vth, List.getD, hk]
theorem VsAt.news {w : World} {a : Addr} {l : List Value} (h : VsAt w (some a) l) : ∀ (j : Nat) (u : Value), l[j]? = some u → w.cell? (a.add j) = some u := by
  intro j u hu
  have hj : j < l.length := (List.getElem?_eq_some_iff.1 hu).1
  obtain ⟨b, off, e, _, hc⟩ := h (by omega)
  obtain rfl : a = ⟨b, off, none⟩ := by injection e
  rw [Go.WideShapes.add_plain, hc j hj]
  simp [vth, List.getD, hu]
theorem vs_of_own {w : World} {base n : Nat} {e : TypeId} {v : Value} {l : List Value} (h : w.ownsRow base e 1 v n l) : ∃ A c, v = .slice A n c ∧ VsAt w A l ∧ l.length = n ∧ Caps A n c := by
  have hl : l.length = n := by have := h.1; omega
  rcases h.2 with ⟨rfl, rfl⟩ | ⟨g, cap, cur, rfl, hbg, hh, hnc, _, hsz, htake⟩
  · exact ⟨none, 0, rfl, fun hp => by omega, hl, Nat.le_refl _, fun _ => rfl⟩
  · refine ⟨_, cap, rfl, VsAt.of_cells (block_lt hh) (fun j u hu => ?_), hl, hnc, fun h => by cases h⟩
    have hj : j < l.length := (List.getElem?_eq_some_iff.1 hu).1
    rw [cell_of_row w g _ cur e (0, 0) hh, ← Array.getElem?_toList, Nat.zero_add]
    rw [← htake, List.getElem?_take, if_pos (by omega)] at hu
    exact hu
theorem NodeAt.one {h : Nat} {w : World} {k : Kd} (hk : NodeAt h w k) : k.v.oneCell' = true := by
  match h, hk with
  | 1, ⟨b, A, c, q⟩ => rw [q.v]; rfl
  | h + 2, ⟨b, A, c, ks, q, _⟩ => rw [q.v]; rfl
theorem Row.one {h : Nat} {w : World} {ks : List Kd} (hr : Row h w ks) : ∀ u ∈ kvs ks, u.oneCell' = true := by
  intro u hu
  obtain ⟨k, hk, rfl⟩ := List.mem_map.1 hu
  exact (hr k hk).one
theorem wpList_append_nodes {w : World} {ops : Array Oper} {rest : List Oper} {o : Oper} {a : Act} {Q : Exit → Act → World → Prop} (hgd : o.guard = none) (s x : Operand)
    (ho : o.op = .call { callee := .builtin .append, args := #[s, x], argTypes := #[122, 122] })
    (base : Nat) (v : Value) (n : Nat) (xs : List Value) (hs : a.eval s = v) (hown : w.ownsRow base 83 1 v n xs)
    (A : Option Addr) (m c : Nat) (l : List Value) (hx : a.eval x = .slice A m c) (hA : VsAt w A l) (h1 : ∀ u ∈ l, u.oneCell' = true) (hcap : Caps A m c) (hl : l.length = m) (hsz : n + m ≤ 1000000000) (hbase : base ≤ w.heap.size)
    (h : ∀ v' w', w'.ownsRow base 83 1 v' (n + m) (xs ++ l) → w.grownBy w' v.ownBlock → wpList Try.prog ops Q rest (a.put o.dst v') w') : wpList Try.prog ops Q (o :: rest) a w := by
  obtain ⟨i0, hi0, hz0, hz1, hz2⟩ := info_parts node_info
  rcases A with _ | ad
  · obtain rfl := hcap.2 rfl
    have hm : m = 0 := by have := hcap.1; omega
    subst hm
    have hl0 : l = [] := List.eq_nil_of_length_eq_zero hl
    subst hl0
    exact wpList_append_own_none hgd s x _ ho base 83 i0 1 Try.underlying122 hi0 v n xs hs hown hx (h v w (by simpa using hown) (World.grownBy.refl w _))
  · exact wpList_append_own w hgd s x _ ho base 83 i0 _ 1 16 Try.underlying122 hi0 hz0 hz1 hz2 rfl (by omega) v n xs hs hown ad m c l hx (by omega) hA.news
      h1 (by simp only [maxLen]; omega) (by omega) hbase (fun v' w' h1 h2 _ => h v' w' h1 h2)
/-- The empty row that is the call's own. -/
theorem own_empty (w : World) (base : Nat) (e : TypeId) (size : Nat) (hb : base ≤ w.heap.size) : (w.alloc (.cells #[] e)).ownsRow base e size (.slice (some ⟨w.heap.size, 0, none⟩) 0 0) 0 [] :=
  ⟨by simp, .inr ⟨w.heap.size, 0, #[], rfl, hb, heap_alloc_new w _, Nat.le_refl _, Nat.zero_le _, by simp, by simp⟩⟩
/-- A world that agrees with another one on some blocks. -/
def Agr (lo hi : Nat) (w W : World) : Prop := hi ≤ W.heap.size ∧ ∀ b, lo ≤ b → b < hi → W.heap[b]? = w.heap[b]?
theorem Agr.self (lo : Nat) (w : World) : Agr lo w.heap.size w w := ⟨Nat.le_refl _, fun _ _ _ => rfl⟩
theorem Agr.below {lo : Nat} {w w' W : World} (h : Agr lo w'.heap.size w' W) (hb : Below w.heap.size w w') : Agr lo w.heap.size w W :=
  ⟨Nat.le_trans hb.size h.1, fun b h1 h2 => (h.2 b h1 (Nat.lt_of_lt_of_le h2 hb.size)).trans (hb.block b h2)⟩
theorem own_agr {w W : World} {base : Nat} {e : TypeId} {size : Nat} {v : Value} {n : Nat} {xs : List Value} (h : w.ownsRow base e size v n xs) (hb : Agr base w.heap.size w W) : W.ownsRow base e size v n xs := by
  refine ⟨h.1, ?_⟩
  rcases h.2 with h2 | ⟨g, cap, cur, rfl, hB, c, h3⟩
  · exact .inl h2
  · exact .inr ⟨g, cap, cur, rfl, hB, (hb.2 g hB (block_lt c)).trans c, h3⟩
set_option maxHeartbeats 4000000 in
set_option maxRecDepth 100000 in
theorem cloneI_any (A : Option Addr) (n c : Nat) (l : List I7) (w : World) (hA : ItsAt w A l) (hl : l.length = n) (hp : 0 < n) (hn : n ≤ 100000) (hc : Caps A n c) :
    Calls Try.prog 120 #[.slice A n c] w fun e w' => ∃ A' c', e = .returned (.slice A' n c') ∧ Below w.heap.size w w' ∧ (∀ W, Agr w.heap.size w'.heap.size w' W → ItsAt W A' l) ∧ Caps A' n c' := by
  have HA := Lib.hid hA
  have HL := Lib.hid hl
  have HC := Lib.hid hc
  obtain ⟨b, off, rfl, _, _⟩ := hA (by omega)
  clear hA hl hc
  have qT : ∀ (w : World) (a : Option Addr) (n c n' c' : Nat), (binOp .eql 22 (.slice a n c) (.slice none n' c')).run Try.prog w = .ok (.bool a.isNone) w := fun w a n c n' c' => Lib.run_eql_slice_nil w _ _ a n c n' c' Try.underlying22
  go_enter Try.func120, Try.ntmps120
  go_wp2_with (at_builtin; refine wpList_append_items rfl (.tmp 5) (.tmp 6) rfl w.heap.size (.slice (some ⟨w.heap.size, 0, none⟩) 0 0) 0 [] rfl (own_empty w _ _ _ (Nat.le_refl _)) (some ⟨b, off, none⟩) n c l rfl (HA.out.below ((Below.refl _ _).alloc (Nat.le_refl _) _)) HC.out HL.out (by omega) (by simp) ?_; intro v3 w3 hown3 hg3)
  have a3 : Below w.heap.size w w3 := ((Below.refl _ _).alloc (Nat.le_refl _) _).grown hg3 (by simp) (fun k hk => by simp [Value.ownBlock] at hk; omega)
  rw [Nat.zero_add, List.nil_append] at hown3
  obtain ⟨A7, c7, rfl, hI7, _, hC7⟩ := its_of_own hown3
  have HX : Hid (∀ W, Agr w.heap.size w3.heap.size w3 W → ItsAt W A7 l) := fun W hW => by
    obtain ⟨A8, c8, e8, h8, _, _⟩ := its_of_own (own_agr hown3 hW)
    injection e8 with e8
    rw [e8]
    exact h8
  clear hown3 hI7
  go_wp2
  go_ret
  exact ⟨A7, c7, rfl, a3, HX.out, hC7⟩
set_option maxHeartbeats 4000000 in
set_option maxRecDepth 100000 in
theorem cloneV_any (A : Option Addr) (n c : Nat) (l : List Value) (w : World) (hA : VsAt w A l) (h1 : ∀ u ∈ l, u.oneCell' = true) (hl : l.length = n) (hp : 0 < n) (hn : n ≤ 100000) (hc : Caps A n c) :
    Calls Try.prog 130 #[.slice A n c] w fun e w' => ∃ A' c', e = .returned (.slice A' n c') ∧ Below w.heap.size w w' ∧ (∀ W, Agr w.heap.size w'.heap.size w' W → VsAt W A' l) ∧ Caps A' n c' := by
  have HA := Lib.hid hA
  have HL := Lib.hid hl
  have HC := Lib.hid hc
  have H1 := Lib.hid h1
  obtain ⟨b, off, rfl, _, _⟩ := hA (by omega)
  clear hA hl hc h1
  have qT : ∀ (w : World) (a : Option Addr) (n c n' c' : Nat), (binOp .eql 122 (.slice a n c) (.slice none n' c')).run Try.prog w = .ok (.bool a.isNone) w := fun w a n c n' c' => Lib.run_eql_slice_nil w _ _ a n c n' c' Try.underlying122
  go_enter Try.func130, Try.ntmps130
  go_wp2_with (at_builtin; refine wpList_append_nodes rfl (.tmp 5) (.tmp 6) rfl w.heap.size (.slice (some ⟨w.heap.size, 0, none⟩) 0 0) 0 [] rfl (own_empty w _ _ _ (Nat.le_refl _)) (some ⟨b, off, none⟩) n c l rfl (HA.out.below ((Below.refl _ _).alloc (Nat.le_refl _) _)) H1.out HC.out HL.out (by omega) (by simp) ?_; intro v3 w3 hown3 hg3)
  have a3 : Below w.heap.size w w3 := ((Below.refl _ _).alloc (Nat.le_refl _) _).grown hg3 (by simp) (fun k hk => by simp [Value.ownBlock] at hk; omega)
  rw [Nat.zero_add, List.nil_append] at hown3
  obtain ⟨A7, c7, rfl, hI7, _, hC7⟩ := vs_of_own hown3
  have HX : Hid (∀ W, Agr w.heap.size w3.heap.size w3 W → VsAt W A7 l) := fun W hW => by
    obtain ⟨A8, c8, e8, h8, _, _⟩ := vs_of_own (own_agr hown3 hW)
    injection e8 with e8
    rw [e8]
    exact h8
  clear hown3 hI7
  go_wp2
  go_ret
  exact ⟨A7, c7, rfl, a3, HX.out, hC7⟩
end Go.Proofs.Ytbbplppcabeojaa
