/- Rows of any things: cut, and appended onto a row of one's own, the source nil, empty or not. -/
import Derived.Test.YtnfjleobcfhpnaaKRow
import Derived.Deep.AppendLies
import Derived.Maps.AppendAt
import Derived.Lib.SliceRun
namespace Go.Proofs.Ytnfjleobcfhpnaa
open Go.RowKit
/-- A slice type and what its elements are: k cells, so many bytes. -/
structure SlT (P : Program) (t e : TypeId) (k bytes : Nat) : Prop where
  ht : P.underlying t = some (.slice e)
  ex : ∃ i z, P.info? e = some i ∧ i.zero = some z ∧ i.size = k ∧ i.bytes = bytes ∧ z.cells.size = k
  hc : P.cellsOf e = k
theorem slt_of {P : Program} {t e : TypeId} {k bytes : Nat} {z : Value} (ht : P.underlying t = some (.slice e)) (h : (P.info? e).map (fun i => (i.zero, i.size, i.bytes)) = some (some z, k, bytes)) (hz : z.cells.size = k) (hc : P.cellsOf e = k) : SlT P t e k bytes := by
  obtain ⟨i0, h0, h1, h2, h3⟩ := info_parts h
  exact ⟨ht, ⟨i0, z, h0, h1, h2, h3, hz⟩, hc⟩
/-- Where a row of k cells each is cut. -/
def cutK (A : Option Addr) (c k j : Nat) : Option Addr := if c = j then A else A.map (·.add (j * k))
theorem cutK_caps {A : Option Addr} {n c k j m : Nat} (h : Caps A n c) (hm : j + m ≤ n) : Caps (cutK A c k j) m (c - j) := by
  obtain ⟨h1, h2⟩ := h
  refine ⟨by omega, fun he => ?_⟩
  unfold cutK at he
  cases A with
  | none => rw [h2 rfl]; omega
  | some a => split at he <;> simp at he
section
variable {P : Program} {w : World} {α : Type} {enc : α → List Value} {k : Nat}
theorem RowsAt.cut {A : Option Addr} {l : List α} {n c : Nat} (h : RowsAt enc k w A l) (hl : l.length = n) (hn : n ≤ c) {j m : Nat} (hjm : j + m ≤ n) : RowsAt enc k w (cutK A c k j) ((l.drop j).take m) := by
  intro hp
  have hlen : ((l.drop j).take m).length = m := by rw [List.length_take, List.length_drop]; omega
  obtain ⟨b, off, rfl, hb, hc⟩ := h (by omega)
  have hne : ¬ c = j := by omega
  refine ⟨b, off + j * k, by simp [cutK, hne, Addr.add], hb, fun i hi x hx => ?_⟩
  have hi' : j + i < l.length := by omega
  have e := hc (j + i) hi' x hx
  have e2 : off + j * k + i * k + x = off + (j + i) * k + x := by rw [Nat.add_mul]; omega
  rw [e2, e]
  simp
theorem cutK_run {t e : TypeId} {bytes : Nat} (S : SlT P t e k bytes) (A : Option Addr) (n c lo hi : Nat) (h1 : lo ≤ hi) (h2 : hi ≤ c) (w : World) :
    (Instr.slice t (.slice A n c) (some (.int .i64 (lo : Int))) (some (.int .i64 (hi : Int))) none).run P w = .ok (.slice (cutK A c k lo) (hi - lo) (c - lo)) w := by
  obtain ⟨ht, ⟨i, z, hi0, _⟩, hc⟩ := S
  have he : P.elem t = e := by simp [Program.elem, ht]
  subst he
  rw [run_slice_lh _ _ _ _ _ ht _ _ _ _ (by omega) (by omega) (by omega), run_sizeOf _ hi0, hc]
  simp [Result.andThen, sliced, cutK]
theorem cutK_hd {t e : TypeId} {bytes : Nat} (S : SlT P t e k bytes) (A : Option Addr) (n c hi : Nat) (h2 : hi ≤ c) (w : World) :
    (Instr.slice t (.slice A n c) none (some (.int .i64 (hi : Int))) none).run P w = .ok (.slice A hi c) w := by
  obtain ⟨ht, ⟨i, z, hi0, _⟩, hc⟩ := S
  have he : P.elem t = e := by simp [Program.elem, ht]
  subst he
  rw [run_slice_h _ _ _ _ _ ht _ _ (by omega) (by omega), run_sizeOf _ hi0]
  have h0 : (A.map fun x => x.add 0) = A := by cases A <;> simp [Addr.add]
  simp [Result.andThen, sliced, h0]
theorem cutK_tl {t e : TypeId} {bytes : Nat} (S : SlT P t e k bytes) (A : Option Addr) (n c lo : Nat) (h2 : lo ≤ n) (w : World) :
    (Instr.slice t (.slice A n c) (some (.int .i64 (lo : Int))) none none).run P w = .ok (.slice (cutK A c k lo) (n - lo) (c - lo)) w := by
  obtain ⟨ht, ⟨i, z, hi0, _⟩, hc⟩ := S
  have he : P.elem t = e := by simp [Program.elem, ht]
  subst he
  rw [run_slice_l _ _ _ _ _ ht _ _ (by omega) (by omega), run_sizeOf _ hi0, hc]
  simp [Result.andThen, sliced, cutK]
theorem run_appK {t e : TypeId} {bytes : Nat} (S : SlT P t e k bytes) (hk : ∀ x, (enc x).length = k) (hp : 0 < k) (ty : TypeId) {base : Nat} {v : Value} {n : Nat} {xs : List Value} (hown : w.ownsRow base e k v n xs)
    (A : Option Addr) (m c : Nat) (l : List α) (hA : RowsAt enc k w A l) (hcap : Caps A m c) (hl : l.length = m) (h1 : ∀ u ∈ kfl enc l, u.oneCell' = true) (h63 : n + m ≤ maxLen) (hbytes : (n + m) * bytes ≤ 140737488355328) (hbase : base ≤ w.heap.size) :
    ∃ v' w', (Builtin.append_ #[t, t] ty #[v, .slice A m c]).run P w = .ok v' w' ∧ w'.ownsRow base e k v' (n + m) (xs ++ kfl enc l) ∧ w.grownBy w' v.ownBlock ∧ (v'.ownBlock = v.ownBlock ∨ v'.ownBlock = some w.heap.size) := by
  obtain ⟨ht, ⟨i, z, hi, hz, hs, hb, hzs⟩, hc⟩ := S
  rcases A with _ | ad
  · obtain rfl := hcap.2 rfl
    have hm : m = 0 := by have := hcap.1; omega
    subst hm
    have hl0 : l = [] := List.eq_nil_of_length_eq_zero hl
    subst hl0
    exact ⟨v, w, run_append_owned_none (P := P) (w := w) base t ty e i k ht hi v n xs hown, by simpa [kfl] using hown, World.grownBy.refl w _, .inl rfl⟩
  · obtain ⟨v', w', hrun, h2, h3, _, h5⟩ := run_append_own_at (P := P) w base t ty e i z k bytes ht hi hz hs hb hzs hp v n xs hown ad m c (kfl enc l) (by rw [kfl_length hk, hl]) (hA.news hk hp) h1 h63 hbytes hbase
    exact ⟨v', w', hrun, h2, h3, h5⟩
section
variable {ops : Array Oper} {o : Oper} {a : Act} {Q : Exit → Act → World → Prop}
theorem wpList_appK {rest : List Oper} {t e : TypeId} {bytes : Nat} (S : SlT P t e k bytes) (hk : ∀ x, (enc x).length = k) (hp : 0 < k) (hgd : o.guard = none) (s x : Operand) (ho : o.op = .call { callee := .builtin .append, args := #[s, x], argTypes := #[t, t] })
    {base : Nat} {v : Value} {n : Nat} {xs : List Value} (hs : a.eval s = v) (hown : w.ownsRow base e k v n xs) (A : Option Addr) (m c : Nat) (l : List α) (hx : a.eval x = .slice A m c) (hA : RowsAt enc k w A l) (hcap : Caps A m c) (hl : l.length = m) (h1 : ∀ u ∈ kfl enc l, u.oneCell' = true)
    (h63 : n + m ≤ maxLen) (hbytes : (n + m) * bytes ≤ 140737488355328) (hbase : base ≤ w.heap.size)
    (h : ∀ v' w', w'.ownsRow base e k v' (n + m) (xs ++ kfl enc l) → w.grownBy w' v.ownBlock → (v'.ownBlock = v.ownBlock ∨ v'.ownBlock = some w.heap.size) → wpList P ops Q rest (a.put o.dst v') w') : wpList P ops Q (o :: rest) a w := by
  refine wpList_plain hgd fun K hK => ?_
  obtain ⟨v', w', hrun, h2, h3, h4⟩ := run_appK S hk hp o.type hown A m c l hA hcap hl h1 h63 hbytes hbase
  unfold Oper.wp
  simp only [execOp, ho, resolve, invoke, builtin, Sem.run_bind, Sem.run_pure, Result.andThen_ok, List.map_toArray, List.map_cons, List.map_nil, hs, hx, hrun]
  exact hK _ _ (h v' w' h2 h3 h4)
theorem step_appK {K : Act → World → Prop} {E : Prop} {t e : TypeId} {bytes : Nat} (S : SlT P t e k bytes) (hk : ∀ x, (enc x).length = k) (hp : 0 < k) (hgd : o.guard = none) (s x : Operand) (ho : o.op = .call { callee := .builtin .append, args := #[s, x], argTypes := #[t, t] })
    {base : Nat} {v : Value} {n : Nat} {xs : List Value} (hs : a.eval s = v) (hown : w.ownsRow base e k v n xs) (A : Option Addr) (m c : Nat) (l : List α) (hx : a.eval x = .slice A m c) (hA : RowsAt enc k w A l) (hcap : Caps A m c) (hl : l.length = m) (h1 : ∀ u ∈ kfl enc l, u.oneCell' = true)
    (h63 : n + m ≤ maxLen) (hbytes : (n + m) * bytes ≤ 140737488355328) (hbase : base ≤ w.heap.size)
    (h : ∀ v' w', w'.ownsRow base e k v' (n + m) (xs ++ kfl enc l) → w.grownBy w' v.ownBlock → (v'.ownBlock = v.ownBlock ∨ v'.ownBlock = some w.heap.size) → K (a.put o.dst v') w') :
    if Region.wanted o (yielded ops a.tmps) = true then Oper.wp P o a w K Q else E := by
  have hw : Region.wanted o (yielded ops a.tmps) = true := by simp [Region.wanted, hgd]
  rw [if_pos hw]
  obtain ⟨v', w', hrun, h2, h3, h4⟩ := run_appK S hk hp o.type hown A m c l hA hcap hl h1 h63 hbytes hbase
  unfold Oper.wp execOp
  simp only [ho, resolve, invoke, builtin, Sem.run_bind, Sem.run_pure, Result.andThen_ok, List.map_toArray, List.map_cons, List.map_nil, hs, hx, hrun]
  exact h v' w' h2 h3 h4
end
end
end Go.Proofs.Ytnfjleobcfhpnaa
