/- Maps that a call makes: what is at each key, as a function; looking up, storing, deleting. -/
import Derived.Maps.OwnSet
import Derived.WalkKit
namespace Go.Proofs.Ytnfjleobcfhpnaa
open Go.RowKit
open Go.Maps (Keyed)
set_option linter.unusedVariables false
/-- An element is kept as it is. -/
def heldR (v : Value) : Option (DataW Value × List MemPlace) := some (.held v, [])
/-- How keys are told. -/
structure KeyEnc {κ : Type} (P : Program) (K : TypeId) (kv : κ → Value) (kl : κ → Lit) (ok : κ → Prop) : Prop where
  keyed : Keyed P K
  of : ∀ x, ok x → keyOf P K (kv x) = some (kl x)
  inj : ∀ x y, kl x = kl y → x = y
  lit : ∀ x, WideAt.IsKeyLit (kl x)
/-- A map in a block: what it has at each key. -/
def MapV {κ : Type} (P : Program) (K : TypeId) (kl : κ → Lit) (w : World) (b n : Nat) (f : κ → Option Value) : Prop :=
  ∃ D : DataW Value, w.ownsMap P K heldR b n D ∧ ∀ x, Maps.has D (kl x) = (f x).isSome ∧ ∀ z, D.atKey (kl x) (.held z) = .held ((f x).getD z)
section
variable {κ : Type} {P : Program} {K : TypeId} {kv : κ → Value} {kl : κ → Lit} {ok : κ → Prop}
theorem MapV.made (w : World) : MapV P K kl (w.alloc (.map #[] 0)) w.heap.size 0 (fun _ => none) := ⟨_, World.ownsMap_made w P K heldR, fun x => ⟨rfl, fun z => rfl⟩⟩
theorem MapV.lt {w : World} {b n : Nat} {f : κ → Option Value} (h : MapV P K kl w b n f) : b < w.heap.size := by obtain ⟨D, h, _⟩ := h; exact h.lt
theorem MapV.block {w w' : World} {b n : Nat} {f : κ → Option Value} (h : MapV P K kl w b n f) (he : w'.heap[b]? = w.heap[b]?) : MapV P K kl w' b n f := by
  obtain ⟨D, ⟨es, clock, hb, r⟩, g⟩ := h
  exact ⟨D, ⟨es, clock, he.trans hb, r⟩, g⟩
theorem MapV.below {w w' : World} {b n : Nat} {f : κ → Option Value} (h : MapV P K kl w b n f) (hw : Below w.heap.size w w') : MapV P K kl w' b n f := h.block (hw.block b h.lt)
theorem MapV.setCell {w : World} {b n : Nat} {f : κ → Option Value} (h : MapV P K kl w b n f) {a : Addr} (ha : b ≠ a.block) (u : Value) : MapV P K kl (w.setCell a u) b n f := h.block (Below.heap_setCell w a u b ha)
theorem MapV.drew {w : World} {b n : Nat} {f : κ → Option Value} (h : MapV P K kl w b n f) : MapV P K kl w.drew b n f := h
theorem MapV.congr {w : World} {b n : Nat} {f g : κ → Option Value} (h : MapV P K kl w b n f) (e : ∀ x, f x = g x) : MapV P K kl w b n g := by obtain rfl : f = g := funext e; exact h
theorem MapV.put [DecidableEq κ] {t e : TypeId} {w w' : World} {b n : Nat} {f : κ → Option Value} {D D' : DataW Value} (E : KeyEnc P K kv kl ok) (hD : Maps.IsMap D) (h : ∀ x, Maps.has D (kl x) = (f x).isSome ∧ ∀ z, D.atKey (kl x) (.held z) = .held ((f x).getD z)) (k : κ) (v : Value) :
    ∀ x, Maps.has (D.put (kl k) (.held v)) (kl x) = (if x = k then some v else f x).isSome ∧ ∀ z, (D.put (kl k) (.held v)).atKey (kl x) (.held z) = .held ((if x = k then some v else f x).getD z) := by
  intro x
  by_cases hx : x = k
  · subst hx
    rw [if_pos rfl]
    exact ⟨Maps.has_put_same hD (E.lit x) _, fun z => Maps.atKey_put_same hD (E.lit x) _ _⟩
  · rw [if_neg hx]
    have hne : kl x ≠ kl k := fun h => hx (E.inj _ _ h)
    exact ⟨by rw [Maps.has_put_other hne]; exact (h x).1, fun z => by rw [Maps.atKey_put_other hne]; exact (h x).2 z⟩
theorem MapV.dels [DecidableEq κ] {w w' : World} {b n : Nat} {f : κ → Option Value} {D D' : DataW Value} (E : KeyEnc P K kv kl ok) (h : ∀ x, Maps.has D (kl x) = (f x).isSome ∧ ∀ z, D.atKey (kl x) (.held z) = .held ((f x).getD z)) (k : κ) :
    ∀ x, Maps.has (D.del (kl k)) (kl x) = (if x = k then none else f x).isSome ∧ ∀ z, (D.del (kl k)).atKey (kl x) (.held z) = .held ((if x = k then none else f x).getD z) := by
  intro x
  by_cases hx : x = k
  · subst hx
    rw [if_pos rfl]
    exact ⟨Maps.has_del_same, fun z => Maps.atKey_del_same _⟩
  · rw [if_neg hx]
    have hne : kl x ≠ kl k := fun h => hx (E.inj _ _ h)
    exact ⟨by rw [Maps.has_del_other hne]; exact (h x).1, fun z => by rw [Maps.atKey_del_other hne]; exact (h x).2 z⟩
/-- 'v, ok := m[k]'. -/
theorem MapV.look2 {t e : TypeId} {w : World} {b n : Nat} {f : κ → Option Value} (h : MapV P K kl w b n f) (E : KeyEnc P K kv kl ok) (ht : P.underlying t = some (.map K e)) {z : Value} (hz : (zeroValue e).run P w = .ok z w) (k : κ) (hk : ok k) :
    (Instr.lookup t (.map (some b)) (kv k) true).run P w = .ok (.tuple #[(f k).getD z, .bool (f k).isSome]) w := by
  obtain ⟨D, h, g⟩ := h
  obtain ⟨v, ps, hrun, hv⟩ := h.look_ok E.keyed ht hz (zd := .held z) (zp := []) rfl (E.of k hk)
  rw [hrun, (g k).1]
  have : (DataW.held v : DataW Value) = .held ((f k).getD z) := by
    have := congrArg (Option.map Prod.fst) hv
    simp [heldR] at this
    rw [this]
    exact (g k).2 z
  injection this with this
  rw [this]
/-- 'v := m[k]'. -/
theorem MapV.look1 {t e : TypeId} {w : World} {b n : Nat} {f : κ → Option Value} (h : MapV P K kl w b n f) (E : KeyEnc P K kv kl ok) (ht : P.underlying t = some (.map K e)) {z : Value} (hz : (zeroValue e).run P w = .ok z w) (k : κ) (hk : ok k) :
    (Instr.lookup t (.map (some b)) (kv k) false).run P w = .ok ((f k).getD z) w := by
  obtain ⟨D, h, g⟩ := h
  obtain ⟨v, ps, hrun, hv⟩ := h.lookup E.keyed ht hz (zd := .held z) (zp := []) rfl (E.of k hk)
  rw [hrun]
  have : (DataW.held v : DataW Value) = .held ((f k).getD z) := by
    have := congrArg (Option.map Prod.fst) hv
    simp [heldR] at this
    rw [this]
    exact (g k).2 z
  injection this with this
  rw [this]
/-- 'm[k] = v'. -/
theorem MapV.store [DecidableEq κ] {t e : TypeId} {w : World} {b n : Nat} {f : κ → Option Value} (h : MapV P K kl w b n f) (E : KeyEnc P K kv kl ok) (ht : P.underlying t = some (.map K e)) (hn : n < maxLen) (k : κ) (hk : ok k) (v : Value) :
    ∃ w', (Instr.mapUpdate t (.map (some b)) (kv k) v).run P w = .ok () w' ∧ MapV P K kl w' b (n + 1) (fun x => if x = k then some v else f x) ∧ w.grownBy w' (some b) := by
  obtain ⟨D, h, g⟩ := h
  obtain ⟨w', hrun, ho, ht⟩ := h.store E.keyed ht hn (E.of k hk) (val := v) (d := .held v) (ps := []) rfl
  exact ⟨w', hrun, ⟨_, ho, MapV.put (t := 0) (e := 0) (w := w) (w' := w) (b := b) (n := n) (D' := D) E h.isMap g k v⟩, ht.grown⟩
/-- 'delete(m, k)'. -/
theorem MapV.drop [DecidableEq κ] {t e : TypeId} {w : World} {b n : Nat} {f : κ → Option Value} (h : MapV P K kl w b n f) (E : KeyEnc P K kv kl ok) (ht : P.underlying t = some (.map K e)) (k : κ) (hk : ok k) (ty : TypeId) :
    ∃ w', (Builtin.delete_ #[t, K] ty #[.map (some b), kv k]).run P w = .ok (.tuple #[]) w' ∧ MapV P K kl w' b n (fun x => if x = k then none else f x) ∧ w.grownBy w' (some b) := by
  obtain ⟨D, h, g⟩ := h
  obtain ⟨w', hrun, ho, ht⟩ := h.drop E.keyed ht (E.of k hk) ty
  exact ⟨w', hrun, ⟨_, ho, MapV.dels (w := w) (w' := w) (b := b) (n := n) (D' := D) E g k⟩, ht.grown⟩
end
/-- Keys that are numbers. -/
theorem intKey {P : Program} {K : TypeId} (hk : P.underlying K = some (.int .i64)) : KeyEnc P K (fun x : Int => .int .i64 x) (fun x => .int .i64 x) (fun x => (Lit.int .i64 x).wf = true) where
  keyed := Maps.int_keyed hk
  of := fun x hx => Maps.keyOf_int_mk hk hx
  inj := fun x y h => by injection h
  lit := fun x => trivial
section
variable {P : Program} {ops : Array Oper} {rest : List Oper} {o : Oper} {a : Act} {w : World} {Q : Exit → Act → World → Prop}
theorem wpList_lookV2 (hg : o.guard = none) (m x : Operand) (t : TypeId) (hop : o.op = Op.lookup t m x true) {v : Value} (mv kv : Value) (hm : a.eval m = mv) (hx : a.eval x = kv) (hrun : (Instr.lookup t mv kv true).run P w = .ok v w) (hK : wpList P ops Q rest (a.put o.dst v) w) : wpList P ops Q (o :: rest) a w := by
  refine wpList_plain hg fun K' hK' => ?_
  unfold Oper.wp
  simp [execOp, hop, hm, hx, hrun, Result.andThen]
  exact hK' _ _ hK
theorem wpList_lookV1 (hg : o.guard = none) (m x : Operand) (t : TypeId) (hop : o.op = Op.lookup t m x false) {v : Value} (mv kv : Value) (hm : a.eval m = mv) (hx : a.eval x = kv) (hrun : (Instr.lookup t mv kv false).run P w = .ok v w) (hK : wpList P ops Q rest (a.put o.dst v) w) : wpList P ops Q (o :: rest) a w := by
  refine wpList_plain hg fun K' hK' => ?_
  unfold Oper.wp
  simp [execOp, hop, hm, hx, hrun, Result.andThen]
  exact hK' _ _ hK
theorem wpList_storeV (hg : o.guard = none) (m x v : Operand) (t : TypeId) (hop : o.op = Op.mapUpdate t m x v) (mv kv vv : Value) (hm : a.eval m = mv) (hx : a.eval x = kv) (hv : a.eval v = vv) {w' : World} (hrun : (Instr.mapUpdate t mv kv vv).run P w = .ok () w') (hK : wpList P ops Q rest (a.put o.dst undef) w') : wpList P ops Q (o :: rest) a w := by
  refine wpList_plain hg fun K' hK' => ?_
  unfold Oper.wp
  simp [execOp, hop, hm, hx, hv, hrun, Result.andThen]
  exact hK' _ _ hK
theorem wpList_dropV (hg : o.guard = none) (m x : Operand) (t k : TypeId) (hop : o.op = Op.call { callee := Callee.builtin Builtin.delete, args := #[m, x], argTypes := #[t, k] }) (mv kv : Value) (hm : a.eval m = mv) (hx : a.eval x = kv) {w' : World} (hrun : (Builtin.delete_ #[t, k] o.type #[mv, kv]).run P w = .ok (.tuple #[]) w') (hK : wpList P ops Q rest (a.put o.dst (.tuple #[])) w') : wpList P ops Q (o :: rest) a w := by
  refine wpList_plain hg fun K' hK' => ?_
  unfold Oper.wp
  simp [execOp, hop, resolve, invoke, builtin, hm, hx, hrun, Result.andThen]
  exact hK' _ _ hK
end
end Go.Proofs.Ytnfjleobcfhpnaa
