/- Memory: blocks of other types than some stay as they are; rows of one's own behind that. Rows of things of k cells each, whatever they are: where they lie, what each one's cells are; rows of one's own. Rows of any things: cut, and appended onto a row of one's own, the source nil, empty or not. Memory: worlds that agree on all that was there, but on one block. The library's cmp at int: isNaN, Compare, Or. Lists in their order: one more in its place, all in their order, and that there is one such list. Maps that a call makes: what is at each key, as a function; looking up, storing, deleting. What a law is told of its slices, whatever their elements: one opener for all. -/
import Derived.Test.YtpnjokhhbjpciaaGreatDoorBase
import Derived.Deep.AppendLies
import Derived.Maps.AppendAt
import Derived.Lib.SliceRun
import Derived.Deep.RegionHeld3
import Derived.Sort.Statements
import Derived.Maps.OwnSet
import Derived.WalkKit
import Derived.Test.YtpnjokhhbjpciaaGreatDoorOpens
import Derived.Deep.Slices
namespace Go.Proofs.YtpnjokhhbjpciaaGreatDoor
section
open Go.RowKit
/-- Blocks of other types than some stay as they are. -/
def OnT (ts : List TypeId) (W w' : World) : Prop := ∀ b t cs, t ∉ ts → RawAt t W b cs → RawAt t w' b cs
theorem OnT.trans {ts : List TypeId} {a b c : World} (h : OnT ts a b) (g : OnT ts b c) : OnT ts a c := fun b t cs ht hr => g b t cs ht (h b t cs ht hr)
theorem OnT.of {ts : List TypeId} {a b : World} (h : Below a.heap.size a b) : OnT ts a b := fun _ _ _ _ hr => hr.below h hr.lt
theorem OnT.mono {ts us : List TypeId} {a b : World} (h : OnT ts a b) (hs : ∀ t ∈ ts, t ∈ us) : OnT us a b := fun b t cs ht hr => h b t cs (fun hm => ht (hs t hm)) hr
theorem OnT.drew {ts : List TypeId} {a b : World} (h : OnT ts a b) : OnT ts a b.drew := fun b t cs ht hr => h b t cs ht hr
theorem OnT.drewn {ts : List TypeId} {a b : World} (h : OnT ts a b) (n : Nat) : OnT ts a (b.drewN n) := fun b t cs ht hr => h b t cs ht hr
theorem own_set {w : World} {base : Nat} {e : TypeId} {size : Nat} {v : Value} {n : Nat} {xs : List Value} (h : w.ownsRow base e size v n xs) {b : Nat} (hb : b < base) (k : Nat) (u : Value) : (w.setCell ⟨b, k, none⟩ u).ownsRow base e size v n xs := by
  refine ⟨h.1, ?_⟩
  rcases h.2 with h2 | ⟨g, cap, cur, rfl, hB, c, h3⟩
  · exact .inl h2
  · exact .inr ⟨g, cap, cur, rfl, hB, (Below.heap_setCell w ⟨b, k, none⟩ u g (by simp; omega)).trans c, h3⟩
theorem own_slice {w : World} {base : Nat} {e : TypeId} {size : Nat} {v : Value} {n : Nat} {xs : List Value} (h : w.ownsRow base e size v n xs) (hn : 0 < n) : ∃ g cap, v = .slice (some ⟨g, 0, none⟩) n cap := by
  rcases h.2 with ⟨_, h2⟩ | ⟨g, cap, cur, h2, _⟩
  · omega
  · exact ⟨g, cap, h2⟩
theorem OnT.set {ts : List TypeId} {W0 W : World} {b : Nat} {t : TypeId} {cs : Array Value} (h : OnT ts W0 W) (hr : RawAt t W b cs) (ht : t ∈ ts) (k : Nat) (v : Value) : OnT ts W0 (W.setCell ⟨b, k, none⟩ v) := by
  intro b' t' cs' hn hr'
  have h1 := h b' t' cs' hn hr'
  refine h1.set_other ?_ k v
  rintro rfl
  unfold RawAt at hr h1
  rw [hr] at h1
  injection h1 with h2
  injection h2 with _ h3
  exact hn (h3 ▸ ht)
theorem OnT.grown {ts : List TypeId} {W W' : World} {base n size : Nat} {e : TypeId} {v : Value} {xs : List Value} (h : W.ownsRow base e size v n xs) (hg : W.grownBy W' v.ownBlock) (he : e ∈ ts) : OnT ts W W' := by
  intro b t cs ht hr
  refine (hg.block b hr.lt ?_).trans hr
  intro hb
  rcases h.2 with ⟨rfl, _⟩ | ⟨g, cap, cur, rfl, _, hh, _⟩
  · cases hb
  · obtain rfl : b = g := by injection hb
    unfold RawAt at hr
    rw [hr] at hh
    injection hh with h2
    injection h2 with _ h3
    exact ht (h3 ▸ he)
theorem OnT.refl (ts : List TypeId) (w : World) : OnT ts w w := fun _ _ _ _ h => h
theorem own_onT {ts : List TypeId} {w w' : World} {base n size : Nat} {e : TypeId} {v : Value} {xs : List Value} (h : w.ownsRow base e size v n xs) (ho : OnT ts w w') (he : e ∉ ts) : w'.ownsRow base e size v n xs := by
  refine ⟨h.1, ?_⟩
  rcases h.2 with g | ⟨g, cap, cur, e', hB, c, h3⟩
  · exact .inl g
  · exact .inr ⟨g, cap, cur, e', hB, ho _ _ _ he c, h3⟩
theorem own_form {w : World} {base n size : Nat} {e : TypeId} {v : Value} {xs : List Value} (h : w.ownsRow base e size v n xs) : ∃ A c, v = .slice A n c := by
  rcases h.2 with ⟨rfl, rfl⟩ | ⟨g, cap, cur, rfl, _⟩
  · exact ⟨_, _, rfl⟩
  · exact ⟨_, _, rfl⟩
theorem own_base {w : World} {base base' n size : Nat} {e : TypeId} {v : Value} {xs : List Value} (h : w.ownsRow base e size v n xs) (hb : base' ≤ base) : w.ownsRow base' e size v n xs := by
  refine ⟨h.1, ?_⟩
  rcases h.2 with g | ⟨g, cap, cur, e', hB, c⟩
  · exact .inl g
  · exact .inr ⟨g, cap, cur, e', by omega, c⟩
end
section
open Go.RowKit
section
variable {α : Type} (enc : α → List Value) (k : Nat)
/-- All cells, one behind the other. -/
def kfl (l : List α) : List Value := l.flatMap enc
theorem kfl_append (a b : List α) : kfl enc (a ++ b) = kfl enc a ++ kfl enc b := by simp [kfl]
theorem kfl_cons (x : α) (l : List α) : kfl enc (x :: l) = enc x ++ kfl enc l := rfl
theorem kfl_one (x : α) : kfl enc [x] = enc x := by simp [kfl]
variable {enc} {k}
theorem kfl_length (hk : ∀ x, (enc x).length = k) : ∀ l : List α, (kfl enc l).length = l.length * k
  | [] => by simp [kfl]
  | x :: l => by rw [kfl_cons, List.length_append, kfl_length hk l, hk, List.length_cons, Nat.add_mul, Nat.one_mul]; omega
theorem kfl_at (hk : ∀ x, (enc x).length = k) : ∀ (l : List α) (j : Nat) (h : j < l.length) (c : Nat), c < k → (kfl enc l)[j * k + c]? = (enc l[j])[c]?
  | x :: l, 0, _, c, hc => by rw [kfl_cons, Nat.zero_mul, Nat.zero_add, List.getElem?_append_left (by rw [hk]; exact hc)]; rfl
  | x :: l, j + 1, h, c, hc => by
    have ih := kfl_at hk l j (by simpa using h) c hc
    rw [kfl_cons, List.getElem?_append_right (by rw [hk, Nat.add_mul, Nat.one_mul]; omega), hk, show (j + 1) * k + c - k = j * k + c by rw [Nat.add_mul, Nat.one_mul]; omega, ih]
    rfl
theorem kfl_take (hk : ∀ x, (enc x).length = k) (l : List α) (j : Nat) : (kfl enc l).take (j * k) = kfl enc (l.take j) := by
  rcases Nat.lt_or_ge j l.length with h | h
  · have e : kfl enc l = kfl enc (l.take j) ++ kfl enc (l.drop j) := by rw [← kfl_append, List.take_append_drop]
    have hl : (kfl enc (l.take j)).length = j * k := by rw [kfl_length hk, List.length_take, Nat.min_eq_left (by omega)]
    rw [e, List.take_append_of_le_length (by rw [hl]; exact Nat.le_refl _), List.take_of_length_le (by rw [hl]; exact Nat.le_refl _)]
  · rw [List.take_of_length_le h, List.take_of_length_le (by rw [kfl_length hk]; exact Nat.mul_le_mul_right _ h)]
theorem kfl_one' (h1 : ∀ x, ∀ v ∈ enc x, v.oneCell' = true) (l : List α) : ∀ u ∈ kfl enc l, u.oneCell' = true := by
  intro u hu
  obtain ⟨x, _, hx⟩ := List.mem_flatMap.1 hu
  exact h1 x u hx
theorem kfl_inj (hk : ∀ x, (enc x).length = k) (hi : ∀ x y, enc x = enc y → x = y) (hp : 0 < k) : ∀ {a b : List α}, kfl enc a = kfl enc b → a = b
  | [], [], _ => rfl
  | [], y :: b, h => by have := congrArg List.length h; rw [kfl_length hk, kfl_length hk, List.length_cons, Nat.add_mul] at this; simp at this; omega
  | x :: a, [], h => by have := congrArg List.length h; rw [kfl_length hk, kfl_length hk, List.length_cons, Nat.add_mul] at this; simp at this; omega
  | x :: a, y :: b, h => by
    rw [kfl_cons, kfl_cons] at h
    obtain ⟨h1, h2⟩ := List.append_inj h (by rw [hk, hk])
    rw [hi _ _ h1, kfl_inj hk hi hp h2]
variable (enc) (k)
/-- A row lies from an address on; nothing is asked where there is none. -/
def RowsAt (w : World) (A : Option Addr) (l : List α) : Prop :=
  0 < l.length → ∃ b off, A = some ⟨b, off, none⟩ ∧ b < w.heap.size ∧ ∀ j (h : j < l.length) c, c < k → w.cell? ⟨b, off + j * k + c, none⟩ = (enc l[j])[c]?
variable {enc} {k}
theorem RowsAt.nil (w : World) (A : Option Addr) : RowsAt enc k w A [] := fun h => absurd h (Nat.lt_irrefl 0)
theorem RowsAt.below {w w' : World} {A : Option Addr} {l : List α} (h : RowsAt enc k w A l) (hb : Below w.heap.size w w') : RowsAt enc k w' A l := by
  intro hl
  obtain ⟨b, off, rfl, h1, h2⟩ := h hl
  exact ⟨b, off, rfl, Nat.lt_of_lt_of_le h1 hb.size, fun j hj c hc => ((old_cells hb).1 _ _ h1).trans (h2 j hj c hc)⟩
theorem RowsAt.drew {w : World} {A : Option Addr} {l : List α} (h : RowsAt enc k w A l) : RowsAt enc k w.drew A l := h
theorem RowsAt.at1 {w : World} {A : Option Addr} {l : List α} (h : RowsAt enc k w A l) {j : Nat} (hj : j < l.length) : ∃ b off, A = some ⟨b, off, none⟩ ∧ b < w.heap.size ∧ ∀ c, c < k → w.cell? ⟨b, off + j * k + c, none⟩ = (enc l[j])[c]? := by
  obtain ⟨b, off, e, h1, h2⟩ := h (by omega)
  exact ⟨b, off, e, h1, h2 j hj⟩
theorem rows_of_block (hk : ∀ x, (enc x).length = k) {w : World} {b : Nat} {l : List α} {cs : Array Value} {t : TypeId} (h : RawAt t w b cs) (hc : cs.toList = kfl enc l) : RowsAt enc k w (some ⟨b, 0, none⟩) l := by
  intro _
  refine ⟨b, 0, rfl, RawAt.lt h, fun j hj c hcc => ?_⟩
  rw [RawAt.cell h, ← Array.getElem?_toList, hc, Nat.zero_add]
  exact kfl_at hk l j hj c hcc
theorem rows_of_own (hk : ∀ x, (enc x).length = k) (hp : 0 < k) {w : World} {base n : Nat} {e : TypeId} {v : Value} {o : List α} (h : w.ownsRow base e k v n (kfl enc o)) : ∃ A c, v = .slice A n c ∧ RowsAt enc k w A o ∧ o.length = n ∧ Caps A n c := by
  have hl : o.length = n := by
    have := h.1
    rw [kfl_length hk] at this
    exact Nat.eq_of_mul_eq_mul_right hp this
  rcases h.2 with ⟨rfl, rfl⟩ | ⟨g, cap, cur, rfl, hbg, hh, hnc, _, hsz, htake⟩
  · exact ⟨none, 0, rfl, fun hp => by omega, hl, Nat.le_refl _, fun _ => rfl⟩
  · refine ⟨_, cap, rfl, fun _ => ⟨g, 0, rfl, block_lt hh, fun j hj c hc => ?_⟩, hl, hnc, fun h => by cases h⟩
    have e1 := kfl_at hk o j hj c hc
    have hlt : j * k + c < n * k := by
      have := Nat.mul_le_mul_right k (show j + 1 ≤ n by omega)
      rw [Nat.add_mul, Nat.one_mul] at this
      omega
    rw [cell_of_row w g _ cur e (0, 0) hh, ← Array.getElem?_toList, Nat.zero_add, ← e1, ← htake, List.getElem?_take, if_pos hlt]
theorem own_len (hk : ∀ x, (enc x).length = k) (hp : 0 < k) {w : World} {base n : Nat} {e : TypeId} {v : Value} {o : List α} (h : w.ownsRow base e k v n (kfl enc o)) : o.length = n := by
  have := h.1
  rw [kfl_length hk] at this
  exact Nat.eq_of_mul_eq_mul_right hp this
/-- The cells of a row, for append's laws. -/
theorem RowsAt.news (hk : ∀ x, (enc x).length = k) (hp : 0 < k) {w : World} {a : Addr} {l : List α} (h : RowsAt enc k w (some a) l) : ∀ (j : Nat) (u : Value), (kfl enc l)[j]? = some u → w.cell? (a.add j) = some u := by
  intro j u hu
  have hj : j < l.length * k := by
    have := (List.getElem?_eq_some_iff.1 hu).1
    rwa [kfl_length hk] at this
  have hl : 0 < l.length := by
    rcases Nat.eq_zero_or_pos l.length with h0 | h0
    · rw [h0, Nat.zero_mul] at hj; omega
    · exact h0
  obtain ⟨b, off, e, _, hc⟩ := h hl
  obtain rfl : a = ⟨b, off, none⟩ := by injection e
  have hq : j / k < l.length := (Nat.div_lt_iff_lt_mul hp).2 hj
  have hm : j % k < k := Nat.mod_lt _ hp
  have e1 := hc (j / k) hq (j % k) hm
  have e2 := kfl_at hk l (j / k) hq (j % k) hm
  have e3 : j / k * k + j % k = j := Nat.div_add_mod' j k
  rw [Go.WideShapes.add_plain]
  rw [Nat.add_assoc, e3] at e1
  rw [e3, hu] at e2
  rw [e1, ← e2]
end
end
section
open Go.RowKit
/-- A slice type and what its elements are: k cells, so many bytes. -/
structure SlT (P : Program) (t e : TypeId) (k bytes : Nat) : Prop where
  ht : P.underlying t = some (.slice e)
  ex : ∃ i z, P.info? e = some i ∧ i.zero = some z ∧ i.size = k ∧ i.bytes = bytes ∧ z.cells.size = k
  hc : P.cellsOf e = k
theorem slt_of {P : Program} {t e : TypeId} {k bytes : Nat} {z : Value} (ht : P.underlying t = some (.slice e)) (h : (P.info? e).map (fun i => (i.zero, i.size, i.bytes)) = some (some z, k, bytes)) (hz : z.cells.size = k) (hc : P.cellsOf e = k) : SlT P t e k bytes := by
  obtain ⟨i0, h0, h1, h2, h3⟩ := info_parts h
  exact ⟨ht, ⟨i0, z, h0, h1, h2, h3, hz⟩, hc⟩
/-- Where a row of k cells each is cut. -/
def cutK (A : Option Addr) (c k j : Nat) : Option Addr := if c = j then A else A.map (·.add (j * k))
theorem cutK_caps {A : Option Addr} {n c k j m : Nat} (h : Caps A n c) (hm : j + m ≤ n) : Caps (cutK A c k j) m (c - j) := by
  obtain ⟨h1, h2⟩ := h
  refine ⟨by omega, fun he => ?_⟩
  unfold cutK at he
  cases A with
  | none => rw [h2 rfl]; omega
  | some a => split at he <;> simp at he
section
variable {P : Program} {w : World} {α : Type} {enc : α → List Value} {k : Nat}
theorem RowsAt.cut {A : Option Addr} {l : List α} {n c : Nat} (h : RowsAt enc k w A l) (hl : l.length = n) (hn : n ≤ c) {j m : Nat} (hjm : j + m ≤ n) : RowsAt enc k w (cutK A c k j) ((l.drop j).take m) := by
  intro hp
  have hlen : ((l.drop j).take m).length = m := by rw [List.length_take, List.length_drop]; omega
  obtain ⟨b, off, rfl, hb, hc⟩ := h (by omega)
  have hne : ¬ c = j := by omega
  refine ⟨b, off + j * k, by simp [cutK, hne, Addr.add], hb, fun i hi x hx => ?_⟩
  have hi' : j + i < l.length := by omega
  have e := hc (j + i) hi' x hx
  have e2 : off + j * k + i * k + x = off + (j + i) * k + x := by rw [Nat.add_mul]; omega
  rw [e2, e]
  simp
theorem cutK_run {t e : TypeId} {bytes : Nat} (S : SlT P t e k bytes) (A : Option Addr) (n c lo hi : Nat) (h1 : lo ≤ hi) (h2 : hi ≤ c) (w : World) :
    (Instr.slice t (.slice A n c) (some (.int .i64 (lo : Int))) (some (.int .i64 (hi : Int))) none).run P w = .ok (.slice (cutK A c k lo) (hi - lo) (c - lo)) w := by
  obtain ⟨ht, ⟨i, z, hi0, _⟩, hc⟩ := S
  have he : P.elem t = e := by simp [Program.elem, ht]
  subst he
  rw [run_slice_lh _ _ _ _ _ ht _ _ _ _ (by omega) (by omega) (by omega), run_sizeOf _ hi0, hc]
  simp [Result.andThen, sliced, cutK]
theorem cutK_hd {t e : TypeId} {bytes : Nat} (S : SlT P t e k bytes) (A : Option Addr) (n c hi : Nat) (h2 : hi ≤ c) (w : World) :
    (Instr.slice t (.slice A n c) none (some (.int .i64 (hi : Int))) none).run P w = .ok (.slice A hi c) w := by
  obtain ⟨ht, ⟨i, z, hi0, _⟩, hc⟩ := S
  have he : P.elem t = e := by simp [Program.elem, ht]
  subst he
  rw [run_slice_h _ _ _ _ _ ht _ _ (by omega) (by omega), run_sizeOf _ hi0]
  have h0 : (A.map fun x => x.add 0) = A := by cases A <;> simp [Addr.add]
  simp [Result.andThen, sliced, h0]
theorem cutK_tl {t e : TypeId} {bytes : Nat} (S : SlT P t e k bytes) (A : Option Addr) (n c lo : Nat) (h2 : lo ≤ n) (w : World) :
    (Instr.slice t (.slice A n c) (some (.int .i64 (lo : Int))) none none).run P w = .ok (.slice (cutK A c k lo) (n - lo) (c - lo)) w := by
  obtain ⟨ht, ⟨i, z, hi0, _⟩, hc⟩ := S
  have he : P.elem t = e := by simp [Program.elem, ht]
  subst he
  rw [run_slice_l _ _ _ _ _ ht _ _ (by omega) (by omega), run_sizeOf _ hi0, hc]
  simp [Result.andThen, sliced, cutK]
theorem run_appK {t e : TypeId} {bytes : Nat} (S : SlT P t e k bytes) (hk : ∀ x, (enc x).length = k) (hp : 0 < k) (ty : TypeId) {base : Nat} {v : Value} {n : Nat} {xs : List Value} (hown : w.ownsRow base e k v n xs)
    (A : Option Addr) (m c : Nat) (l : List α) (hA : RowsAt enc k w A l) (hcap : Caps A m c) (hl : l.length = m) (h1 : ∀ u ∈ kfl enc l, u.oneCell' = true) (h63 : n + m ≤ maxLen) (hbytes : (n + m) * bytes ≤ 140737488355328) (hbase : base ≤ w.heap.size) :
    ∃ v' w', (Builtin.append_ #[t, t] ty #[v, .slice A m c]).run P w = .ok v' w' ∧ w'.ownsRow base e k v' (n + m) (xs ++ kfl enc l) ∧ w.grownBy w' v.ownBlock ∧ (v'.ownBlock = v.ownBlock ∨ v'.ownBlock = some w.heap.size) := by
  obtain ⟨ht, ⟨i, z, hi, hz, hs, hb, hzs⟩, hc⟩ := S
  rcases A with _ | ad
  · obtain rfl := hcap.2 rfl
    have hm : m = 0 := by have := hcap.1; omega
    subst hm
    have hl0 : l = [] := List.eq_nil_of_length_eq_zero hl
    subst hl0
    exact ⟨v, w, run_append_owned_none (P := P) (w := w) base t ty e i k ht hi v n xs hown, by simpa [kfl] using hown, World.grownBy.refl w _, .inl rfl⟩
  · obtain ⟨v', w', hrun, h2, h3, _, h5⟩ := run_append_own_at (P := P) w base t ty e i z k bytes ht hi hz hs hb hzs hp v n xs hown ad m c (kfl enc l) (by rw [kfl_length hk, hl]) (hA.news hk hp) h1 h63 hbytes hbase
    exact ⟨v', w', hrun, h2, h3, h5⟩
section
variable {ops : Array Oper} {o : Oper} {a : Act} {Q : Exit → Act → World → Prop}
theorem wpList_appK {rest : List Oper} {t e : TypeId} {bytes : Nat} (S : SlT P t e k bytes) (hk : ∀ x, (enc x).length = k) (hp : 0 < k) (hgd : o.guard = none) (s x : Operand) (ho : o.op = .call { callee := .builtin .append, args := #[s, x], argTypes := #[t, t] })
    {base : Nat} {v : Value} {n : Nat} {xs : List Value} (hs : a.eval s = v) (hown : w.ownsRow base e k v n xs) (A : Option Addr) (m c : Nat) (l : List α) (hx : a.eval x = .slice A m c) (hA : RowsAt enc k w A l) (hcap : Caps A m c) (hl : l.length = m) (h1 : ∀ u ∈ kfl enc l, u.oneCell' = true)
    (h63 : n + m ≤ maxLen) (hbytes : (n + m) * bytes ≤ 140737488355328) (hbase : base ≤ w.heap.size)
    (h : ∀ v' w', w'.ownsRow base e k v' (n + m) (xs ++ kfl enc l) → w.grownBy w' v.ownBlock → (v'.ownBlock = v.ownBlock ∨ v'.ownBlock = some w.heap.size) → wpList P ops Q rest (a.put o.dst v') w') : wpList P ops Q (o :: rest) a w := by
  refine wpList_plain hgd fun K hK => ?_
  obtain ⟨v', w', hrun, h2, h3, h4⟩ := run_appK S hk hp o.type hown A m c l hA hcap hl h1 h63 hbytes hbase
  unfold Oper.wp
  simp only [execOp, ho, resolve, invoke, builtin, Sem.run_bind, Sem.run_pure, Result.andThen_ok, List.map_toArray, List.map_cons, List.map_nil, hs, hx, hrun]
  exact hK _ _ (h v' w' h2 h3 h4)
theorem step_appK {K : Act → World → Prop} {E : Prop} {t e : TypeId} {bytes : Nat} (S : SlT P t e k bytes) (hk : ∀ x, (enc x).length = k) (hp : 0 < k) (hgd : o.guard = none) (s x : Operand) (ho : o.op = .call { callee := .builtin .append, args := #[s, x], argTypes := #[t, t] })
    {base : Nat} {v : Value} {n : Nat} {xs : List Value} (hs : a.eval s = v) (hown : w.ownsRow base e k v n xs) (A : Option Addr) (m c : Nat) (l : List α) (hx : a.eval x = .slice A m c) (hA : RowsAt enc k w A l) (hcap : Caps A m c) (hl : l.length = m) (h1 : ∀ u ∈ kfl enc l, u.oneCell' = true)
    (h63 : n + m ≤ maxLen) (hbytes : (n + m) * bytes ≤ 140737488355328) (hbase : base ≤ w.heap.size)
    (h : ∀ v' w', w'.ownsRow base e k v' (n + m) (xs ++ kfl enc l) → w.grownBy w' v.ownBlock → (v'.ownBlock = v.ownBlock ∨ v'.ownBlock = some w.heap.size) → K (a.put o.dst v') w') :
    if Region.wanted o (yielded ops a.tmps) = true then Oper.wp P o a w K Q else E := by
  have hw : Region.wanted o (yielded ops a.tmps) = true := by simp [Region.wanted, hgd]
  rw [if_pos hw]
  obtain ⟨v', w', hrun, h2, h3, h4⟩ := run_appK S hk hp o.type hown A m c l hA hcap hl h1 h63 hbytes hbase
  unfold Oper.wp execOp
  simp only [ho, resolve, invoke, builtin, Sem.run_bind, Sem.run_pure, Result.andThen_ok, List.map_toArray, List.map_cons, List.map_nil, hs, hx, hrun]
  exact h v' w' h2 h3 h4
end
end
end
section
open Go.RowKit
set_option linter.unusedVariables false
/-- Worlds that agree on all that was there, but on one block. -/
structure OnB (g : Nat) (w w' : World) : Prop where
  below : Below g w w'
  rest : ∀ k, k < w.heap.size → k ≠ g → w'.heap[k]? = w.heap[k]?
theorem OnB.refl (g : Nat) (w : World) : OnB g w w := ⟨Below.refl _ _, fun _ _ _ => rfl⟩
theorem OnB.trans {g : Nat} {a b c : World} (h : OnB g a b) (k : OnB g b c) : OnB g a c := ⟨h.below.trans k.below, fun i hi hn => (k.rest i (Nat.lt_of_lt_of_le hi h.below.size) hn).trans (h.rest i hi hn)⟩
theorem OnB.set {g : Nat} {a b : World} (h : OnB g a b) (k : Nat) (v : Value) : OnB g a (b.setCell ⟨g, k, none⟩ v) :=
  ⟨h.below.setCell (p := ⟨g, k, none⟩) (Nat.le_refl _) v, fun i hi hn => (Below.heap_setCell b ⟨g, k, none⟩ v i hn).trans (h.rest i hi hn)⟩
theorem OnB.sets {g : Nat} {a : World} : ∀ (l : List Value) (o : Nat) {b : World}, OnB g a b → OnB g a (b.setCells g o l)
  | [], _, _, h => h
  | v :: l, o, b, h => OnB.sets l (o + 1) (h.set o v)
theorem OnB.drew {g : Nat} {a b : World} (h : OnB g a b) : OnB g a b.drew := ⟨h.below.drew, h.rest⟩
theorem OnB.raw {g b : Nat} {t : TypeId} {cs : Array Value} {w w' : World} (h : OnB g w w') (hr : RawAt t w b cs) (hn : b ≠ g) : RawAt t w' b cs := (h.rest b hr.lt hn).trans hr
end
section
open Go.RowKit
set_option linter.unusedVariables false
/-- Which of two numbers is ahead. -/
def cmpI (x y : Int) : Int := if x < y then -1 else if y < x then 1 else 0
/-- The first that is not 0. -/
def orr : List Int → Int
  | [] => 0
  | x :: l => if x = 0 then orr l else x
theorem orr_drop {l : List Int} {j : Nat} (h : j < l.length) : orr (l.drop j) = if nth l j = 0 then orr (l.drop (j + 1)) else nth l j := by
  have e : nth l j = l[j] := by simp [nth, List.getD, h]
  rw [List.drop_eq_getElem_cons h, e]
  rfl
set_option maxHeartbeats 4000000 in
set_option maxRecDepth 100000 in
theorem isNaN_any (x : Int) (w : World) : Calls Tryz.prog 127 #[.int .i64 x] w fun e w' => e = .returned (.bool false) ∧ w' = w := by
  have k1 : (x != x) = false := by simp
  go_enter Tryz.func127, Tryz.ntmps127
  go_wp2
  go_ret
  exact ⟨rfl, rfl⟩
set_option maxHeartbeats 4000000 in
set_option maxRecDepth 100000 in
theorem cmpInt_any (x y : Int) (w : World) : Calls Tryz.prog 84 #[.int .i64 x, .int .i64 y] w fun e w' => e = .returned (.int .i64 (cmpI x y)) ∧ w' = w := by
  have C := Lib.hid fun z => isNaN_any z w
  have CX : Hid (cmpI x y = if x < y then -1 else if y < x then 1 else 0) := Lib.hid rfl
  generalize cmpI x y = r at *
  by_cases h1 : x < y
  · have k1 : decide (x < y) = true := decide_eq_true h1
    have e : r = -1 := by rw [CX.out, if_pos h1]
    subst e
    clear h1
    go_enter Tryz.func84, Tryz.ntmps84
    go_wp2_with (go_at_call 127; (with_reducible refine (C.out _).mono ?_); rintro e w1 ⟨rfl, rfl⟩)
    go_ret
    exact ⟨rfl, rfl⟩
  · have k1 : decide (x < y) = false := decide_eq_false h1
    by_cases h2 : y < x
    · have k2 : decide (y < x) = true := decide_eq_true h2
      have e : r = 1 := by rw [CX.out, if_neg h1, if_pos h2]
      subst e
      clear h1 h2
      go_enter Tryz.func84, Tryz.ntmps84
      go_wp2_with (go_at_call 127; (with_reducible refine (C.out _).mono ?_); rintro e w1 ⟨rfl, rfl⟩)
      go_ret
      exact ⟨rfl, rfl⟩
    · have k2 : decide (y < x) = false := decide_eq_false h2
      have e : r = 0 := by rw [CX.out, if_neg h1, if_neg h2]
      subst e
      clear h1 h2
      go_enter Tryz.func84, Tryz.ntmps84
      go_wp2_with (go_at_call 127; (with_reducible refine (C.out _).mono ?_); rintro e w1 ⟨rfl, rfl⟩)
      go_ret
      exact ⟨rfl, rfl⟩
set_option maxHeartbeats 4000000 in
set_option maxRecDepth 100000 in
theorem orInt_any (A : Option Addr) (n c : Nat) (l : List Int) (w : World) (hA : IntsAt .i64 w A l) (hl : l.length = n) (hn : n ≤ 1000) : Calls Tryz.prog 83 #[.slice A n c] w fun e w' => e = .returned (.int .i64 (orr l)) ∧ w' = w := by
  have HA := Lib.hid hA
  have HL := Lib.hid hl
  clear hA hl
  go_enter Tryz.func83, Tryz.ntmps83
  go_wp2_with fail
  go_loopg [8] n (fun g i wr => ∃ j : Nat, i = .int .i64 j ∧ j ≤ n ∧ n - j ≤ g ∧ wr = w ∧ Hid (orr l = orr (l.drop j)))
  case atStart => exact ⟨0, rfl, by omega, by omega, rfl, Lib.hid rfl⟩
  case round =>
    obtain ⟨j, rfl, h1, h2, rfl, ho⟩ := hrel
    by_cases hlt : j < n
    · have hjl : j < l.length := by rw [HL.out]; exact hlt
      obtain ⟨b, off, rfl, _, hc⟩ := HA.out (by omega)
      have e0 := hc j hjl
      have ho2 := ho.out
      rw [orr_drop hjl] at ho2
      have HO2 := Lib.hid ho2
      clear hc ho ho2
      generalize nth l j = x at *
      have i1 : (0 : Int) ≤ j := by omega
      have i2 : (j : Int) < n := by omega
      by_cases hx : x = 0
      · have k1 : (x != 0) = false := by simp [hx]
        have HN : Hid (orr l = orr (l.drop (j + 1))) := Lib.hid (by rw [HO2.out, if_pos hx])
        clear hx
        go_wp2
        go_roundg (gk - 1)
        case measure => omega
        case rel => exact ⟨j + 1, by go_num, by omega, by omega, rfl, HN⟩
      · have k1 : (x != 0) = true := by simp [hx]
        have k2 : (x == 0) = false := by simp [hx]
        have k3 : decide (x = 0) = false := decide_eq_false hx
        have HN : Hid (orr l = x) := Lib.hid (by rw [HO2.out, if_neg hx])
        clear hx
        go_wp2
        go_ret
        exact ⟨by rw [HN.out]; rfl, rfl⟩
    · have hj : j = n := by omega
      have e : orr l = 0 := by rw [ho.out, List.drop_of_length_le (by rw [HL.out]; omega)]; rfl
      have HE := Lib.hid e
      clear e
      subst hj
      go_wp2
      go_ret
      exact ⟨by rw [HE.out]; rfl, rfl⟩
end
section
open Go.Sort
section
variable {α : Type} (lt : α → α → Bool)
/-- One more in its place: ahead of the first that it is less than. -/
def ins (x : α) : List α → List α
  | [] => [x]
  | y :: l => if lt x y = true then x :: y :: l else y :: ins x l
/-- All in their order. -/
def ord (l : List α) : List α := l.foldl (fun o a => ins lt a o) []
theorem ins_perm (x : α) : ∀ l : List α, (ins lt x l).Perm (x :: l)
  | [] => .refl _
  | y :: l => by
    unfold ins
    split
    · exact .refl _
    · exact ((ins_perm x l).cons y).trans (.swap _ _ _)
theorem ins_mem {x a : α} {l : List α} : a ∈ ins lt x l ↔ a = x ∨ a ∈ l := by
  rw [(ins_perm lt x l).mem_iff, List.mem_cons]
theorem asy (h : SWO lt) {x y : α} (hx : lt x y = true) : lt y x = false := by
  cases e : lt y x with
  | false => rfl
  | true => have := h.trans x y x hx e; rw [h.irrefl] at this; cases this
theorem ins_sorted (h : SWO lt) (x : α) : ∀ {l : List α}, l.Pairwise (fun a b => lt b a = false) → (ins lt x l).Pairwise (fun a b => lt b a = false)
  | [], _ => by unfold ins; exact List.pairwise_singleton _ _
  | y :: l, hp => by
    obtain ⟨h1, h2⟩ := List.pairwise_cons.1 hp
    unfold ins
    split
    · rename_i hxy
      refine List.pairwise_cons.2 ⟨fun a ha => ?_, hp⟩
      rcases List.mem_cons.1 ha with rfl | ha
      · exact asy lt h hxy
      · exact h.ntrans _ _ _ (h1 a ha) (asy lt h hxy)
    · rename_i hxy
      refine List.pairwise_cons.2 ⟨fun a ha => ?_, ins_sorted h x h2⟩
      rcases (ins_mem lt).1 ha with rfl | ha
      · simpa using hxy
      · exact h1 a ha
theorem ord_go (h : SWO lt) : ∀ (l o : List α), o.Pairwise (fun a b => lt b a = false) → (l.foldl (fun o a => ins lt a o) o).Pairwise (fun a b => lt b a = false) ∧ (l.foldl (fun o a => ins lt a o) o).Perm (o ++ l)
  | [], o, hp => ⟨hp, by simp⟩
  | x :: l, o, hp => by
    obtain ⟨h1, h2⟩ := ord_go h l (ins lt x o) (ins_sorted lt h x hp)
    refine ⟨h1, h2.trans ?_⟩
    refine ((ins_perm lt x o).append_right l).trans ?_
    rw [List.cons_append]
    exact List.perm_middle.symm
theorem ord_sorted (h : SWO lt) (l : List α) : (ord lt l).Pairwise (fun a b => lt b a = false) := (ord_go lt h l [] .nil).1
theorem ord_perm (h : SWO lt) (l : List α) : (ord lt l).Perm l := by
  have := (ord_go lt h l [] .nil).2
  rw [List.nil_append] at this
  exact this
theorem ord_snoc (l : List α) (x : α) : ord lt (l ++ [x]) = ins lt x (ord lt l) := by unfold ord; rw [List.foldl_append]; rfl
/-- There is one sorted list. -/
theorem ord_uniq (h : SWO lt) {l d : List α} (hp : d.Perm l) (hs : d.Pairwise (fun a b => lt b a = false)) (hi : ∀ x ∈ l, ∀ y ∈ l, lt x y = false → lt y x = false → x = y) : d = ord lt l := by
  refine List.Perm.eq_of_pairwise (le := fun a b => lt b a = false) (fun a b ha hb h1 h2 => ?_) hs (ord_sorted lt h l) (hp.trans (ord_perm lt h l).symm)
  exact (hi b ((ord_perm lt h l).mem_iff.1 hb) a (hp.mem_iff.1 ha) h1 h2).symm
theorem ord_of_array [Inhabited α] (h : SWO lt) {l : List α} {d : Array α} (hP : PermIn 0 l.length l.toArray d) (hS : SortedIn lt 0 l.length d) (hi : ∀ x ∈ l, ∀ y ∈ l, lt x y = false → lt y x = false → x = y) : d.toList = ord lt l := by
  obtain ⟨hsz, _, hperm⟩ := hP
  have e0 : l.toArray.size = l.length := by simp
  rw [e0] at hsz
  have e1 : d.extract 0 l.length = d := by rw [← hsz]; exact Array.extract_size
  have e2 : l.toArray.extract 0 l.length = l.toArray := by rw [← e0]; exact Array.extract_size
  rw [e1, e2] at hperm
  refine ord_uniq lt h (by simpa using hperm) ?_ hi
  rw [List.pairwise_iff_getElem]
  intro i j hi hj hij
  have hi' : i < d.size := by simpa using hi
  have hj' : j < d.size := by simpa using hj
  have := hS i j (Nat.zero_le _) hij (by omega)
  rw [getElem!_pos d j hj', getElem!_pos d i hi'] at this
  simpa using this
end
end
section
open Go.RowKit
open Go.Maps (Keyed)
set_option linter.unusedVariables false
/-- An element is kept as it is. -/
def heldR (v : Value) : Option (DataW Value × List MemPlace) := some (.held v, [])
/-- How keys are told. -/
structure KeyEnc {κ : Type} (P : Program) (K : TypeId) (kv : κ → Value) (kl : κ → Lit) (ok : κ → Prop) : Prop where
  keyed : Keyed P K
  of : ∀ x, ok x → keyOf P K (kv x) = some (kl x)
  inj : ∀ x y, kl x = kl y → x = y
  lit : ∀ x, WideAt.IsKeyLit (kl x)
/-- A map in a block: what it has at each key. -/
def MapV {κ : Type} (P : Program) (K : TypeId) (kl : κ → Lit) (w : World) (b n : Nat) (f : κ → Option Value) : Prop :=
  ∃ D : DataW Value, w.ownsMap P K heldR b n D ∧ ∀ x, Maps.has D (kl x) = (f x).isSome ∧ ∀ z, D.atKey (kl x) (.held z) = .held ((f x).getD z)
section
variable {κ : Type} {P : Program} {K : TypeId} {kv : κ → Value} {kl : κ → Lit} {ok : κ → Prop}
theorem MapV.made (w : World) : MapV P K kl (w.alloc (.map #[] 0)) w.heap.size 0 (fun _ => none) := ⟨_, World.ownsMap_made w P K heldR, fun x => ⟨rfl, fun z => rfl⟩⟩
theorem MapV.lt {w : World} {b n : Nat} {f : κ → Option Value} (h : MapV P K kl w b n f) : b < w.heap.size := by obtain ⟨D, h, _⟩ := h; exact h.lt
theorem MapV.block {w w' : World} {b n : Nat} {f : κ → Option Value} (h : MapV P K kl w b n f) (he : w'.heap[b]? = w.heap[b]?) : MapV P K kl w' b n f := by
  obtain ⟨D, ⟨es, clock, hb, r⟩, g⟩ := h
  exact ⟨D, ⟨es, clock, he.trans hb, r⟩, g⟩
theorem MapV.below {w w' : World} {b n : Nat} {f : κ → Option Value} (h : MapV P K kl w b n f) (hw : Below w.heap.size w w') : MapV P K kl w' b n f := h.block (hw.block b h.lt)
theorem MapV.setCell {w : World} {b n : Nat} {f : κ → Option Value} (h : MapV P K kl w b n f) {a : Addr} (ha : b ≠ a.block) (u : Value) : MapV P K kl (w.setCell a u) b n f := h.block (Below.heap_setCell w a u b ha)
theorem MapV.drew {w : World} {b n : Nat} {f : κ → Option Value} (h : MapV P K kl w b n f) : MapV P K kl w.drew b n f := h
theorem MapV.congr {w : World} {b n : Nat} {f g : κ → Option Value} (h : MapV P K kl w b n f) (e : ∀ x, f x = g x) : MapV P K kl w b n g := by obtain rfl : f = g := funext e; exact h
theorem MapV.put [DecidableEq κ] {t e : TypeId} {w w' : World} {b n : Nat} {f : κ → Option Value} {D D' : DataW Value} (E : KeyEnc P K kv kl ok) (hD : Maps.IsMap D) (h : ∀ x, Maps.has D (kl x) = (f x).isSome ∧ ∀ z, D.atKey (kl x) (.held z) = .held ((f x).getD z)) (k : κ) (v : Value) :
    ∀ x, Maps.has (D.put (kl k) (.held v)) (kl x) = (if x = k then some v else f x).isSome ∧ ∀ z, (D.put (kl k) (.held v)).atKey (kl x) (.held z) = .held ((if x = k then some v else f x).getD z) := by
  intro x
  by_cases hx : x = k
  · subst hx
    rw [if_pos rfl]
    exact ⟨Maps.has_put_same hD (E.lit x) _, fun z => Maps.atKey_put_same hD (E.lit x) _ _⟩
  · rw [if_neg hx]
    have hne : kl x ≠ kl k := fun h => hx (E.inj _ _ h)
    exact ⟨by rw [Maps.has_put_other hne]; exact (h x).1, fun z => by rw [Maps.atKey_put_other hne]; exact (h x).2 z⟩
theorem MapV.dels [DecidableEq κ] {w w' : World} {b n : Nat} {f : κ → Option Value} {D D' : DataW Value} (E : KeyEnc P K kv kl ok) (h : ∀ x, Maps.has D (kl x) = (f x).isSome ∧ ∀ z, D.atKey (kl x) (.held z) = .held ((f x).getD z)) (k : κ) :
    ∀ x, Maps.has (D.del (kl k)) (kl x) = (if x = k then none else f x).isSome ∧ ∀ z, (D.del (kl k)).atKey (kl x) (.held z) = .held ((if x = k then none else f x).getD z) := by
  intro x
  by_cases hx : x = k
  · subst hx
    rw [if_pos rfl]
    exact ⟨Maps.has_del_same, fun z => Maps.atKey_del_same _⟩
  · rw [if_neg hx]
    have hne : kl x ≠ kl k := fun h => hx (E.inj _ _ h)
    exact ⟨by rw [Maps.has_del_other hne]; exact (h x).1, fun z => by rw [Maps.atKey_del_other hne]; exact (h x).2 z⟩
/-- 'v, ok := m[k]'. -/
theorem MapV.look2 {t e : TypeId} {w : World} {b n : Nat} {f : κ → Option Value} (h : MapV P K kl w b n f) (E : KeyEnc P K kv kl ok) (ht : P.underlying t = some (.map K e)) {z : Value} (hz : (zeroValue e).run P w = .ok z w) (k : κ) (hk : ok k) :
    (Instr.lookup t (.map (some b)) (kv k) true).run P w = .ok (.tuple #[(f k).getD z, .bool (f k).isSome]) w := by
  obtain ⟨D, h, g⟩ := h
  obtain ⟨v, ps, hrun, hv⟩ := h.look_ok E.keyed ht hz (zd := .held z) (zp := []) rfl (E.of k hk)
  rw [hrun, (g k).1]
  have : (DataW.held v : DataW Value) = .held ((f k).getD z) := by
    have := congrArg (Option.map Prod.fst) hv
    simp [heldR] at this
    rw [this]
    exact (g k).2 z
  injection this with this
  rw [this]
/-- 'v := m[k]'. -/
theorem MapV.look1 {t e : TypeId} {w : World} {b n : Nat} {f : κ → Option Value} (h : MapV P K kl w b n f) (E : KeyEnc P K kv kl ok) (ht : P.underlying t = some (.map K e)) {z : Value} (hz : (zeroValue e).run P w = .ok z w) (k : κ) (hk : ok k) :
    (Instr.lookup t (.map (some b)) (kv k) false).run P w = .ok ((f k).getD z) w := by
  obtain ⟨D, h, g⟩ := h
  obtain ⟨v, ps, hrun, hv⟩ := h.lookup E.keyed ht hz (zd := .held z) (zp := []) rfl (E.of k hk)
  rw [hrun]
  have : (DataW.held v : DataW Value) = .held ((f k).getD z) := by
    have := congrArg (Option.map Prod.fst) hv
    simp [heldR] at this
    rw [this]
    exact (g k).2 z
  injection this with this
  rw [this]
/-- 'm[k] = v'. -/
theorem MapV.store [DecidableEq κ] {t e : TypeId} {w : World} {b n : Nat} {f : κ → Option Value} (h : MapV P K kl w b n f) (E : KeyEnc P K kv kl ok) (ht : P.underlying t = some (.map K e)) (hn : n < maxLen) (k : κ) (hk : ok k) (v : Value) :
    ∃ w', (Instr.mapUpdate t (.map (some b)) (kv k) v).run P w = .ok () w' ∧ MapV P K kl w' b (n + 1) (fun x => if x = k then some v else f x) ∧ w.grownBy w' (some b) := by
  obtain ⟨D, h, g⟩ := h
  obtain ⟨w', hrun, ho, ht⟩ := h.store E.keyed ht hn (E.of k hk) (val := v) (d := .held v) (ps := []) rfl
  exact ⟨w', hrun, ⟨_, ho, MapV.put (t := 0) (e := 0) (w := w) (w' := w) (b := b) (n := n) (D' := D) E h.isMap g k v⟩, ht.grown⟩
/-- 'delete(m, k)'. -/
theorem MapV.drop [DecidableEq κ] {t e : TypeId} {w : World} {b n : Nat} {f : κ → Option Value} (h : MapV P K kl w b n f) (E : KeyEnc P K kv kl ok) (ht : P.underlying t = some (.map K e)) (k : κ) (hk : ok k) (ty : TypeId) :
    ∃ w', (Builtin.delete_ #[t, K] ty #[.map (some b), kv k]).run P w = .ok (.tuple #[]) w' ∧ MapV P K kl w' b n (fun x => if x = k then none else f x) ∧ w.grownBy w' (some b) := by
  obtain ⟨D, h, g⟩ := h
  obtain ⟨w', hrun, ho, ht⟩ := h.drop E.keyed ht (E.of k hk) ty
  exact ⟨w', hrun, ⟨_, ho, MapV.dels (w := w) (w' := w) (b := b) (n := n) (D' := D) E g k⟩, ht.grown⟩
end
/-- Keys that are numbers. -/
theorem intKey {P : Program} {K : TypeId} (hk : P.underlying K = some (.int .i64)) : KeyEnc P K (fun x : Int => .int .i64 x) (fun x => .int .i64 x) (fun x => (Lit.int .i64 x).wf = true) where
  keyed := Maps.int_keyed hk
  of := fun x hx => Maps.keyOf_int_mk hk hx
  inj := fun x y h => by injection h
  lit := fun x => trivial
section
variable {P : Program} {ops : Array Oper} {rest : List Oper} {o : Oper} {a : Act} {w : World} {Q : Exit → Act → World → Prop}
theorem wpList_lookV2 (hg : o.guard = none) (m x : Operand) (t : TypeId) (hop : o.op = Op.lookup t m x true) {v : Value} (mv kv : Value) (hm : a.eval m = mv) (hx : a.eval x = kv) (hrun : (Instr.lookup t mv kv true).run P w = .ok v w) (hK : wpList P ops Q rest (a.put o.dst v) w) : wpList P ops Q (o :: rest) a w := by
  refine wpList_plain hg fun K' hK' => ?_
  unfold Oper.wp
  simp [execOp, hop, hm, hx, hrun, Result.andThen]
  exact hK' _ _ hK
theorem wpList_lookV1 (hg : o.guard = none) (m x : Operand) (t : TypeId) (hop : o.op = Op.lookup t m x false) {v : Value} (mv kv : Value) (hm : a.eval m = mv) (hx : a.eval x = kv) (hrun : (Instr.lookup t mv kv false).run P w = .ok v w) (hK : wpList P ops Q rest (a.put o.dst v) w) : wpList P ops Q (o :: rest) a w := by
  refine wpList_plain hg fun K' hK' => ?_
  unfold Oper.wp
  simp [execOp, hop, hm, hx, hrun, Result.andThen]
  exact hK' _ _ hK
theorem wpList_storeV (hg : o.guard = none) (m x v : Operand) (t : TypeId) (hop : o.op = Op.mapUpdate t m x v) (mv kv vv : Value) (hm : a.eval m = mv) (hx : a.eval x = kv) (hv : a.eval v = vv) {w' : World} (hrun : (Instr.mapUpdate t mv kv vv).run P w = .ok () w') (hK : wpList P ops Q rest (a.put o.dst undef) w') : wpList P ops Q (o :: rest) a w := by
  refine wpList_plain hg fun K' hK' => ?_
  unfold Oper.wp
  simp [execOp, hop, hm, hx, hv, hrun, Result.andThen]
  exact hK' _ _ hK
theorem wpList_dropV (hg : o.guard = none) (m x : Operand) (t k : TypeId) (hop : o.op = Op.call { callee := Callee.builtin Builtin.delete, args := #[m, x], argTypes := #[t, k] }) (mv kv : Value) (hm : a.eval m = mv) (hx : a.eval x = kv) {w' : World} (hrun : (Builtin.delete_ #[t, k] o.type #[mv, kv]).run P w = .ok (.tuple #[]) w') (hK : wpList P ops Q rest (a.put o.dst (.tuple #[])) w') : wpList P ops Q (o :: rest) a w := by
  refine wpList_plain hg fun K' hK' => ?_
  unfold Oper.wp
  simp [execOp, hop, resolve, invoke, builtin, hm, hx, hrun, Result.andThen]
  exact hK' _ _ hK
end
end
section
open Go.ChangeShapes Go.WideShapes Go.ChangeAt Go.RowKit
section
variable {H : Type} {encH : TypeId × Value → H} {w : World} {base : Nat} {held : Bool} {P : Program}
set_option maxRecDepth 100000 in
theorem ktrod {t e : TypeId} (ht : P.underlying t = some (.slice e)) {α : Type} {enc : α → List Value} {k : Nat} (hk : ∀ x, (enc x).length = k) (hp : 0 < k) (hc : P.cellsOf e = k) {Ok : α → Prop}
    (hd : ∀ {fuel : Nat} {cs : List Value} {x : DataW H × List MemPlace}, DataW.trod encH P w base (fun _ => true) held fuel e cs = some x → ∃ a : α, cs = enc a ∧ Ok a)
    {fuel : Nat} {cs : List Value} {x : DataW H × List MemPlace} (hf : DataW.trod encH P w base (fun _ => true) held fuel t cs = some x) :
    ∃ (A : Option Addr) (n c : Nat) (l : List α), cs = [.slice A n c] ∧ l.length = n ∧ n ≤ maxLen ∧ Caps A n c ∧ RowsAt enc k w A l ∧ ∀ a ∈ l, Ok a := by
  rcases Go.Deep.open_slice ht hf with ⟨hcs, _⟩ | ⟨a, len, cap, m, n', D, Pl, hcs, hb, hl, hm, hmm, hx, hi⟩
  · exact ⟨none, 0, 0, [], hcs, rfl, Nat.zero_le _, ⟨Nat.le_refl _, fun _ => rfl⟩, fun h => absurd h (by simp), fun a h => absurd h (by simp)⟩
  · have hmc : m = cap := by simpa using hmm
    have each : ∀ j, j < m → ∃ s : α, Ok s ∧ ∀ f u, (enc s)[f]? = some u → w.cell? ((a.add (j * k)).add f) = some u := by
      intro j hj
      obtain ⟨cs', h1, h2⟩ := hi j hj
      obtain ⟨s, rfl, hs⟩ := hd h2
      rw [hc] at h1
      obtain ⟨_, _, hat⟩ := World.cells?_some h1
      refine ⟨s, hs, fun f u hu => ?_⟩
      have hfk : f < k := by have := (List.getElem?_eq_some_iff.1 hu).1; rwa [hk] at this
      rw [hat f hfk]
      exact hu
    rcases Nat.eq_zero_or_pos m with hm0 | hmp
    · have hl0 : len = 0 := by omega
      subst hl0
      exact ⟨some a, 0, cap, [], hcs, rfl, Nat.zero_le _, ⟨Nat.zero_le _, fun h => by cases h⟩, fun h => absurd h (by simp), fun a h => absurd h (by simp)⟩
    · obtain ⟨s0, hs0, _⟩ := each 0 hmp
      have each' : ∀ j, ∃ s : α, j < m → Ok s ∧ ∀ f u, (enc s)[f]? = some u → w.cell? ((a.add (j * k)).add f) = some u := fun j => by
        by_cases h : j < m
        · obtain ⟨s, hs⟩ := each j h
          exact ⟨s, fun _ => hs⟩
        · exact ⟨s0, fun h' => absurd h' h⟩
      obtain ⟨q, hq⟩ := Classical.axiomOfChoice each'
      refine ⟨some a, len, cap, (List.range len).map q, hcs, by simp, by omega, ⟨hl, fun h => by cases h⟩, fun hpp => ?_, fun x hx => ?_⟩
      · have hn : 0 < len := by simpa using hpp
        obtain ⟨b, off, spot⟩ := a
        have hlen0 : 0 < (enc (q 0)).length := by rw [hk]; exact hp
        have h00 := (hq 0 (by omega)).2 0 _ (List.getElem?_eq_getElem hlen0)
        have hspot : spot = none := by simpa [Addr.add] using World.cell?_spot h00
        subst hspot
        rw [Go.Deep.add_add, add_plain] at h00
        refine ⟨b, off, rfl, cell_block_lt h00, fun j hj c hcc => ?_⟩
        have hjn : j < len := by simpa using hj
        have hlc : c < (enc (q j)).length := by rw [hk]; exact hcc
        have g := (hq j (by omega)).2 c _ (List.getElem?_eq_getElem hlc)
        rw [Go.Deep.add_add, add_plain, ← Nat.add_assoc] at g
        rw [g]
        simp [List.getElem?_eq_getElem hlc]
      · obtain ⟨j, hj, rfl⟩ := List.mem_map.1 hx
        exact (hq j (by have := List.mem_range.1 hj; omega)).1
set_option maxRecDepth 100000 in
theorem kopen {t e : TypeId} (ht : P.underlying t = some (.slice e)) {α : Type} {enc : α → List Value} {k : Nat} (hk : ∀ x, (enc x).length = k) (hp : 0 < k) (hc : P.cellsOf e = k) {Ok : α → Prop}
    (hd : ∀ {fuel : Nat} {cs : List Value} {x : DataW H × List MemPlace}, DataW.trod encH P w base (fun _ => true) held fuel e cs = some x → ∃ a : α, cs = enc a ∧ Ok a)
    {r : Reach} {b0 : Nat} {v : Value} {d : DataW H} {ps : List MemPlace} (hv : Value.okWide P w r b0 t v) (h : DataW.Trod encH P w base (fun _ => true) held t v d ps) :
    ∃ (A : Option Addr) (n c : Nat) (l : List α), v = .slice A n c ∧ l.length = n ∧ n ≤ maxLen ∧ Caps A n c ∧ RowsAt enc k w A l ∧ ∀ a ∈ l, Ok a := by
  obtain ⟨A, n, c, rfl⟩ := okWide_slice ht hv
  obtain ⟨fuel, hf⟩ := h
  obtain ⟨A', n', c', l, e, h⟩ := ktrod ht hk hp hc (fun {_ _ _} h => hd h) hf
  simp [Value.cells] at e
  obtain ⟨rfl, rfl, rfl⟩ := e
  exact ⟨_, _, _, l, rfl, h⟩
end
end
end Go.Proofs.YtpnjokhhbjpciaaGreatDoor
