/- Rows of rows in memory. -/
import Derived.Test.YtnlhpbnonmdkdaaWrA
import Derived.Test.YtnlhpbnonmdkdaaHand
namespace Go.Proofs.Ytnlhpbnonmdkdaa
open Go.RowKit Go.Shelf
set_option linter.unusedVariables false
/-- A slice by its three words. -/
structure SlV where
  A : Option Addr
  n : Nat
  c : Nat
def encS (s : SlV) : List Value := [.slice s.A s.n s.c]
theorem encS_len (s : SlV) : (encS s).length = 1 := rfl
theorem encS_one (s : SlV) : ∀ v ∈ encS s, v.oneCell' = true := by intro v hv; simp [encS] at hv; subst hv; rfl
theorem rows_info : (Try.prog.info? 22).map (fun i => (i.zero, i.size, i.bytes)) = some (some (.slice none 0 0), 1, 24) := by kernel_rfl
theorem rows_slt : SlT Try.prog 38 22 1 24 := slt_of Try.underlying38 rows_info rfl (by kernel_rfl)
/-- A row of cells that somebody owns. -/
def RowO (W : World) (s : SlV) (r : List Cl) : Prop := W.ownsRow 0 35 4 (.slice s.A s.n s.c) s.n (kfl encC r)
theorem RowO.len {W : World} {s : SlV} {r : List Cl} (h : RowO W s r) : r.length = s.n := own_len encC_len (by omega) h
theorem RowO.rows {W : World} {s : SlV} {r : List Cl} (h : RowO W s r) : RowsAt encC 4 W s.A r := by
  obtain ⟨A, c, e, hR, _, _⟩ := rows_of_own encC_len (by omega) h
  injection e with e1 e2 e3
  rw [e1]; exact hR
theorem RowO.caps {W : World} {s : SlV} {r : List Cl} (h : RowO W s r) : Caps s.A s.n s.c := by
  obtain ⟨A, c, e, _, _, hC⟩ := rows_of_own encC_len (by omega) h
  injection e with e1 e2 e3
  rw [e1, e3]; exact hC
/-- It stays where its block stays. -/
theorem RowO.block {W W' : World} {s : SlV} {r : List Cl} (h : RowO W s r) (hk : ∀ (g : Nat) (cur : Array Value), W.heap[g]? = some (.cells cur 35 (0, 0)) → W'.heap[g]? = some (.cells cur 35 (0, 0))) : RowO W' s r := by
  refine ⟨h.1, ?_⟩
  rcases h.2 with g | ⟨g, cap, cur, e, hB, c, h3⟩
  · exact .inl g
  · exact .inr ⟨g, cap, cur, e, hB, hk g cur c, h3⟩
theorem RowO.below {W W' : World} {s : SlV} {r : List Cl} (h : RowO W s r) (hb : Below W.heap.size W W') : RowO W' s r :=
  h.block fun g cur hg => (hb.block g (Array.getElem?_eq_some_iff.1 hg).1).trans hg
theorem RowO.kpm {W W' : World} {s : SlV} {r : List Cl} {n₀ : Nat} {Mine : Nat → Obj → Prop} (h : RowO W s r) (hk : KpM n₀ Mine W W') (hm : ∀ (k : Nat) (cur : Array Value), ¬ Mine k (.cells cur 35 (0, 0))) : RowO W' s r :=
  h.block fun g cur hg => hk.2 g _ hg rfl (hm g cur)
theorem RowO.grown {W W' : World} {s : SlV} {r : List Cl} {row : Option Nat} (h : RowO W s r) (hg : W.grownBy W' row) (hr : ∀ k, row = some k → ∃ o : Obj, W.heap[k]? = some o ∧ o.isCells = false) : RowO W' s r :=
  h.block fun g cur hc => (hg.block g (Array.getElem?_eq_some_iff.1 hc).1 (fun e => by
    obtain ⟨o, h1, h2⟩ := hr g e.symm
    rw [hc] at h1
    cases h1
    cases h2)).trans hc
/-- All rows of a list. -/
def RsAt (W : World) : List SlV → List (List Cl) → Prop
  | [], [] => True
  | s :: ss, r :: rs => RowO W s r ∧ RsAt W ss rs
  | _, _ => False
theorem RsAt.mono {W W' : World} (h : ∀ s r, RowO W s r → RowO W' s r) : ∀ {ss : List SlV} {rs : List (List Cl)}, RsAt W ss rs → RsAt W' ss rs
  | [], [], _ => trivial
  | _ :: _, _ :: _, ⟨h1, h2⟩ => ⟨h _ _ h1, RsAt.mono h h2⟩
theorem RsAt.length {W : World} : ∀ {ss : List SlV} {rs : List (List Cl)}, RsAt W ss rs → ss.length = rs.length
  | [], [], _ => rfl
  | _ :: _, _ :: _, ⟨_, h2⟩ => by simp [RsAt.length h2]
theorem RsAt.snoc {W : World} {s : SlV} {r : List Cl} (h : RowO W s r) : ∀ {ss : List SlV} {rs : List (List Cl)}, RsAt W ss rs → RsAt W (ss ++ [s]) (rs ++ [r])
  | [], [], _ => ⟨h, trivial⟩
  | _ :: _, _ :: _, ⟨h1, h2⟩ => ⟨h1, RsAt.snoc h h2⟩
theorem RsAt.at1 {W : World} : ∀ {ss : List SlV} {rs : List (List Cl)}, RsAt W ss rs → ∀ {j : Nat} (h : j < ss.length) (h' : j < rs.length), RowO W ss[j] rs[j]
  | _ :: _, _ :: _, ⟨h1, _⟩, 0, _, _ => h1
  | _ :: _, _ :: _, ⟨_, h2⟩, j + 1, h, h' => RsAt.at1 h2 (by simpa using h) (by simpa using h')
/-- What is handed out: a slice, and (told, not handed) what it holds. -/
abbrev Rw := SlV × List Cl
def HdR (x : Rw) (W : World) : Prop := RowO W x.1 x.2 ∧ W02 x.2 ∧ x.2.length ≤ 1000000
theorem HdR.put (x : Rw) (W : World) (l : Nat) (o o' : Obj) (h : HdR x W) (hl : W.heap[l]? = some o) (hc : o.isCells = false) : HdR x (W.putObj l o') :=
  ⟨h.1.grown (grownBy_putObj' W l o') (fun k e => by cases e; exact ⟨o, hl, hc⟩), h.2⟩
end Go.Proofs.Ytnlhpbnonmdkdaa
