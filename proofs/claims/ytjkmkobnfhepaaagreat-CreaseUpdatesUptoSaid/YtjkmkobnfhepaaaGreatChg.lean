/- Patches: what a row of changes is in memory. -/
import Derived.Test.YtjkmkobnfhepaaaGreatPatPure
import Derived.Test.YtjkmkobnfhepaaaGreatBase
namespace Go.Proofs.YtjkmkobnfhepaaaGreat
open Go.RowKit
def cth (l : List Ch) (k : Nat) : Ch := l.getD k ⟨0, 0, 0, 0⟩
instance : Inhabited Ch := ⟨⟨0, 0, 0, 0⟩⟩
/-- Changes lie from an address on. -/
def ChsAt (w : World) (A : Option Addr) (l : List Ch) : Prop :=
  0 < l.length → ∃ b off, A = some ⟨b, off, none⟩ ∧ b < w.heap.size ∧ ∀ k, k < l.length → w.cell? ⟨b, off + k * 4, none⟩ = some (.int .i64 (cth l k).oa) ∧ w.cell? ⟨b, off + k * 4 + 1, none⟩ = some (.int .i64 (cth l k).ob) ∧ w.cell? ⟨b, off + k * 4 + 2, none⟩ = some (.int .i64 (cth l k).na) ∧ w.cell? ⟨b, off + k * 4 + 3, none⟩ = some (.int .i64 (cth l k).nb)
theorem ChsAt.below {w w' : World} {A : Option Addr} {l : List Ch} (h : ChsAt w A l) (hb : Below w.heap.size w w') : ChsAt w' A l := by
  intro hl
  obtain ⟨b, off, rfl, h1, h2⟩ := h hl
  refine ⟨b, off, rfl, Nat.lt_of_lt_of_le h1 hb.size, fun k hk => ?_⟩
  obtain ⟨c0, c1, c2, c3⟩ := h2 k hk
  have H := (old_cells hb).1
  exact ⟨(H _ _ h1).trans c0, (H _ _ h1).trans c1, (H _ _ h1).trans c2, (H _ _ h1).trans c3⟩
theorem ChsAt.at1 {w : World} {A : Option Addr} {l : List Ch} (h : ChsAt w A l) {k : Nat} (hk : k < l.length) : ∃ b off, A = some ⟨b, off, none⟩ ∧ b < w.heap.size ∧ w.cell? ⟨b, off + k * 4, none⟩ = some (.int .i64 (cth l k).oa) ∧ w.cell? ⟨b, off + k * 4 + 1, none⟩ = some (.int .i64 (cth l k).ob) ∧ w.cell? ⟨b, off + k * 4 + 2, none⟩ = some (.int .i64 (cth l k).na) ∧ w.cell? ⟨b, off + k * 4 + 3, none⟩ = some (.int .i64 (cth l k).nb) := by
  obtain ⟨b, off, e, h1, h2⟩ := h (by omega)
  exact ⟨b, off, e, h1, h2 k hk⟩
end Go.Proofs.YtjkmkobnfhepaaaGreat
