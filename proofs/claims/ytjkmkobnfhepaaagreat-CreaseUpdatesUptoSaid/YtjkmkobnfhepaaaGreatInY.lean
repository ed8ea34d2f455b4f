/- Inlays: the document's Splice. -/
import Derived.Test.YtjkmkobnfhepaaaGreatInN
import Derived.Test.YtjkmkobnfhepaaaGreatInS
namespace Go.Proofs.YtjkmkobnfhepaaaGreat
open Go.RowKit Go.Sort
set_option linter.unusedVariables false
theorem left_snoc (l : List In) (a : In) (r : List Int) : left (l ++ [a]) r = if a.id ∈ r then left l r else left l r ++ [a] := by
  unfold left
  by_cases h : a.id ∈ r <;> simp [List.filter_append, h]
theorem fnd_snoc (l : List In) (a : In) (r : List Int) : fnd (l ++ [a]) r = if r.count a.id = 1 then fnd l r + 1 else fnd l r := by
  unfold fnd
  by_cases h : r.count a.id = 1 <;> simp [List.filter_append, h]
theorem left_len (l : List In) (r : List Int) : (left l r).length ≤ l.length := List.length_filter_le _ _
theorem cell_far (w : World) (g i : Nat) (v : Value) (b o : Nat) (h : g ≠ b) : (w.setCell ⟨g, i, none⟩ v).cell? ⟨b, o, none⟩ = w.cell? ⟨b, o, none⟩ := World.cell?_setCell_other w ⟨g, i, none⟩ ⟨b, o, none⟩ v (fun e => h (by injection e))
/-- Rows of five cells lie in no block of three. -/
theorem rows_apart3 {w : World} {A : Option Addr} {l : List In} (h : RowsAt encI 5 w A l) {t : TypeId} {b : Nat} {x y z : Value} (r : RawAt t w b #[x, y, z]) (k : Nat) (u : Value) : RowsAt encI 5 (w.setCell ⟨b, k, none⟩ u) A l := by
  intro hl
  obtain ⟨b', off, rfl, h1, h2⟩ := h hl
  have hne : b ≠ b' := fun e => by
    subst e
    have := h2 0 hl 4 (by omega)
    rw [RawAt.cell r] at this
    simp [encI] at this
  exact ⟨b', off, rfl, Nat.lt_of_lt_of_le h1 ((Below.refl 0 w).setCell (p := ⟨b, k, none⟩) (Nat.zero_le _) u).size, fun j h3 c h4 => by rw [cell_far w b k u b' _ hne]; exact h2 j h3 c h4⟩
end Go.Proofs.YtjkmkobnfhepaaaGreat
