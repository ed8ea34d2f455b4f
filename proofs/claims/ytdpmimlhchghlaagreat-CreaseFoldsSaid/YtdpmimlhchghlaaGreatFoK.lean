/- Folds: spans as keys of a map. -/
import Derived.Test.YtdpmimlhchghlaaGreatFoA
import Derived.Test.YtdpmimlhchghlaaGreatKRow
import Derived.DeepKeys4
namespace Go.Proofs.YtdpmimlhchghlaaGreat
open Go.RowKit Go.Sort
set_option linter.unusedVariables false
/-- A fold whose places are ints. -/
def WFo : Type := { a : Fo // (Lit.int .i64 a.f).wf = true ∧ (Lit.int .i64 a.t).wf = true }
instance : DecidableEq WFo := fun a b => if h : a.1 = b.1 then isTrue (Subtype.ext h) else isFalse fun e => h (e ▸ rfl)
def fkv (x : WFo) : Value := .agg #[.int .i64 x.1.f, .int .i64 x.1.t]
def fkl (x : WFo) : Lit := .string (keyBytes [.int .i64 x.1.f, .int .i64 x.1.t])
theorem span_keyed : Maps.Keyed Tryz.prog 47 := Maps.Keyed.of_law (deep_law_laid (by kernel_rfl) (m := 2) (by omega) (of_decide_eq_true (by kernel_rfl)) (by kernel_rfl) (by kernel_rfl))
theorem span_key (x : WFo) : keyOf Tryz.prog 47 (fkv x) = some (fkl x) := by
  obtain ⟨⟨f, t⟩, h1, h2⟩ := x
  simp only at h1 h2
  have hk : Tryz.prog.keyType 47 = true := by kernel_rfl
  have hf : ∀ a b : Int, (Value.agg #[.int .i64 a, .int .i64 b]).formed Tryz.prog 47 = true := fun a b => by kernel_rfl
  have hc1 : Tryz.prog.cellsOf 3 = 1 := by kernel_rfl
  have hc2 : Tryz.prog.cellsOf 47 = 2 := by kernel_rfl
  have hl : ∀ d, Tryz.prog.keyLits (d + 1 + 1) 47 [.int .i64 f, .int .i64 t] = some [.int .i64 f, .int .i64 t] := fun d => by
    simp [Program.keyLits, Tryz.underlying47, Tryz.underlying3, hc1, hc2, h1, h2]
  obtain ⟨d, hd⟩ : ∃ d, Tryz.prog.types.size = d + 1 := ⟨Tryz.prog.types.size - 1, by have : 0 < Tryz.prog.types.size := of_decide_eq_true (by kernel_rfl); omega⟩
  unfold keyOf
  rw [Tryz.underlying47]
  simp only [hk, fkv, hf, Bool.and_self, if_true, hd]
  have hcs : (Value.agg #[.int .i64 f, .int .i64 t]).cells.toList = [.int .i64 f, .int .i64 t] := rfl
  rw [hcs, hl]
  rfl
theorem fkl_inj (x y : WFo) (h : fkl x = fkl y) : x = y := by
  obtain ⟨⟨f, t⟩, h1, h2⟩ := x
  obtain ⟨⟨f', t'⟩, h3, h4⟩ := y
  unfold fkl at h
  injection h with h
  have := keyBytes_inj (l := [.int .i64 f, .int .i64 t]) (l' := [.int .i64 f', .int .i64 t']) (by simp [Alike, Lit.sameKind]) (by simp [Lit.keyWf]; exact ⟨h1, h2⟩) (by simp [Lit.keyWf]; exact ⟨h3, h4⟩) h
  simp at this
  obtain ⟨rfl, rfl⟩ := this
  rfl
theorem fkey : KeyEnc Tryz.prog 47 fkv fkl (fun _ => True) where
  keyed := span_keyed
  of := fun x _ => span_key x
  inj := fkl_inj
  lit := fun x => trivial
end Go.Proofs.YtdpmimlhchghlaaGreat
