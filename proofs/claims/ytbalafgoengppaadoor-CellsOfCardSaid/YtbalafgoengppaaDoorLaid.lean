/- The program's two tables of widths, from what a row lists. -/
import Derived.Test.YtbalafgoengppaaDoorPlain
import Derived.Test.YtbalafgoengppaaDoorRows
import Derived.Lib.LaidU8
import Derived.LaidHandle
import Derived.MakeChecks
namespace Go.Proofs.YtbalafgoengppaaDoor
open Go.RowKit
theorem pairs_var {P : Program} {w : World} {name : String} {g : Nat} {t e : TypeId} {n : Nat} {fs : Array Field} {rs : List (Int × Int)} {d : DataW Unit}
    (hd : d = .agg (rs.map fun x => .agg [.lit (.int .i32 x.1), .lit (.int .i32 x.2)])) (hg : P.globalNamed name = some g) (hy : (P.globals[g]?).map (·.type) = some t) (ht : P.underlying t = some (.array n e)) (hn : rs.length = n)
    (he : P.underlying e = some (.struct fs)) (hf : ∀ (i : Nat) (f : Field), fs[i]? = some f → P.underlying f.type = some (.int .i32) ∧ f.offset = i ∧ P.cellsOf f.type = 1) (h2 : fs.size = 2) (hc : P.cellsOf e = 2)
    (h : Lib.VarReads P w name d) : 0 < n → g < w.heap.size ∧ ∀ k, k < rs.length → w.cell? ⟨g, 0 + k * 2, none⟩ = some (.int .i32 (rlo rs k)) ∧ w.cell? ⟨g, 0 + k * 2 + 1, none⟩ = some (.int .i32 (rhi rs k)) := by
  intro hn0
  subst hd
  obtain ⟨g', t', cs, fuel, p, hg', hty, hvar, hr⟩ := h
  obtain rfl := Option.some.inj (hg.symm.trans hg')
  obtain rfl := Option.some.inj (hy.symm.trans hty)
  have each : ∀ k, k < rs.length → w.cell? ⟨g, 0 + k * 2, none⟩ = some (.int .i32 (rlo rs k)) ∧ w.cell? ⟨g, 0 + k * 2 + 1, none⟩ = some (.int .i32 (rhi rs k)) := by
    intro k hk
    obtain ⟨fuel', d', q, hdi, hel⟩ := Lib.array_elem ht hr k (by omega)
    simp only [List.getElem?_map, List.getElem?_eq_getElem hk, Option.map_some, Option.some.injEq] at hdi
    subst hdi
    rw [hc] at hel
    have hcs := Lib.ints_of_struct (zs := [rs[k].1, rs[k].2]) he hf (by rw [hc, h2]) hel
    have e0 := congrArg (·[0]?) hcs
    have e1 := congrArg (·[1]?) hcs
    simp only [List.getElem?_take, List.getElem?_drop] at e0 e1
    have er : rs.getD k (0, 0) = rs[k] := by simp [List.getD, hk]
    unfold rlo rhi
    rw [er, Nat.zero_add, World.var?_cell hg hvar (k * 2), World.var?_cell hg hvar (k * 2 + 1), ← Array.getElem?_toList, ← Array.getElem?_toList]
    exact ⟨by simpa using e0, by simpa using e1⟩
  refine ⟨?_, each⟩
  have := (each 0 (by omega)).1
  rcases Nat.lt_or_ge g w.heap.size with hlt | hge
  · exact hlt
  · simp [World.cell?, Array.getElem?_eq_none hge] at this
theorem cells_range : Tryd.prog.cellsOf 68 = 2 := by kernel_rfl
theorem cells_i32 : Tryd.prog.cellsOf 21 = 1 := by kernel_rfl
theorem tabs_of_laid {W : World} (h : laidMetH Tryd.prog [("bodkin/width.plainZero", Rows.laid_bodkin_width_plainZero), ("bodkin/width.plainWide", Rows.laid_bodkin_width_plainWide)] W) : Tabs W := by
  rw [MakeChecks.laidMetH_plain _ _ _ (by kernel_rfl)] at h
  have hz := pairs_var (rs := zeroL) (fs := #[{ name := "From", type := 21, offset := 0, embedded := false, tag := "", pkgPath := "", byteOffset := 0 }, { name := "To", type := 21, offset := 1, embedded := false, tag := "", pkgPath := "", byteOffset := 4 }])
    rfl (show Tryd.prog.globalNamed "bodkin/width.plainZero" = some 0 by kernel_rfl) (show (Tryd.prog.globals[0]?).map (·.type) = some 69 by kernel_rfl) Tryd.underlying69 rfl Tryd.underlying68
    (fun j f hj => by
      match j, hj with
      | 0, hj => simp at hj; subst hj; exact ⟨Tryd.underlying21, rfl, cells_i32⟩
      | 1, hj => simp at hj; subst hj; exact ⟨Tryd.underlying21, rfl, cells_i32⟩
      | j + 2, hj => simp at hj) rfl cells_range (Lib.laidMet.reads h (d := Rows.laid_bodkin_width_plainZero) (by simp)) (by decide)
  have hw := pairs_var (rs := wideL) (fs := #[{ name := "From", type := 21, offset := 0, embedded := false, tag := "", pkgPath := "", byteOffset := 0 }, { name := "To", type := 21, offset := 1, embedded := false, tag := "", pkgPath := "", byteOffset := 4 }])
    rfl (show Tryd.prog.globalNamed "bodkin/width.plainWide" = some 1 by kernel_rfl) (show (Tryd.prog.globals[1]?).map (·.type) = some 70 by kernel_rfl) Tryd.underlying70 rfl Tryd.underlying68
    (fun j f hj => by
      match j, hj with
      | 0, hj => simp at hj; subst hj; exact ⟨Tryd.underlying21, rfl, cells_i32⟩
      | 1, hj => simp at hj; subst hj; exact ⟨Tryd.underlying21, rfl, cells_i32⟩
      | j + 2, hj => simp at hj) rfl cells_range (Lib.laidMet.reads h (d := Rows.laid_bodkin_width_plainWide) (by simp)) (by decide)
  exact ⟨⟨hz.1, hw.1⟩, hz.2, hw.2⟩
end Go.Proofs.YtbalafgoengppaaDoor
