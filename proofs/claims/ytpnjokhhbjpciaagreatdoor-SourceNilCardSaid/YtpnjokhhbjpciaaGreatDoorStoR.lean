/- A struct that is stored whole. -/
import Derived.Test.YtpnjokhhbjpciaaGreatDoorKRow
import Derived.BigQuiet
import Derived.Deep.RegionHeld3
import Derived.Laws.CopyOwn
import Derived.Deep.DeepCutAuto
namespace Go.Proofs.YtpnjokhhbjpciaaGreatDoor
open Go.RowKit
set_option linter.unusedVariables false
theorem raw_row {t : TypeId} {w : World} {b : Nat} {cs : Array Value} (h : RawAt t w b cs) (vs : Array Value) : RawAt t (w.setRow b vs) b vs := setRow_heap w b cs vs t (0, 0) h
theorem raw_row_ne {t t' : TypeId} {w : World} {b b' : Nat} {cs cs' : Array Value} (h : RawAt t w b cs) (_h' : RawAt t' w b' cs') (hne : b ≠ b') (vs : Array Value) : RawAt t (w.setRow b' vs) b cs := (setRow_other w b' b vs hne).trans h
theorem step_store_row {P : Program} {w : World} {a : Act} {ops : Array Oper} {o : Oper} {Q : Exit → Act → World → Prop} {K : Act → World → Prop} {E : Prop} (hgd : o.guard = none) (ty : TypeId) (x y : Operand) (ho : o.op = .store ty x y)
    (g : Nat) (cells : Array Value) (hx : a.eval x = .pointer (some ⟨g, 0, none⟩)) (hy : a.eval y = .agg cells) {t : TypeId} {old : Array Value} (hg : RawAt t w g old) (hi : (P.info? ty).map (·.size) = some cells.size)
    (hold : old.size = cells.size) (h1 : cells.all (·.oneCell') = true) (h : K (a.put o.dst undef) (w.setRow g cells)) : if Region.wanted o (yielded ops a.tmps) = true then Oper.wp P o a w K Q else E := by
  have hw : Region.wanted o (yielded ops a.tmps) = true := by simp [Region.wanted, hgd]
  rw [if_pos hw]
  exact wp_store_row ty x y ho g cells hx hy t old hg hi hold h1 h
end Go.Proofs.YtpnjokhhbjpciaaGreatDoor
