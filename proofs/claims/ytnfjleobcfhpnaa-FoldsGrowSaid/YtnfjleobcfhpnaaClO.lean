/- What the laws on stops and cells are told: a size and a place by value; parts; cells. -/
import Derived.Test.YtnfjleobcfhpnaaKOpen
import Derived.Test.YtnfjleobcfhpnaaClP
namespace Go.Proofs.Ytnfjleobcfhpnaa
open Go.ChangeShapes Go.WideShapes Go.ChangeAt Go.RowKit
/-- A tab's size, and what is asked for. -/
structure AskV where
  t : Int
  a : Int
def AskOk (s : AskV) : Prop := Lit.wf (.int .i64 s.t) ∧ Lit.wf (.int .i64 s.a)
/-- A part, and where its runes lie. -/
structure PtV where
  k : Int
  p : Int
  A : Option Addr
  n : Nat
  c : Nat
  rs : List Int
def ptcs (s : PtV) : List Value := [.int .i64 s.k, .int .i64 s.p, .slice s.A s.n s.c]
def PtOk (w : World) (s : PtV) : Prop := s.rs.length = s.n ∧ s.n ≤ maxLen ∧ Caps s.A s.n s.c ∧ IntsAt .i32 w s.A s.rs ∧ Lit.wf (.int .i64 s.k) ∧ Lit.wf (.int .i64 s.p)
theorem PtOk.below {w w' : World} {s : PtV} (h : PtOk w s) (hb : Below w.heap.size w w') : PtOk w' s := ⟨h.1, h.2.1, h.2.2.1, h.2.2.2.1.below hb, h.2.2.2.2⟩
def encC (c : Cl) : List Value := [.int .i32 c.r, .int .i64 c.k, .int .i64 c.wd, .int .i64 c.p]
theorem encC_len (c : Cl) : (encC c).length = 4 := rfl
theorem encC_one (c : Cl) : ∀ v ∈ encC c, v.oneCell' = true := by intro v hv; simp [encC] at hv; rcases hv with rfl | rfl | rfl | rfl <;> rfl
def ClOk (c : Cl) : Prop := Lit.wf (.int .i32 c.r) ∧ Lit.wf (.int .i64 c.k) ∧ Lit.wf (.int .i64 c.wd) ∧ Lit.wf (.int .i64 c.p)
section
variable {H : Type} {enc : TypeId × Value → H} {w : World} {base : Nat} {sp : Nat → Bool} {held : Bool}
theorem cc_int : Try.prog.cellsOf 3 = 1 := by kernel_rfl
theorem cc_i32 : Try.prog.cellsOf 21 = 1 := by kernel_rfl
end
section
variable {H : Type} {enc : TypeId × Value → H} {w : World} {base : Nat} {held : Bool}
theorem nth_flat {l : List Int} : ∀ {j : Nat} (h : j < l.length), nth l j = l[j] := fun h => by simp [nth, List.getD, h]
theorem ints_of_rows {kd : IntKind} {A : Option Addr} {l : List Int} (h : RowsAt (fun x : Int => [.int kd x]) 1 w A l) : IntsAt kd w A l := by
  intro hl
  obtain ⟨b, off, rfl, h1, h2⟩ := h hl
  refine ⟨b, off, rfl, h1, fun k hk => ?_⟩
  have := h2 k hk 0 (by omega)
  rw [nth_flat hk]
  simpa using this
end
end Go.Proofs.Ytnfjleobcfhpnaa
