/- Folds: the contract of Hidden. -/
import Derived.Test.YtdpmimlhchghlaaGreatFoC
import Derived.Test.YtdpmimlhchghlaaGreatKRow
import Derived.BigQuiet
import Derived.RegionTactic
namespace Go.Proofs.YtdpmimlhchghlaaGreat
open Go.RowKit Go.Sort
set_option linter.unusedVariables false
/-- One more fold behind hidden spans. -/
def hstep (l : List Fo) (x : Fo) : List Fo :=
  match l.getLast? with
  | some y => if x.f < y.t then l.dropLast ++ [⟨y.f, max y.t x.t⟩] else l ++ [x]
  | none => [x]
def hidL (o : List Fo) : List Fo := o.foldl hstep []
theorem hstep_nil (x : Fo) : hstep [] x = [x] := rfl
theorem hstep_in (l : List Fo) (y x : Fo) (h : x.f < y.t) : hstep (l ++ [y]) x = l ++ [⟨y.f, max y.t x.t⟩] := by
  unfold hstep
  simp [h]
theorem hstep_out (l : List Fo) (y x : Fo) (h : ¬ x.f < y.t) : hstep (l ++ [y]) x = (l ++ [y]) ++ [x] := by
  unfold hstep
  simp [h]
theorem hidL_take {o : List Fo} {k : Nat} (h : k < o.length) : hidL (o.take (k + 1)) = hstep (hidL (o.take k)) o[k] := by
  unfold hidL
  rw [List.take_succ_eq_append_getElem h, List.foldl_append]
  rfl
theorem fkfl_set : ∀ (L : List Fo) (k : Nat) (h : k < L.length) (z : Int), (kfl encF L).set (k * 2 + 1) (.int .i64 z) = kfl encF (L.set k ⟨L[k].f, z⟩)
  | x :: L, 0, _, z => rfl
  | x :: L, k + 1, h, z => by
    have ih := fkfl_set L k (by simpa using h) z
    rw [List.set_cons_succ, kfl_cons, kfl_cons, List.set_append_right _ _ (by rw [encF_len]; omega), encF_len, show (k + 1) * 2 + 1 - 2 = k * 2 + 1 by omega, ih]
    rfl
theorem own_setF {w : World} {base : Nat} {e : TypeId} {size g cap n : Nat} {xs : List Value} (h : w.ownsRow base e size (.slice (some ⟨g, 0, none⟩) n cap) n xs) (i : Nat) (u : Value) : (w.setCell ⟨g, i, none⟩ u).ownsRow base e size (.slice (some ⟨g, 0, none⟩) n cap) n (xs.set i u) := by
  refine ⟨by rw [List.length_set]; exact h.1, .inr ?_⟩
  rcases h.2 with ⟨h2, _⟩ | ⟨g', cap', cur, hv, hB, c, h3, h4, h5, h6⟩
  · cases h2
  · injection hv with hv1 hv2 hv3
    injection hv1 with hv1
    injection hv1 with hv1
    subst hv1
    subst hv3
    refine ⟨g, cap, cur.setIfInBounds i u, rfl, hB, RawAt.set_ (t := e) c i u, h3, h4, by rw [Array.size_setIfInBounds]; exact h5, ?_⟩
    rw [Array.toList_setIfInBounds, List.take_set, h6]
theorem own_freeF {w : World} {base : Nat} {e : TypeId} {size g cap n : Nat} {xs : List Value} (h : w.ownsRow base e size (.slice (some ⟨g, 0, none⟩) n cap) n xs) (i : Nat) : w.frozen? ⟨g, i, none⟩ = false := by
  rcases h.2 with ⟨h2, _⟩ | ⟨g', cap', cur, hv, hB, c, h3, h4, h5, h6⟩
  · cases h2
  · injection hv with hv1 hv2 hv3
    injection hv1 with hv1
    injection hv1 with hv1
    subst hv1
    exact RawAt.free (t := e) c i
end Go.Proofs.YtdpmimlhchghlaaGreat
