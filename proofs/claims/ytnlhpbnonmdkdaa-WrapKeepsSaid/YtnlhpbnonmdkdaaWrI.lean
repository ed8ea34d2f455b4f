/- Rows of rows, as a law reads them. -/
import Derived.Test.YtnlhpbnonmdkdaaWrH
import Derived.Test.YtnlhpbnonmdkdaaPlC
namespace Go.Proofs.Ytnlhpbnonmdkdaa
open Go.RowKit
set_option linter.unusedVariables false
def RRAt (W : World) (A : Option Addr) (rs : List (List Cl)) : Prop := ∃ ss, RowsAt encS 1 W A ss ∧ RsAt W ss rs
theorem RRAt.below {W W' : World} {A : Option Addr} {rs : List (List Cl)} (h : RRAt W A rs) (hb : Below W.heap.size W W') : RRAt W' A rs := by
  obtain ⟨ss, h1, h2⟩ := h
  exact ⟨ss, h1.below hb, RsAt.mono (fun s r h => RowO.below h hb) h2⟩
theorem RRAt.at1 {W : World} {A : Option Addr} {rs : List (List Cl)} (h : RRAt W A rs) {j : Nat} (hj : j < rs.length) : ∃ b off Aj cj, A = some ⟨b, off, none⟩ ∧ b < W.heap.size ∧ W.cell? ⟨b, off + j, none⟩ = some (.slice Aj rs[j].length cj) ∧ RowsAt encC 4 W Aj rs[j] ∧ Caps Aj rs[j].length cj := by
  obtain ⟨ss, h1, h2⟩ := h
  have hjs : j < ss.length := by rw [h2.length]; exact hj
  have ho := h2.at1 hjs hj
  obtain ⟨b, off, e, hb, hc⟩ := h1.at1 hjs
  have c0 := hc 0 (by omega)
  rw [Nat.mul_one, Nat.add_zero] at c0
  refine ⟨b, off, ss[j].A, ss[j].c, e, hb, ?_, ho.rows, by rw [ho.len]; exact ho.caps⟩
  rw [c0, ho.len]
  rfl
theorem rr_of {W : World} {base : Nat} {v : Value} {ss : List SlV} {rs : List (List Cl)} (h : W.ownsRow base 22 1 v ss.length (kfl encS ss)) (h2 : RsAt W ss rs) : ∃ A c, v = .slice A rs.length c ∧ RRAt W A rs := by
  obtain ⟨A, c, e, hR, _, _⟩ := rows_of_own encS_len (by omega) h
  exact ⟨A, c, by rw [e, h2.length], ss, hR, h2⟩
theorem wRowsR (A : Option Addr) (m c : Nat) (a : Int) (l : List Cl) (w : World) (hA : RowsAt encC 4 w A l) (hl : l.length = m) (hc : Caps A m c) (hm : m ≤ 900000) (hw : W02 l) (ha1 : 0 ≤ a) (ha2 : a ≤ 200) :
    Calls Try.prog 28 #[.slice A m c, .int .i64 a] w fun e w' => ∃ (A' : Option Addr) (c' : Nat), e = .returned (.tuple #[.slice A' (wrapN l a).length c', .int .i64 0]) ∧ RRAt w' A' (wrapN l a) ∧ Below w.heap.size w w' :=
  (wRows_yes A m c a l w hA hl hc hm hw ha1 ha2).mono fun e w' ⟨v, ss, he, ho, hr, hb⟩ => by
    obtain ⟨A', c', e2, h3⟩ := rr_of ho hr
    exact ⟨A', c', by rw [he, e2], h3, hb⟩
theorem rRowsR (A : Option Addr) (n c : Nat) (l : List Cl) (w : Int) (W : World) (hA : RowsAt encC 4 W A l) (hl : l.length = n) (hc : Caps A n c) (hn : n ≤ 900000) (hw : W02 l) (h0 : 0 ≤ w) (h200 : w ≤ 200) :
    Calls Try.prog 33 #[.slice A n c, .int .i64 w] W fun e W' => ∃ (A' : Option Addr) (c' : Nat), e = .returned (.slice A' (wrapN l w).length c') ∧ RRAt W' A' (wrapN l w) ∧ Below W.heap.size W W' := by
  have key : Calls Try.prog 33 #[.slice A n c, .int .i64 w] W fun e W' => ∃ (v : Value) (ss : List SlV), e = .returned v ∧ W'.ownsRow W.heap.size 22 1 v ss.length (kfl encS ss) ∧ RsAt W' ss (wrapN l w) ∧ Below W.heap.size W W' := by
    by_cases hz : w = 0
    · exact rRows20_zero A n c l w W hA hl hc hn hw h200 hz
    · exact rRows20_pos A n c l w W hA hl hc hn hw h200 (by omega)
  refine key.mono fun e w' ⟨v, ss, he, ho, hr, hb⟩ => ?_
  obtain ⟨A', c', e2, h3⟩ := rr_of ho hr
  exact ⟨A', c', by rw [he, e2], h3, hb⟩
end Go.Proofs.Ytnlhpbnonmdkdaa
