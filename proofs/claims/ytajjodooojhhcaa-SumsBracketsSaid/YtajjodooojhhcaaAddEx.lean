/- The contracts of sums.Add and sums.Of, their cells written out. -/
import Derived.Test.YtajjodooojhhcaaAdd
import Derived.Test.YtajjodooojhhcaaEndRef
import Derived.Test.YtajjodooojhhcaaOwn
import Derived.Deep.RegionHeld3
namespace Go.Proofs.Ytajjodooojhhcaa
open Go.RowKit
theorem add_ex (a b c : Q) (n m : Int) (ha : QOk a n) (hb : QOk b m) (hn : n ≤ 100000000) (hm : m ≤ 100000000) (h : qadd a b = c) (w : World) :
    Calls Try.prog 16 #[.agg #[.int .i64 a.by_, .int .i64 a.ru, .int .i64 a.br, .int .i64 a.fi, .int .i64 a.la, .int .i64 a.lo, .int .i64 a.rw], .agg #[.int .i64 b.by_, .int .i64 b.ru, .int .i64 b.br, .int .i64 b.fi, .int .i64 b.la, .int .i64 b.lo, .int .i64 b.rw]] w fun e w' => e = .returned (.agg #[.int .i64 c.by_, .int .i64 c.ru, .int .i64 c.br, .int .i64 c.fi, .int .i64 c.la, .int .i64 c.lo, .int .i64 c.rw]) ∧ Below w.heap.size w w' := by
  subst h
  exact add_any a b n m w ha hb hn hm
theorem of_ex (A : Option Addr) (n c : Nat) (l : List Int) (w : World) (q : Q) (hA : IntsAt .i32 w A l) (hl : l.length = n) (hn : n ≤ 1000000) (h : qof l = q) :
    Calls Try.prog 12 #[.slice A n c] w fun e w' => e = .returned (.agg #[.int .i64 q.by_, .int .i64 q.ru, .int .i64 q.br, .int .i64 q.fi, .int .i64 q.la, .int .i64 q.lo, .int .i64 q.rw]) ∧ Below w.heap.size w w' := by
  subst h
  exact of_any A n c l w hA hl hn
theorem add_z (a : Q) (n : Int) (ha : QOk a n) (hn : n ≤ 100000000) (w : World) :
    Calls Try.prog 16 #[.agg #[.int .i64 a.by_, .int .i64 a.ru, .int .i64 a.br, .int .i64 a.fi, .int .i64 a.la, .int .i64 a.lo, .int .i64 a.rw], .agg #[.int .i64 0, .int .i64 0, .int .i64 0, .int .i64 0, .int .i64 0, .int .i64 0, .int .i64 0]] w fun e w' => e = .returned (.agg #[.int .i64 a.by_, .int .i64 a.ru, .int .i64 a.br, .int .i64 a.fi, .int .i64 a.la, .int .i64 a.lo, .int .i64 a.rw]) ∧ Below w.heap.size w w' :=
  add_ex a q0 a n 0 ha q0_ok hn (by omega) (qadd_zero ha) w
theorem z_add (l : List Int) (q : Q) (hq : qof l = q) (hn : l.length ≤ 100000000) (w : World) :
    Calls Try.prog 16 #[.agg #[.int .i64 0, .int .i64 0, .int .i64 0, .int .i64 0, .int .i64 0, .int .i64 0, .int .i64 0], .agg #[.int .i64 q.by_, .int .i64 q.ru, .int .i64 q.br, .int .i64 q.fi, .int .i64 q.la, .int .i64 q.lo, .int .i64 q.rw]] w fun e w' => e = .returned (.agg #[.int .i64 q.by_, .int .i64 q.ru, .int .i64 q.br, .int .i64 q.fi, .int .i64 q.la, .int .i64 q.lo, .int .i64 q.rw]) ∧ Below w.heap.size w w' := by
  subst hq
  exact add_ex q0 (qof l) (qof l) 0 l.length q0_ok (qof_ok l) (by omega) (by omega) (zero_qadd l) w
theorem RawAt.cells7 {t : TypeId} {w : World} {b : Nat} {q : Q} (h : RawAt t w b (qcs q)) : w.cell? ⟨b, 0, none⟩ = some (.int .i64 q.by_) ∧ w.cell? ⟨b, 1, none⟩ = some (.int .i64 q.ru) ∧ w.cell? ⟨b, 2, none⟩ = some (.int .i64 q.br) ∧ w.cell? ⟨b, 3, none⟩ = some (.int .i64 q.fi) ∧ w.cell? ⟨b, 4, none⟩ = some (.int .i64 q.la) ∧ w.cell? ⟨b, 5, none⟩ = some (.int .i64 q.lo) ∧ w.cell? ⟨b, 6, none⟩ = some (.int .i64 q.rw) :=
  ⟨RawAt.cell h 0, RawAt.cell h 1, RawAt.cell h 2, RawAt.cell h 3, RawAt.cell h 4, RawAt.cell h 5, RawAt.cell h 6⟩
/-- What a sum's block holds, in every world that keeps it. -/
theorem held_sum {b : Nat} {q : Q} {w : World} {t : TypeId} (h : RawAt t w b (qcs q)) (W : World) (hW : Below w.heap.size w W) : W.cell? ⟨b, 0, none⟩ = some (.int .i64 q.by_) ∧ W.cell? ⟨b, 1, none⟩ = some (.int .i64 q.ru) ∧ W.cell? ⟨b, 2, none⟩ = some (.int .i64 q.br) ∧ W.cell? ⟨b, 3, none⟩ = some (.int .i64 q.fi) ∧ W.cell? ⟨b, 4, none⟩ = some (.int .i64 q.la) ∧ W.cell? ⟨b, 5, none⟩ = some (.int .i64 q.lo) ∧ W.cell? ⟨b, 6, none⟩ = some (.int .i64 q.rw) :=
  RawAt.cells7 (h.below hW (RawAt.lt h))
end Go.Proofs.Ytajjodooojhhcaa
