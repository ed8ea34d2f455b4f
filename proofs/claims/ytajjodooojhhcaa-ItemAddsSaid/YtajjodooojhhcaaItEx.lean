/- The contracts of item.Add and item.All, their cells written out. -/
import Derived.Test.YtajjodooojhhcaaItLaw
import Derived.Deep.RegionHeld3
namespace Go.Proofs.Ytajjodooojhhcaa
open Go.RowKit
theorem iadd_ex (a b c : S6) (n m : Int) (ha : SOk a n) (hb : SOk b m) (hn : n ≤ 1000000) (hm : m ≤ 1000000) (h : sadd a b = c) (w : World) :
    Calls Try.prog 26 #[.agg #[.int .i64 a.n, .int .i64 a.d0, .int .i64 a.d1, .int .i64 a.d2, .int .i64 a.mx, .int .i64 a.pl], .agg #[.int .i64 b.n, .int .i64 b.d0, .int .i64 b.d1, .int .i64 b.d2, .int .i64 b.mx, .int .i64 b.pl]] w fun e w' => e = .returned (.agg #[.int .i64 c.n, .int .i64 c.d0, .int .i64 c.d1, .int .i64 c.d2, .int .i64 c.mx, .int .i64 c.pl]) ∧ Below w.heap.size w w' := iadd_any a b c n m ha hb hn hm h w
theorem iall_ex (A : Option Addr) (n c : Nat) (l : List I7) (w : World) (q : S6) (hA : ItsAt w A l) (hl : l.length = n) (hn : n ≤ 100000) (ho : Okl l) (h : sall l = q) :
    Calls Try.prog 25 #[.slice A n c] w fun e w' => e = .returned (.agg #[.int .i64 q.n, .int .i64 q.d0, .int .i64 q.d1, .int .i64 q.d2, .int .i64 q.mx, .int .i64 q.pl]) ∧ Below w.heap.size w w' := by
  subst h
  exact iall_any A n c l w hA hl hn ho
theorem iadd_zz (a : S6) (n : Int) (ha : SOk a n) (hn : n ≤ 1000000) (w : World) :
    Calls Try.prog 26 #[.agg #[.int .i64 a.n, .int .i64 a.d0, .int .i64 a.d1, .int .i64 a.d2, .int .i64 a.mx, .int .i64 a.pl], .agg #[.int .i64 0, .int .i64 0, .int .i64 0, .int .i64 0, .int .i64 0, .int .i64 0]] w fun e w' => e = .returned (.agg #[.int .i64 a.n, .int .i64 a.d0, .int .i64 a.d1, .int .i64 a.d2, .int .i64 a.mx, .int .i64 a.pl]) ∧ Below w.heap.size w w' := iadd_any a s0 a n 0 ha s0_ok hn (by omega) (sadd_e ha) w
theorem zz_iadd (a : S6) (n : Int) (ha : SOk a n) (hn : n ≤ 1000000) (w : World) :
    Calls Try.prog 26 #[.agg #[.int .i64 0, .int .i64 0, .int .i64 0, .int .i64 0, .int .i64 0, .int .i64 0], .agg #[.int .i64 a.n, .int .i64 a.d0, .int .i64 a.d1, .int .i64 a.d2, .int .i64 a.mx, .int .i64 a.pl]] w fun e w' => e = .returned (.agg #[.int .i64 a.n, .int .i64 a.d0, .int .i64 a.d1, .int .i64 a.d2, .int .i64 a.mx, .int .i64 a.pl]) ∧ Below w.heap.size w w' := iadd_any s0 a a 0 n s0_ok ha (by omega) hn (e_sadd a) w
/-- What right says of a list. -/
theorem rightl_yes (A : Option Addr) (n c : Nat) (l : List I7) (w : World) (hA : ItsAt w A l) (hl : l.length = n) (hn : n ≤ maxLen) (h : n ≤ 1000 ∧ Okl l) :
    Calls Try.prog 21 #[.slice A n c] w fun e w' => e = .returned (.bool true) ∧ Below w.heap.size w w' :=
  rightl_any A n c l w hA hl (by unfold maxLen at hn; omega) true ⟨fun _ => h, fun _ => rfl⟩
theorem rightl_no (A : Option Addr) (n c : Nat) (l : List I7) (w : World) (hA : ItsAt w A l) (hl : l.length = n) (hn : n ≤ maxLen) (h : ¬ (n ≤ 1000 ∧ Okl l)) :
    Calls Try.prog 21 #[.slice A n c] w fun e w' => e = .returned (.bool false) ∧ Below w.heap.size w w' :=
  rightl_any A n c l w hA hl (by unfold maxLen at hn; omega) false ⟨fun e => absurd e (by simp), fun e => absurd e h⟩
end Go.Proofs.Ytajjodooojhhcaa
