/- Three sizes held against three others. -/
import Derived.Test.YtbbplppcabeojaaItBase
namespace Go.Proofs.Ytbbplppcabeojaa
open Go.RowKit
theorem part_int (cs : Array Value) (k : Nat) (v : Value) (h : cs[k]? = some v) (w : World) : (part 3 cs k).run Try.prog w = .ok v w := by
  simp [part, isAgg, run_underlying Try.underlying3, h, go_sem]
theorem eq3 (d : Nat) (a0 a1 a2 b0 b1 b2 : Int) (w : World) : (Op.equalIn (d + 2) 50 (.agg #[.int .i64 a0, .int .i64 a1, .int .i64 a2]) (.agg #[.int .i64 b0, .int .i64 b1, .int .i64 b2])).run Try.prog w = .ok (a0 == b0 && (a1 == b1 && a2 == b2)) w := by
  rw [Op.equalIn]
  simp only [Sem.run_bind, run_underlying Try.underlying50, Result.andThen_ok]
  have hs : (sizeOf 3).run Try.prog w = .ok 1 w := by simp [go_sem]
  rw [hs]
  simp only [Result.andThen_ok]
  have h0 : ∀ x y z : Int, (part 3 #[.int .i64 x, .int .i64 y, .int .i64 z] 0).run Try.prog w = .ok (.int .i64 x) w := fun x y z => part_int _ _ _ rfl w
  have h1 : ∀ x y z : Int, (part 3 #[.int .i64 x, .int .i64 y, .int .i64 z] 1).run Try.prog w = .ok (.int .i64 y) w := fun x y z => part_int _ _ _ rfl w
  have h2 : ∀ x y z : Int, (part 3 #[.int .i64 x, .int .i64 y, .int .i64 z] 2).run Try.prog w = .ok (.int .i64 z) w := fun x y z => part_int _ _ _ rfl w
  have he : ∀ x y : Int, (Op.equalIn (d + 1) 3 (.int .i64 x) (.int .i64 y)).run Try.prog w = .ok (x == y) w := fun x y => run_equalIn_int w d _ _ _ _ _ Try.underlying3
  rw [Std.Legacy.Range.forIn_eq_forIn_range']
  by_cases e0 : a0 = b0 <;> by_cases e1 : a1 = b1 <;> by_cases e2 : a2 = b2 <;> simp [List.range', h0, h1, h2, he, Std.Legacy.Range.size, Result.andThen, e0, e1, e2]
end Go.Proofs.Ytbbplppcabeojaa
