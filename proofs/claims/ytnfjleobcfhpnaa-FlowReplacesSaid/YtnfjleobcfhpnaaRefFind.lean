/- The document's own answers of trees: size, Find. -/
import Derived.Test.YtnfjleobcfhpnaaRitem
import Derived.Test.YtnfjleobcfhpnaaRefAll
import Derived.Test.YtnfjleobcfhpnaaTreeQ
import Derived.Test.YtnfjleobcfhpnaaItBase
namespace Go.Proofs.Ytnfjleobcfhpnaa
open Go.RowKit
/-- The cells of a place. -/
def pcs (k : Nat) (s : S6) : Array Value := #[.int .i64 k, .int .i64 s.n, .int .i64 s.d0, .int .i64 s.d1, .int .i64 s.d2, .int .i64 s.mx, .int .i64 s.pl]
theorem raw7 {t : TypeId} {w : World} {b k : Nat} {s : S6} (h : RawAt t w b (pcs k s)) : w.cell? ⟨b, 0, none⟩ = some (.int .i64 k) ∧ w.cell? ⟨b, 1, none⟩ = some (.int .i64 s.n) ∧ w.cell? ⟨b, 2, none⟩ = some (.int .i64 s.d0) ∧ w.cell? ⟨b, 3, none⟩ = some (.int .i64 s.d1) ∧ w.cell? ⟨b, 4, none⟩ = some (.int .i64 s.d2) ∧ w.cell? ⟨b, 5, none⟩ = some (.int .i64 s.mx) ∧ w.cell? ⟨b, 6, none⟩ = some (.int .i64 s.pl) :=
  ⟨RawAt.cell h 0, RawAt.cell h 1, RawAt.cell h 2, RawAt.cell h 3, RawAt.cell h 4, RawAt.cell h 5, RawAt.cell h 6⟩
end Go.Proofs.Ytnfjleobcfhpnaa
