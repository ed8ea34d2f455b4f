/- Equal spans, by the statements' own. -/
import Derived.Test.YtdpmimlhchghlaaGreatFoE
namespace Go.Proofs.YtdpmimlhchghlaaGreat
open Go.RowKit
set_option linter.unusedVariables false
theorem RowsAt.in2F {w : World} {A : Option Addr} {l : List Fo} (h : RowsAt encF 2 w A l) {j : Nat} (hj : j < l.length) : ∃ b off, A = some ⟨b, off, none⟩ ∧ b < w.heap.size ∧
    w.cell? ⟨b, off + j * 2, none⟩ = some (.int .i64 l[j].f) ∧ w.cell? ⟨b, off + j * 2 + 1, none⟩ = some (.int .i64 l[j].t) := by
  obtain ⟨b, off, e, hb, hc⟩ := h.at1 hj
  exact ⟨b, off, e, hb, hc 0 (by omega), hc 1 (by omega)⟩
end Go.Proofs.YtdpmimlhchghlaaGreat
