/- The contract of utf.Clean. -/
import Derived.Test.YtglalmhpgdgeeaaGreatDoorBuilder
import Derived.Test.YtglalmhpgdgeeaaGreatDoorBase
namespace Go.Proofs.YtglalmhpgdgeeaaGreatDoor
open Go.RowKit
theorem Fit.dec (s : ByteArray) : Fit (dec s) := by
  have h : ∀ f p, ∀ x ∈ decF s f p, (Lit.int .i32 x).wf = true := by
    intro f
    induction f with
    | zero => intro p x hx; cases hx
    | succ f ih =>
      intro p x hx
      unfold decF at hx
      split at hx
      · rcases List.mem_cons.1 hx with rfl | hx
        · have := decode_le s p
          simp [Lit.wf, IntKind.min, IntKind.max, IntKind.signed, IntKind.bits]
          omega
        · exact ih _ x hx
      · cases hx
  exact h _ _
end Go.Proofs.YtglalmhpgdgeeaaGreatDoor
