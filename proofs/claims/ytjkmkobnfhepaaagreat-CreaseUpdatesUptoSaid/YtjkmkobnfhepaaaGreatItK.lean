/- Items as a row of things of seven cells each. -/
import Derived.Test.YtjkmkobnfhepaaaGreatTreeQ
import Derived.Test.YtjkmkobnfhepaaaGreatKRow
namespace Go.Proofs.YtjkmkobnfhepaaaGreat
open Go.RowKit
def encIt (i : I7) : List Value := [.int .i64 i.tag, .int .i64 i.id, .int .i64 i.d0, .int .i64 i.d1, .int .i64 i.d2, .int .i64 i.mx, .string i.tx]
theorem encIt_len (i : I7) : (encIt i).length = 7 := rfl
theorem encIt_one (i : I7) : ∀ v ∈ encIt i, v.oneCell' = true := by
  intro v hv
  simp only [encIt, List.mem_cons, List.not_mem_nil, or_false] at hv
  rcases hv with rfl | rfl | rfl | rfl | rfl | rfl | rfl <;> rfl
theorem it_slt : SlT Tryz.prog 77 120 7 64 := slt_of Tryz.underlying77 item_info rfl (by kernel_rfl)
end Go.Proofs.YtjkmkobnfhepaaaGreat
