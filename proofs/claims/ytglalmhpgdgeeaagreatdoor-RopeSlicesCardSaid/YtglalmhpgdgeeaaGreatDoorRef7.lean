/- The document's places of a text: the contracts of bodkinref07.RuneAt, ByteAt, Ahead, Behind. The document's places of a text: the contracts of bodkinref07.RuneAt and Behind. -/
import Derived.Test.YtglalmhpgdgeeaaGreatDoorRopeAsk
import Derived.Test.YtglalmhpgdgeeaaGreatDoorBase
namespace Go.Proofs.YtglalmhpgdgeeaaGreatDoor
open Go.RowKit
theorem szl_one0 (r : Int) : szl [r] 0 = uSize r := by
  show ((encAll [r]).length : Int) = uSize r
  rw [enc_sum]; simp
theorem cut_hd {P : Program} {t e : TypeId} (ht : P.underlying t = some (.slice e)) {i : TypeInfo} (hi : P.info? e = some i) (A : Option Addr) (n c k : Nat) (hk : k ≤ c) (w : World) :
    (Instr.slice t (.slice A n c) none (some (.int .i64 k)) none).run P w = .ok (.slice A k c) w := by
  have he : P.elem t = e := by simp [Program.elem, ht]
  subst he
  rw [run_slice_h _ _ _ _ _ ht _ _ (by omega) (by omega), run_sizeOf _ hi]
  have h0 : (A.map fun x => x.add 0) = A := by cases A <;> simp [Addr.add]
  simp [Result.andThen, sliced, h0]
theorem szl_bd (l : List Int) (hl : l.length ≤ 1000000) (i k : Nat) : 0 ≤ szl (l.take i) k ∧ szl (l.take i) k ≤ 4000000 := by
  have h1 := szl_le (l.take i) k
  have h2 := szl_nonneg (l.take i) k
  have h3 : (l.take i).length ≤ l.length := by rw [List.length_take]; omega
  omega
end Go.Proofs.YtglalmhpgdgeeaaGreatDoor
