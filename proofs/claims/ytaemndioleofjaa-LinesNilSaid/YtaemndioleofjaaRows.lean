/-
  No cell of these rows narrows 'for every input' (looked for: loops, veiled, ifaces, maps, wideKeys, modest, calm, conditions, laid).
  DERIVED. THE GIVEN ROWS OF THIS SEAT. 5 by the template 'for every input the law returns true; each argument reads behind the call as it read before'; 0 by the template 'total and deterministic' (their statements: YtaemndioleofjaaTotals.lean).
  GIVEN WITH THE SEED: the statements are not yours to turn. If you find one false, say at which input.
  Laid BY PROGRAM, IN A SANDBOX (cutbox-rows.mjs): the forced cells as the released guide's own fill.sh prints them over the translation bce966a0fd58ae8a… (all of the seat's roots in one cut). By AI agents, Wed Nov 11 2026. No macro, syntax, notation, axiom, sorry.
-/
import Derived.Test.YtaemndioleofjaaChecked
import GoSem.Claim
import GoSem.ClaimJoined
import GoSem.ClaimMapViews
import Derived.JoinedTies
import Derived.KernelRfl
namespace Go.Proofs.Ytaemndioleofjaa
/- THE CELL 'sum', in the pinned program and in every row, IS THE sha256 OF THE DUMP (.gsa) THAT YtaemndioleofjaaProg.lean LOADS. Nothing in Lean hashes anything: it is a label: what it is worth is what the hold of that sum in a sandbox is worth. -/
noncomputable def Try.pinned : Pinned := { name := "ytaemndioleofjaa", sum := "bce966a0fd58ae8ad77ac7b12ab7f103c98b3ff2cca0d54c0858ba759b693ac1", checked := Try.checked }
namespace Rows
def none {H : Type} : Left H := { results := [], args := [] }

/-- 'bodkinlaw07.RopeBytes': WHATEVER THE INPUT: true; the input reads as it did. -/
def ropeBytesSpec : ChangeSpec := { name := "ropeBytes", fn := fun _ => fun
  | [d1, d2] => { results := [.lit (.bool true)], args := [d1, d2] }
  | _ => none }
def ropeBytesRow : OpenClaim := { program := "ytaemndioleofjaa", sum := "bce966a0fd58ae8ad77ac7b12ab7f103c98b3ff2cca0d54c0858ba759b693ac1", func := "bodkin/bodkinlaw07.RopeBytes", spec := "ropeBytes", inPlace := ["internal/abi.NoEscape", "internal/bytealg.MakeNoZero"], unfollowed := true, recurses := true, apart := false }
def RopeBytesSaid : Prop := ropeBytesRow.holds Try.pinned (OpenSpec.ofChange ropeBytesSpec)

/-- ITS FALSE NEIGHBOUR: 'it returns false'. Refute it at one input. -/
def ropeBytesWrong : ChangeSpec := { name := "ropeBytes", fn := fun _ => fun
  | [d1, d2] => { results := [.lit (.bool false)], args := [d1, d2] }
  | _ => none }
def RopeBytesWrongFalsely : Prop := ropeBytesRow.holds Try.pinned (OpenSpec.ofChange ropeBytesWrong)

/-- 'bodkinlaw07.RopeThere': WHATEVER THE INPUT: true; the input reads as it did. -/
def ropeThereSpec : ChangeSpec := { name := "ropeThere", fn := fun _ => fun
  | [d] => { results := [.lit (.bool true)], args := [d] }
  | _ => none }
def ropeThereRow : OpenClaim := { program := "ytaemndioleofjaa", sum := "bce966a0fd58ae8ad77ac7b12ab7f103c98b3ff2cca0d54c0858ba759b693ac1", func := "bodkin/bodkinlaw07.RopeThere", spec := "ropeThere", inPlace := ["internal/abi.NoEscape", "internal/bytealg.MakeNoZero"], unfollowed := true, recurses := true, apart := false }
def RopeThereSaid : Prop := ropeThereRow.holds Try.pinned (OpenSpec.ofChange ropeThereSpec)

/-- ITS FALSE NEIGHBOUR: 'it returns false'. Refute it at one input. -/
def ropeThereWrong : ChangeSpec := { name := "ropeThere", fn := fun _ => fun
  | [d] => { results := [.lit (.bool false)], args := [d] }
  | _ => none }
def RopeThereWrongFalsely : Prop := ropeThereRow.holds Try.pinned (OpenSpec.ofChange ropeThereWrong)

/-- 'bodkinlaw07.RopeBreaks': WHATEVER THE INPUT: true; the input reads as it did. -/
def ropeBreaksSpec : ChangeSpec := { name := "ropeBreaks", fn := fun _ => fun
  | [d1, d2] => { results := [.lit (.bool true)], args := [d1, d2] }
  | _ => none }
def ropeBreaksRow : OpenClaim := { program := "ytaemndioleofjaa", sum := "bce966a0fd58ae8ad77ac7b12ab7f103c98b3ff2cca0d54c0858ba759b693ac1", func := "bodkin/bodkinlaw07.RopeBreaks", spec := "ropeBreaks", inPlace := ["internal/abi.NoEscape", "internal/bytealg.MakeNoZero"], unfollowed := true, recurses := true, apart := false }
def RopeBreaksSaid : Prop := ropeBreaksRow.holds Try.pinned (OpenSpec.ofChange ropeBreaksSpec)

/-- ITS FALSE NEIGHBOUR: 'it returns false'. Refute it at one input. -/
def ropeBreaksWrong : ChangeSpec := { name := "ropeBreaks", fn := fun _ => fun
  | [d1, d2] => { results := [.lit (.bool false)], args := [d1, d2] }
  | _ => none }
def RopeBreaksWrongFalsely : Prop := ropeBreaksRow.holds Try.pinned (OpenSpec.ofChange ropeBreaksWrong)

/-- 'bodkinlaw07.RopeLong': WHATEVER THE INPUT: true; the input reads as it did. -/
def ropeLongSpec : ChangeSpec := { name := "ropeLong", fn := fun _ => fun
  | [d1, d2] => { results := [.lit (.bool true)], args := [d1, d2] }
  | _ => none }
def ropeLongRow : OpenClaim := { program := "ytaemndioleofjaa", sum := "bce966a0fd58ae8ad77ac7b12ab7f103c98b3ff2cca0d54c0858ba759b693ac1", func := "bodkin/bodkinlaw07.RopeLong", spec := "ropeLong", inPlace := ["internal/abi.NoEscape", "internal/bytealg.MakeNoZero"], unfollowed := true, recurses := true, apart := false }
def RopeLongSaid : Prop := ropeLongRow.holds Try.pinned (OpenSpec.ofChange ropeLongSpec)

/-- ITS FALSE NEIGHBOUR: 'it returns false'. Refute it at one input. -/
def ropeLongWrong : ChangeSpec := { name := "ropeLong", fn := fun _ => fun
  | [d1, d2] => { results := [.lit (.bool false)], args := [d1, d2] }
  | _ => none }
def RopeLongWrongFalsely : Prop := ropeLongRow.holds Try.pinned (OpenSpec.ofChange ropeLongWrong)

/-- 'bodkinlaw08.LinesNil': WHATEVER THE INPUT: true; the input reads as it did. -/
def linesNilSpec : ChangeSpec := { name := "linesNil", fn := fun _ => fun
  | [d] => { results := [.lit (.bool true)], args := [d] }
  | _ => none }
def linesNilRow : OpenClaim := { program := "ytaemndioleofjaa", sum := "bce966a0fd58ae8ad77ac7b12ab7f103c98b3ff2cca0d54c0858ba759b693ac1", func := "bodkin/bodkinlaw08.LinesNil", spec := "linesNil", inPlace := ["internal/abi.NoEscape", "internal/bytealg.MakeNoZero"], unfollowed := true, recurses := true, apart := false }
def LinesNilSaid : Prop := linesNilRow.holds Try.pinned (OpenSpec.ofChange linesNilSpec)

/-- ITS FALSE NEIGHBOUR: 'it returns false'. Refute it at one input. -/
def linesNilWrong : ChangeSpec := { name := "linesNil", fn := fun _ => fun
  | [d] => { results := [.lit (.bool false)], args := [d] }
  | _ => none }
def LinesNilWrongFalsely : Prop := linesNilRow.holds Try.pinned (OpenSpec.ofChange linesNilWrong)

/- THE SECOND FORM. 'bulk': how many values and letters a reading holds, each counted each time it is reached (what is shared counts as often as it is met; a slice's spare places count too). A statement '..UptoSaid' is the law's where the arguments, and the package variables that the reading takes, are together of bulk at most 1048576: NARROWER than '..Said'. Prove '..Said' where nothing that the law and all that it calls make is longer than what came in: it says more and counts as full. Else prove '..UptoSaid'. A law counts once. -/
mutual
def uptoBulk {H : Type} : DataW H → Nat
  | .lit (.string bytes) => bytes.length + 1
  | .lit _ => 1
  | .nil => 1
  | .ptr d => uptoBulk d + 1
  | .slice elems spare => uptoBulkAll elems + uptoBulkAll spare + 1
  | .agg parts => uptoBulkAll parts + 1
  | .iface _ d => uptoBulk d + 1
  | .map entries => uptoBulkEntries entries + 1
  | .held _ => 1
def uptoBulkAll {H : Type} : List (DataW H) → Nat
  | [] => 0
  | d :: r => uptoBulk d + uptoBulkAll r
def uptoBulkEntries {H : Type} : List (Lit × DataW H) → Nat
  | [] => 0
  | x :: r => uptoBulkEntry x + uptoBulkEntries r
def uptoBulkEntry {H : Type} : Lit × DataW H → Nat
  | (.string bytes, d) => bytes.length + uptoBulk d + 1
  | (_, d) => uptoBulk d + 1
 end
def uptoSmall : (H : Type) → List (DataW H) → Bool := fun _ ds => decide (uptoBulkAll ds ≤ 1048576)
def OpenSpec.upto (s : _root_.Go.ChangeSpec) : _root_.Go.OpenSpec := { _root_.Go.OpenSpec.ofChange s with cond := some uptoSmall }

/-- 'bodkinlaw07.RopeBytes', WHERE WHAT IT READS IS OF BULK AT MOST 1048576: true; the input reads as it did. -/
def ropeBytesUptoRow : OpenClaim := { program := "ytaemndioleofjaa", sum := "bce966a0fd58ae8ad77ac7b12ab7f103c98b3ff2cca0d54c0858ba759b693ac1", func := "bodkin/bodkinlaw07.RopeBytes", spec := "ropeBytes", inPlace := ["internal/abi.NoEscape", "internal/bytealg.MakeNoZero"], unfollowed := true, recurses := true, apart := false, narrowed := true }
def RopeBytesUptoSaid : Prop := ropeBytesUptoRow.holds Try.pinned (OpenSpec.upto ropeBytesSpec)

/-- 'bodkinlaw07.RopeThere', WHERE WHAT IT READS IS OF BULK AT MOST 1048576: true; the input reads as it did. -/
def ropeThereUptoRow : OpenClaim := { program := "ytaemndioleofjaa", sum := "bce966a0fd58ae8ad77ac7b12ab7f103c98b3ff2cca0d54c0858ba759b693ac1", func := "bodkin/bodkinlaw07.RopeThere", spec := "ropeThere", inPlace := ["internal/abi.NoEscape", "internal/bytealg.MakeNoZero"], unfollowed := true, recurses := true, apart := false, narrowed := true }
def RopeThereUptoSaid : Prop := ropeThereUptoRow.holds Try.pinned (OpenSpec.upto ropeThereSpec)

/-- 'bodkinlaw07.RopeBreaks', WHERE WHAT IT READS IS OF BULK AT MOST 1048576: true; the input reads as it did. -/
def ropeBreaksUptoRow : OpenClaim := { program := "ytaemndioleofjaa", sum := "bce966a0fd58ae8ad77ac7b12ab7f103c98b3ff2cca0d54c0858ba759b693ac1", func := "bodkin/bodkinlaw07.RopeBreaks", spec := "ropeBreaks", inPlace := ["internal/abi.NoEscape", "internal/bytealg.MakeNoZero"], unfollowed := true, recurses := true, apart := false, narrowed := true }
def RopeBreaksUptoSaid : Prop := ropeBreaksUptoRow.holds Try.pinned (OpenSpec.upto ropeBreaksSpec)

/-- 'bodkinlaw07.RopeLong', WHERE WHAT IT READS IS OF BULK AT MOST 1048576: true; the input reads as it did. -/
def ropeLongUptoRow : OpenClaim := { program := "ytaemndioleofjaa", sum := "bce966a0fd58ae8ad77ac7b12ab7f103c98b3ff2cca0d54c0858ba759b693ac1", func := "bodkin/bodkinlaw07.RopeLong", spec := "ropeLong", inPlace := ["internal/abi.NoEscape", "internal/bytealg.MakeNoZero"], unfollowed := true, recurses := true, apart := false, narrowed := true }
def RopeLongUptoSaid : Prop := ropeLongUptoRow.holds Try.pinned (OpenSpec.upto ropeLongSpec)

/-- 'bodkinlaw08.LinesNil', WHERE WHAT IT READS IS OF BULK AT MOST 1048576: true; the input reads as it did. -/
def linesNilUptoRow : OpenClaim := { program := "ytaemndioleofjaa", sum := "bce966a0fd58ae8ad77ac7b12ab7f103c98b3ff2cca0d54c0858ba759b693ac1", func := "bodkin/bodkinlaw08.LinesNil", spec := "linesNil", inPlace := ["internal/abi.NoEscape", "internal/bytealg.MakeNoZero"], unfollowed := true, recurses := true, apart := false, narrowed := true }
def LinesNilUptoSaid : Prop := linesNilUptoRow.holds Try.pinned (OpenSpec.upto linesNilSpec)

end Rows
end Go.Proofs.Ytaemndioleofjaa
