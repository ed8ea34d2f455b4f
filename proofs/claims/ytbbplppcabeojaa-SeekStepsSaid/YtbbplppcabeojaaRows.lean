/-
  No cell of these rows narrows 'for every input' (looked for: loops, veiled, ifaces, maps, wideKeys, modest, calm, conditions, laid).
  DERIVED. THE GIVEN ROWS OF THIS SEAT. 8 by the template 'for every input the law returns true; each argument reads behind the call as it read before'; 0 by the template 'total and deterministic' (their statements: YtbbplppcabeojaaTotals.lean).
  GIVEN WITH THE SEED: the statements are not yours to turn. If you find one false, say at which input.
  Laid BY PROGRAM, IN A SANDBOX (cutbox-rows.mjs): the forced cells as the released guide's own fill.sh prints them over the translation cee9119f800dffea… (all of the seat's roots in one cut). By AI agents, Wed Nov 11 2026. No macro, syntax, notation, axiom, sorry.
-/
import Derived.Test.YtbbplppcabeojaaChecked
import GoSem.Claim
import GoSem.ClaimJoined
import GoSem.ClaimMapViews
import Derived.JoinedTies
import Derived.KernelRfl
namespace Go.Proofs.Ytbbplppcabeojaa
/- THE CELL 'sum', in the pinned program and in every row, IS THE sha256 OF THE DUMP (.gsa) THAT YtbbplppcabeojaaProg.lean LOADS. Nothing in Lean hashes anything: it is a label: what it is worth is what the hold of that sum in a sandbox is worth. -/
noncomputable def Try.pinned : Pinned := { name := "ytbbplppcabeojaa", sum := "cee9119f800dffea97c84f9c493c3387f8067b105c9ab89a4f19f703cee1e35c", checked := Try.checked }
namespace Rows
def none {H : Type} : Left H := { results := [], args := [] }

/-- 'bodkinlaw05.TreeReplaces': WHATEVER THE INPUT: true; the input reads as it did. -/
def treeReplacesSpec : ChangeSpec := { name := "treeReplaces", fn := fun _ => fun
  | [d1, d2] => { results := [.lit (.bool true)], args := [d1, d2] }
  | _ => none }
def treeReplacesRow : OpenClaim := { program := "ytbbplppcabeojaa", sum := "cee9119f800dffea97c84f9c493c3387f8067b105c9ab89a4f19f703cee1e35c", func := "bodkin/bodkinlaw05.TreeReplaces", spec := "treeReplaces", unfollowed := true, recurses := true, apart := false }
def TreeReplacesSaid : Prop := treeReplacesRow.holds Try.pinned (OpenSpec.ofChange treeReplacesSpec)

/-- ITS FALSE NEIGHBOUR: 'it returns false'. Refute it at one input. -/
def treeReplacesWrong : ChangeSpec := { name := "treeReplaces", fn := fun _ => fun
  | [d1, d2] => { results := [.lit (.bool false)], args := [d1, d2] }
  | _ => none }
def TreeReplacesWrongFalsely : Prop := treeReplacesRow.holds Try.pinned (OpenSpec.ofChange treeReplacesWrong)

/-- 'bodkinlaw06.SeekSteps': WHATEVER THE INPUT: true; the input reads as it did. -/
def seekStepsSpec : ChangeSpec := { name := "seekSteps", fn := fun _ => fun
  | [d1, d2] => { results := [.lit (.bool true)], args := [d1, d2] }
  | _ => none }
def seekStepsRow : OpenClaim := { program := "ytbbplppcabeojaa", sum := "cee9119f800dffea97c84f9c493c3387f8067b105c9ab89a4f19f703cee1e35c", func := "bodkin/bodkinlaw06.SeekSteps", spec := "seekSteps", unfollowed := true, recurses := true, apart := false }
def SeekStepsSaid : Prop := seekStepsRow.holds Try.pinned (OpenSpec.ofChange seekStepsSpec)

/-- ITS FALSE NEIGHBOUR: 'it returns false'. Refute it at one input. -/
def seekStepsWrong : ChangeSpec := { name := "seekSteps", fn := fun _ => fun
  | [d1, d2] => { results := [.lit (.bool false)], args := [d1, d2] }
  | _ => none }
def SeekStepsWrongFalsely : Prop := seekStepsRow.holds Try.pinned (OpenSpec.ofChange seekStepsWrong)

/-- 'bodkinlaw06.SeekAll': WHATEVER THE INPUT: true; the input reads as it did. -/
def seekAllSpec : ChangeSpec := { name := "seekAll", fn := fun _ => fun
  | [d] => { results := [.lit (.bool true)], args := [d] }
  | _ => none }
def seekAllRow : OpenClaim := { program := "ytbbplppcabeojaa", sum := "cee9119f800dffea97c84f9c493c3387f8067b105c9ab89a4f19f703cee1e35c", func := "bodkin/bodkinlaw06.SeekAll", spec := "seekAll", unfollowed := true, recurses := true, apart := false }
def SeekAllSaid : Prop := seekAllRow.holds Try.pinned (OpenSpec.ofChange seekAllSpec)

/-- ITS FALSE NEIGHBOUR: 'it returns false'. Refute it at one input. -/
def seekAllWrong : ChangeSpec := { name := "seekAll", fn := fun _ => fun
  | [d] => { results := [.lit (.bool false)], args := [d] }
  | _ => none }
def SeekAllWrongFalsely : Prop := seekAllRow.holds Try.pinned (OpenSpec.ofChange seekAllWrong)

/-- 'bodkinlaw06.SeekBack': WHATEVER THE INPUT: true; the input reads as it did. -/
def seekBackSpec : ChangeSpec := { name := "seekBack", fn := fun _ => fun
  | [d1, d2] => { results := [.lit (.bool true)], args := [d1, d2] }
  | _ => none }
def seekBackRow : OpenClaim := { program := "ytbbplppcabeojaa", sum := "cee9119f800dffea97c84f9c493c3387f8067b105c9ab89a4f19f703cee1e35c", func := "bodkin/bodkinlaw06.SeekBack", spec := "seekBack", unfollowed := true, recurses := true, apart := false }
def SeekBackSaid : Prop := seekBackRow.holds Try.pinned (OpenSpec.ofChange seekBackSpec)

/-- ITS FALSE NEIGHBOUR: 'it returns false'. Refute it at one input. -/
def seekBackWrong : ChangeSpec := { name := "seekBack", fn := fun _ => fun
  | [d1, d2] => { results := [.lit (.bool false)], args := [d1, d2] }
  | _ => none }
def SeekBackWrongFalsely : Prop := seekBackRow.holds Try.pinned (OpenSpec.ofChange seekBackWrong)

/-- 'bodkinlaw06.SeekNil': WHATEVER THE INPUT: true; the input reads as it did. -/
def seekNilSpec : ChangeSpec := { name := "seekNil", fn := fun _ => fun
  | [d] => { results := [.lit (.bool true)], args := [d] }
  | _ => none }
def seekNilRow : OpenClaim := { program := "ytbbplppcabeojaa", sum := "cee9119f800dffea97c84f9c493c3387f8067b105c9ab89a4f19f703cee1e35c", func := "bodkin/bodkinlaw06.SeekNil", spec := "seekNil", unfollowed := true, recurses := true, apart := false }
def SeekNilSaid : Prop := seekNilRow.holds Try.pinned (OpenSpec.ofChange seekNilSpec)

/-- ITS FALSE NEIGHBOUR: 'it returns false'. Refute it at one input. -/
def seekNilWrong : ChangeSpec := { name := "seekNil", fn := fun _ => fun
  | [d] => { results := [.lit (.bool false)], args := [d] }
  | _ => none }
def SeekNilWrongFalsely : Prop := seekNilRow.holds Try.pinned (OpenSpec.ofChange seekNilWrong)

/-- 'bodkinlaw07.RopeBytes': WHATEVER THE INPUT: true; the input reads as it did. -/
def ropeBytesSpec : ChangeSpec := { name := "ropeBytes", fn := fun _ => fun
  | [d1, d2] => { results := [.lit (.bool true)], args := [d1, d2] }
  | _ => none }
def ropeBytesRow : OpenClaim := { program := "ytbbplppcabeojaa", sum := "cee9119f800dffea97c84f9c493c3387f8067b105c9ab89a4f19f703cee1e35c", func := "bodkin/bodkinlaw07.RopeBytes", spec := "ropeBytes", inPlace := ["internal/abi.NoEscape", "internal/bytealg.MakeNoZero"], unfollowed := true, recurses := true, apart := false }
def RopeBytesSaid : Prop := ropeBytesRow.holds Try.pinned (OpenSpec.ofChange ropeBytesSpec)

/-- ITS FALSE NEIGHBOUR: 'it returns false'. Refute it at one input. -/
def ropeBytesWrong : ChangeSpec := { name := "ropeBytes", fn := fun _ => fun
  | [d1, d2] => { results := [.lit (.bool false)], args := [d1, d2] }
  | _ => none }
def RopeBytesWrongFalsely : Prop := ropeBytesRow.holds Try.pinned (OpenSpec.ofChange ropeBytesWrong)

/-- 'bodkinlaw07.RopeThere': WHATEVER THE INPUT: true; the input reads as it did. -/
def ropeThereSpec : ChangeSpec := { name := "ropeThere", fn := fun _ => fun
  | [d] => { results := [.lit (.bool true)], args := [d] }
  | _ => none }
def ropeThereRow : OpenClaim := { program := "ytbbplppcabeojaa", sum := "cee9119f800dffea97c84f9c493c3387f8067b105c9ab89a4f19f703cee1e35c", func := "bodkin/bodkinlaw07.RopeThere", spec := "ropeThere", inPlace := ["internal/abi.NoEscape", "internal/bytealg.MakeNoZero"], unfollowed := true, recurses := true, apart := false }
def RopeThereSaid : Prop := ropeThereRow.holds Try.pinned (OpenSpec.ofChange ropeThereSpec)

/-- ITS FALSE NEIGHBOUR: 'it returns false'. Refute it at one input. -/
def ropeThereWrong : ChangeSpec := { name := "ropeThere", fn := fun _ => fun
  | [d] => { results := [.lit (.bool false)], args := [d] }
  | _ => none }
def RopeThereWrongFalsely : Prop := ropeThereRow.holds Try.pinned (OpenSpec.ofChange ropeThereWrong)

/-- 'bodkinlaw07.RopeBreaks': WHATEVER THE INPUT: true; the input reads as it did. -/
def ropeBreaksSpec : ChangeSpec := { name := "ropeBreaks", fn := fun _ => fun
  | [d1, d2] => { results := [.lit (.bool true)], args := [d1, d2] }
  | _ => none }
def ropeBreaksRow : OpenClaim := { program := "ytbbplppcabeojaa", sum := "cee9119f800dffea97c84f9c493c3387f8067b105c9ab89a4f19f703cee1e35c", func := "bodkin/bodkinlaw07.RopeBreaks", spec := "ropeBreaks", inPlace := ["internal/abi.NoEscape", "internal/bytealg.MakeNoZero"], unfollowed := true, recurses := true, apart := false }
def RopeBreaksSaid : Prop := ropeBreaksRow.holds Try.pinned (OpenSpec.ofChange ropeBreaksSpec)

/-- ITS FALSE NEIGHBOUR: 'it returns false'. Refute it at one input. -/
def ropeBreaksWrong : ChangeSpec := { name := "ropeBreaks", fn := fun _ => fun
  | [d1, d2] => { results := [.lit (.bool false)], args := [d1, d2] }
  | _ => none }
def RopeBreaksWrongFalsely : Prop := ropeBreaksRow.holds Try.pinned (OpenSpec.ofChange ropeBreaksWrong)

/- THE SECOND FORM. 'bulk': how many values and letters a reading holds, each counted each time it is reached (what is shared counts as often as it is met; a slice's spare places count too). A statement '..UptoSaid' is the law's where the arguments, and the package variables that the reading takes, are together of bulk at most 1048576: NARROWER than '..Said'. Prove '..Said' where nothing that the law and all that it calls make is longer than what came in: it says more and counts as full. Else prove '..UptoSaid'. A law counts once. -/
mutual
def uptoBulk {H : Type} : DataW H → Nat
  | .lit (.string bytes) => bytes.length + 1
  | .lit _ => 1
  | .nil => 1
  | .ptr d => uptoBulk d + 1
  | .slice elems spare => uptoBulkAll elems + uptoBulkAll spare + 1
  | .agg parts => uptoBulkAll parts + 1
  | .iface _ d => uptoBulk d + 1
  | .map entries => uptoBulkEntries entries + 1
  | .held _ => 1
def uptoBulkAll {H : Type} : List (DataW H) → Nat
  | [] => 0
  | d :: r => uptoBulk d + uptoBulkAll r
def uptoBulkEntries {H : Type} : List (Lit × DataW H) → Nat
  | [] => 0
  | x :: r => uptoBulkEntry x + uptoBulkEntries r
def uptoBulkEntry {H : Type} : Lit × DataW H → Nat
  | (.string bytes, d) => bytes.length + uptoBulk d + 1
  | (_, d) => uptoBulk d + 1
 end
def uptoSmall : (H : Type) → List (DataW H) → Bool := fun _ ds => decide (uptoBulkAll ds ≤ 1048576)
def OpenSpec.upto (s : _root_.Go.ChangeSpec) : _root_.Go.OpenSpec := { _root_.Go.OpenSpec.ofChange s with cond := some uptoSmall }

/-- 'bodkinlaw05.TreeReplaces', WHERE WHAT IT READS IS OF BULK AT MOST 1048576: true; the input reads as it did. -/
def treeReplacesUptoRow : OpenClaim := { program := "ytbbplppcabeojaa", sum := "cee9119f800dffea97c84f9c493c3387f8067b105c9ab89a4f19f703cee1e35c", func := "bodkin/bodkinlaw05.TreeReplaces", spec := "treeReplaces", unfollowed := true, recurses := true, apart := false, narrowed := true }
def TreeReplacesUptoSaid : Prop := treeReplacesUptoRow.holds Try.pinned (OpenSpec.upto treeReplacesSpec)

/-- 'bodkinlaw06.SeekSteps', WHERE WHAT IT READS IS OF BULK AT MOST 1048576: true; the input reads as it did. -/
def seekStepsUptoRow : OpenClaim := { program := "ytbbplppcabeojaa", sum := "cee9119f800dffea97c84f9c493c3387f8067b105c9ab89a4f19f703cee1e35c", func := "bodkin/bodkinlaw06.SeekSteps", spec := "seekSteps", unfollowed := true, recurses := true, apart := false, narrowed := true }
def SeekStepsUptoSaid : Prop := seekStepsUptoRow.holds Try.pinned (OpenSpec.upto seekStepsSpec)

/-- 'bodkinlaw06.SeekAll', WHERE WHAT IT READS IS OF BULK AT MOST 1048576: true; the input reads as it did. -/
def seekAllUptoRow : OpenClaim := { program := "ytbbplppcabeojaa", sum := "cee9119f800dffea97c84f9c493c3387f8067b105c9ab89a4f19f703cee1e35c", func := "bodkin/bodkinlaw06.SeekAll", spec := "seekAll", unfollowed := true, recurses := true, apart := false, narrowed := true }
def SeekAllUptoSaid : Prop := seekAllUptoRow.holds Try.pinned (OpenSpec.upto seekAllSpec)

/-- 'bodkinlaw06.SeekBack', WHERE WHAT IT READS IS OF BULK AT MOST 1048576: true; the input reads as it did. -/
def seekBackUptoRow : OpenClaim := { program := "ytbbplppcabeojaa", sum := "cee9119f800dffea97c84f9c493c3387f8067b105c9ab89a4f19f703cee1e35c", func := "bodkin/bodkinlaw06.SeekBack", spec := "seekBack", unfollowed := true, recurses := true, apart := false, narrowed := true }
def SeekBackUptoSaid : Prop := seekBackUptoRow.holds Try.pinned (OpenSpec.upto seekBackSpec)

/-- 'bodkinlaw06.SeekNil', WHERE WHAT IT READS IS OF BULK AT MOST 1048576: true; the input reads as it did. -/
def seekNilUptoRow : OpenClaim := { program := "ytbbplppcabeojaa", sum := "cee9119f800dffea97c84f9c493c3387f8067b105c9ab89a4f19f703cee1e35c", func := "bodkin/bodkinlaw06.SeekNil", spec := "seekNil", unfollowed := true, recurses := true, apart := false, narrowed := true }
def SeekNilUptoSaid : Prop := seekNilUptoRow.holds Try.pinned (OpenSpec.upto seekNilSpec)

/-- 'bodkinlaw07.RopeBytes', WHERE WHAT IT READS IS OF BULK AT MOST 1048576: true; the input reads as it did. -/
def ropeBytesUptoRow : OpenClaim := { program := "ytbbplppcabeojaa", sum := "cee9119f800dffea97c84f9c493c3387f8067b105c9ab89a4f19f703cee1e35c", func := "bodkin/bodkinlaw07.RopeBytes", spec := "ropeBytes", inPlace := ["internal/abi.NoEscape", "internal/bytealg.MakeNoZero"], unfollowed := true, recurses := true, apart := false, narrowed := true }
def RopeBytesUptoSaid : Prop := ropeBytesUptoRow.holds Try.pinned (OpenSpec.upto ropeBytesSpec)

/-- 'bodkinlaw07.RopeThere', WHERE WHAT IT READS IS OF BULK AT MOST 1048576: true; the input reads as it did. -/
def ropeThereUptoRow : OpenClaim := { program := "ytbbplppcabeojaa", sum := "cee9119f800dffea97c84f9c493c3387f8067b105c9ab89a4f19f703cee1e35c", func := "bodkin/bodkinlaw07.RopeThere", spec := "ropeThere", inPlace := ["internal/abi.NoEscape", "internal/bytealg.MakeNoZero"], unfollowed := true, recurses := true, apart := false, narrowed := true }
def RopeThereUptoSaid : Prop := ropeThereUptoRow.holds Try.pinned (OpenSpec.upto ropeThereSpec)

/-- 'bodkinlaw07.RopeBreaks', WHERE WHAT IT READS IS OF BULK AT MOST 1048576: true; the input reads as it did. -/
def ropeBreaksUptoRow : OpenClaim := { program := "ytbbplppcabeojaa", sum := "cee9119f800dffea97c84f9c493c3387f8067b105c9ab89a4f19f703cee1e35c", func := "bodkin/bodkinlaw07.RopeBreaks", spec := "ropeBreaks", inPlace := ["internal/abi.NoEscape", "internal/bytealg.MakeNoZero"], unfollowed := true, recurses := true, apart := false, narrowed := true }
def RopeBreaksUptoSaid : Prop := ropeBreaksUptoRow.holds Try.pinned (OpenSpec.upto ropeBreaksSpec)

end Rows
end Go.Proofs.Ytbbplppcabeojaa
