/-
  No cell of these rows narrows 'for every input' (looked for: loops, veiled, ifaces, maps, wideKeys, modest, calm, conditions, laid).
  DERIVED. THE GIVEN ROWS OF THIS SEAT. 8 by the template 'for every input the law returns true; each argument reads behind the call as it read before'; 0 by the template 'total and deterministic' (their statements: YtmijlijgcaaiiaaTotals.lean).
  GIVEN WITH THE SEED: the statements are not yours to turn. If you find one false, say at which input.
  Laid BY PROGRAM, IN A SANDBOX (cutbox-rows.mjs): the forced cells as the released guide's own fill.sh prints them over the translation 6f9eb6e2a0dd5d23… (all of the seat's roots in one cut). By AI agents, Wed Nov 11 2026. No macro, syntax, notation, axiom, sorry.
-/
import Derived.Test.YtmijlijgcaaiiaaChecked
import GoSem.Claim
import GoSem.ClaimJoined
import GoSem.ClaimMapViews
import Derived.JoinedTies
import Derived.KernelRfl
namespace Go.Proofs.Ytmijlijgcaaiiaa
/- THE CELL 'sum', in the pinned program and in every row, IS THE sha256 OF THE DUMP (.gsa) THAT YtmijlijgcaaiiaaProg.lean LOADS. Nothing in Lean hashes anything: it is a label: what it is worth is what the hold of that sum in a sandbox is worth. -/
noncomputable def Try.pinned : Pinned := { name := "ytmijlijgcaaiiaa", sum := "6f9eb6e2a0dd5d23c12e4bc534a6d2c2af09431761372a6f8d4a08b1b531e127", checked := Try.checked }
namespace Rows
def none {H : Type} : Left H := { results := [], args := [] }

/-- 'bodkinlaw13.InlaysSteps': WHATEVER THE INPUT: true; the input reads as it did. -/
def inlaysStepsSpec : ChangeSpec := { name := "inlaysSteps", fn := fun _ => fun
  | [d1, d2, d3] => { results := [.lit (.bool true)], args := [d1, d2, d3] }
  | _ => none }
def inlaysStepsRow : OpenClaim := { program := "ytmijlijgcaaiiaa", sum := "6f9eb6e2a0dd5d23c12e4bc534a6d2c2af09431761372a6f8d4a08b1b531e127", func := "bodkin/bodkinlaw13.InlaysSteps", spec := "inlaysSteps", inPlace := ["internal/bytealg.IndexByteString", "internal/bytealg.IndexString", "internal/abi.NoEscape", "internal/bytealg.MakeNoZero"], unfollowed := true, recurses := true, named := ["internal/bytealg.MaxLen"], plainKeys := false, apart := false }
def InlaysStepsSaid : Prop := inlaysStepsRow.holds Try.pinned (OpenSpec.ofChange inlaysStepsSpec)

/-- ITS FALSE NEIGHBOUR: 'it returns false'. Refute it at one input. -/
def inlaysStepsWrong : ChangeSpec := { name := "inlaysSteps", fn := fun _ => fun
  | [d1, d2, d3] => { results := [.lit (.bool false)], args := [d1, d2, d3] }
  | _ => none }
def InlaysStepsWrongFalsely : Prop := inlaysStepsRow.holds Try.pinned (OpenSpec.ofChange inlaysStepsWrong)

/-- 'bodkinlaw13.InlaysBack': WHATEVER THE INPUT: true; the input reads as it did. -/
def inlaysBackSpec : ChangeSpec := { name := "inlaysBack", fn := fun _ => fun
  | [d1, d2, d3] => { results := [.lit (.bool true)], args := [d1, d2, d3] }
  | _ => none }
def inlaysBackRow : OpenClaim := { program := "ytmijlijgcaaiiaa", sum := "6f9eb6e2a0dd5d23c12e4bc534a6d2c2af09431761372a6f8d4a08b1b531e127", func := "bodkin/bodkinlaw13.InlaysBack", spec := "inlaysBack", inPlace := ["internal/bytealg.IndexByteString", "internal/bytealg.IndexString", "internal/abi.NoEscape", "internal/bytealg.MakeNoZero"], unfollowed := true, recurses := true, named := ["internal/bytealg.MaxLen"], plainKeys := false, apart := false }
def InlaysBackSaid : Prop := inlaysBackRow.holds Try.pinned (OpenSpec.ofChange inlaysBackSpec)

/-- ITS FALSE NEIGHBOUR: 'it returns false'. Refute it at one input. -/
def inlaysBackWrong : ChangeSpec := { name := "inlaysBack", fn := fun _ => fun
  | [d1, d2, d3] => { results := [.lit (.bool false)], args := [d1, d2, d3] }
  | _ => none }
def InlaysBackWrongFalsely : Prop := inlaysBackRow.holds Try.pinned (OpenSpec.ofChange inlaysBackWrong)

/-- 'bodkinlaw13.InlaysTogether': WHATEVER THE INPUT: true; the input reads as it did. -/
def inlaysTogetherSpec : ChangeSpec := { name := "inlaysTogether", fn := fun _ => fun
  | [d1, d2, d3] => { results := [.lit (.bool true)], args := [d1, d2, d3] }
  | _ => none }
def inlaysTogetherRow : OpenClaim := { program := "ytmijlijgcaaiiaa", sum := "6f9eb6e2a0dd5d23c12e4bc534a6d2c2af09431761372a6f8d4a08b1b531e127", func := "bodkin/bodkinlaw13.InlaysTogether", spec := "inlaysTogether", inPlace := ["internal/bytealg.IndexByteString", "internal/bytealg.IndexString", "internal/abi.NoEscape", "internal/bytealg.MakeNoZero"], unfollowed := true, recurses := true, named := ["internal/bytealg.MaxLen"], plainKeys := false, apart := false }
def InlaysTogetherSaid : Prop := inlaysTogetherRow.holds Try.pinned (OpenSpec.ofChange inlaysTogetherSpec)

/-- ITS FALSE NEIGHBOUR: 'it returns false'. Refute it at one input. -/
def inlaysTogetherWrong : ChangeSpec := { name := "inlaysTogether", fn := fun _ => fun
  | [d1, d2, d3] => { results := [.lit (.bool false)], args := [d1, d2, d3] }
  | _ => none }
def InlaysTogetherWrongFalsely : Prop := inlaysTogetherRow.holds Try.pinned (OpenSpec.ofChange inlaysTogetherWrong)

/-- 'bodkinlaw15.FoldsNew': WHATEVER THE INPUT: true; the input reads as it did. -/
def foldsNewSpec : ChangeSpec := { name := "foldsNew", fn := fun _ => fun
  | [d1, d2, d3] => { results := [.lit (.bool true)], args := [d1, d2, d3] }
  | _ => none }
def foldsNewRow : OpenClaim := { program := "ytmijlijgcaaiiaa", sum := "6f9eb6e2a0dd5d23c12e4bc534a6d2c2af09431761372a6f8d4a08b1b531e127", func := "bodkin/bodkinlaw15.FoldsNew", spec := "foldsNew", unfollowed := true, recurses := true, plainKeys := false, apart := false }
def FoldsNewSaid : Prop := foldsNewRow.holds Try.pinned (OpenSpec.ofChange foldsNewSpec)

/-- ITS FALSE NEIGHBOUR: 'it returns false'. Refute it at one input. -/
def foldsNewWrong : ChangeSpec := { name := "foldsNew", fn := fun _ => fun
  | [d1, d2, d3] => { results := [.lit (.bool false)], args := [d1, d2, d3] }
  | _ => none }
def FoldsNewWrongFalsely : Prop := foldsNewRow.holds Try.pinned (OpenSpec.ofChange foldsNewWrong)

/-- 'bodkinlaw15.FoldsSteps': WHATEVER THE INPUT: true; the input reads as it did. -/
def foldsStepsSpec : ChangeSpec := { name := "foldsSteps", fn := fun _ => fun
  | [d1, d2, d3] => { results := [.lit (.bool true)], args := [d1, d2, d3] }
  | _ => none }
def foldsStepsRow : OpenClaim := { program := "ytmijlijgcaaiiaa", sum := "6f9eb6e2a0dd5d23c12e4bc534a6d2c2af09431761372a6f8d4a08b1b531e127", func := "bodkin/bodkinlaw15.FoldsSteps", spec := "foldsSteps", unfollowed := true, recurses := true, plainKeys := false, apart := false }
def FoldsStepsSaid : Prop := foldsStepsRow.holds Try.pinned (OpenSpec.ofChange foldsStepsSpec)

/-- ITS FALSE NEIGHBOUR: 'it returns false'. Refute it at one input. -/
def foldsStepsWrong : ChangeSpec := { name := "foldsSteps", fn := fun _ => fun
  | [d1, d2, d3] => { results := [.lit (.bool false)], args := [d1, d2, d3] }
  | _ => none }
def FoldsStepsWrongFalsely : Prop := foldsStepsRow.holds Try.pinned (OpenSpec.ofChange foldsStepsWrong)

/-- 'bodkinlaw15.FoldsHide': WHATEVER THE INPUT: true; the input reads as it did. -/
def foldsHideSpec : ChangeSpec := { name := "foldsHide", fn := fun _ => fun
  | [d1, d2] => { results := [.lit (.bool true)], args := [d1, d2] }
  | _ => none }
def foldsHideRow : OpenClaim := { program := "ytmijlijgcaaiiaa", sum := "6f9eb6e2a0dd5d23c12e4bc534a6d2c2af09431761372a6f8d4a08b1b531e127", func := "bodkin/bodkinlaw15.FoldsHide", spec := "foldsHide", unfollowed := true, recurses := true, plainKeys := false, apart := false }
def FoldsHideSaid : Prop := foldsHideRow.holds Try.pinned (OpenSpec.ofChange foldsHideSpec)

/-- ITS FALSE NEIGHBOUR: 'it returns false'. Refute it at one input. -/
def foldsHideWrong : ChangeSpec := { name := "foldsHide", fn := fun _ => fun
  | [d1, d2] => { results := [.lit (.bool false)], args := [d1, d2] }
  | _ => none }
def FoldsHideWrongFalsely : Prop := foldsHideRow.holds Try.pinned (OpenSpec.ofChange foldsHideWrong)

/-- 'bodkinlaw15.FoldsGrow': WHATEVER THE INPUT: true; the input reads as it did. -/
def foldsGrowSpec : ChangeSpec := { name := "foldsGrow", fn := fun _ => fun
  | [d1, d2, d3] => { results := [.lit (.bool true)], args := [d1, d2, d3] }
  | _ => none }
def foldsGrowRow : OpenClaim := { program := "ytmijlijgcaaiiaa", sum := "6f9eb6e2a0dd5d23c12e4bc534a6d2c2af09431761372a6f8d4a08b1b531e127", func := "bodkin/bodkinlaw15.FoldsGrow", spec := "foldsGrow", unfollowed := true, recurses := true, plainKeys := false, apart := false }
def FoldsGrowSaid : Prop := foldsGrowRow.holds Try.pinned (OpenSpec.ofChange foldsGrowSpec)

/-- ITS FALSE NEIGHBOUR: 'it returns false'. Refute it at one input. -/
def foldsGrowWrong : ChangeSpec := { name := "foldsGrow", fn := fun _ => fun
  | [d1, d2, d3] => { results := [.lit (.bool false)], args := [d1, d2, d3] }
  | _ => none }
def FoldsGrowWrongFalsely : Prop := foldsGrowRow.holds Try.pinned (OpenSpec.ofChange foldsGrowWrong)

/-- 'bodkinlaw15.FoldsNil': WHATEVER THE INPUT: true; the input reads as it did. -/
def foldsNilSpec : ChangeSpec := { name := "foldsNil", fn := fun _ => fun
  | [d] => { results := [.lit (.bool true)], args := [d] }
  | _ => none }
def foldsNilRow : OpenClaim := { program := "ytmijlijgcaaiiaa", sum := "6f9eb6e2a0dd5d23c12e4bc534a6d2c2af09431761372a6f8d4a08b1b531e127", func := "bodkin/bodkinlaw15.FoldsNil", spec := "foldsNil", unfollowed := true, recurses := true, plainKeys := false, apart := false }
def FoldsNilSaid : Prop := foldsNilRow.holds Try.pinned (OpenSpec.ofChange foldsNilSpec)

/-- ITS FALSE NEIGHBOUR: 'it returns false'. Refute it at one input. -/
def foldsNilWrong : ChangeSpec := { name := "foldsNil", fn := fun _ => fun
  | [d] => { results := [.lit (.bool false)], args := [d] }
  | _ => none }
def FoldsNilWrongFalsely : Prop := foldsNilRow.holds Try.pinned (OpenSpec.ofChange foldsNilWrong)

/- THE SECOND FORM. 'bulk': how many values and letters a reading holds, each counted each time it is reached (what is shared counts as often as it is met; a slice's spare places count too). A statement '..UptoSaid' is the law's where the arguments, and the package variables that the reading takes, are together of bulk at most 1048576: NARROWER than '..Said'. Prove '..Said' where nothing that the law and all that it calls make is longer than what came in: it says more and counts as full. Else prove '..UptoSaid'. A law counts once. -/
mutual
def uptoBulk {H : Type} : DataW H → Nat
  | .lit (.string bytes) => bytes.length + 1
  | .lit _ => 1
  | .nil => 1
  | .ptr d => uptoBulk d + 1
  | .slice elems spare => uptoBulkAll elems + uptoBulkAll spare + 1
  | .agg parts => uptoBulkAll parts + 1
  | .iface _ d => uptoBulk d + 1
  | .map entries => uptoBulkEntries entries + 1
  | .held _ => 1
def uptoBulkAll {H : Type} : List (DataW H) → Nat
  | [] => 0
  | d :: r => uptoBulk d + uptoBulkAll r
def uptoBulkEntries {H : Type} : List (Lit × DataW H) → Nat
  | [] => 0
  | x :: r => uptoBulkEntry x + uptoBulkEntries r
def uptoBulkEntry {H : Type} : Lit × DataW H → Nat
  | (.string bytes, d) => bytes.length + uptoBulk d + 1
  | (_, d) => uptoBulk d + 1
 end
def uptoSmall : (H : Type) → List (DataW H) → Bool := fun _ ds => decide (uptoBulkAll ds ≤ 1048576)
def OpenSpec.upto (s : _root_.Go.ChangeSpec) : _root_.Go.OpenSpec := { _root_.Go.OpenSpec.ofChange s with cond := some uptoSmall }

/-- 'bodkinlaw13.InlaysSteps', WHERE WHAT IT READS IS OF BULK AT MOST 1048576: true; the input reads as it did. -/
def inlaysStepsUptoRow : OpenClaim := { program := "ytmijlijgcaaiiaa", sum := "6f9eb6e2a0dd5d23c12e4bc534a6d2c2af09431761372a6f8d4a08b1b531e127", func := "bodkin/bodkinlaw13.InlaysSteps", spec := "inlaysSteps", inPlace := ["internal/bytealg.IndexByteString", "internal/bytealg.IndexString", "internal/abi.NoEscape", "internal/bytealg.MakeNoZero"], unfollowed := true, recurses := true, named := ["internal/bytealg.MaxLen"], plainKeys := false, apart := false, narrowed := true }
def InlaysStepsUptoSaid : Prop := inlaysStepsUptoRow.holds Try.pinned (OpenSpec.upto inlaysStepsSpec)

/-- 'bodkinlaw13.InlaysBack', WHERE WHAT IT READS IS OF BULK AT MOST 1048576: true; the input reads as it did. -/
def inlaysBackUptoRow : OpenClaim := { program := "ytmijlijgcaaiiaa", sum := "6f9eb6e2a0dd5d23c12e4bc534a6d2c2af09431761372a6f8d4a08b1b531e127", func := "bodkin/bodkinlaw13.InlaysBack", spec := "inlaysBack", inPlace := ["internal/bytealg.IndexByteString", "internal/bytealg.IndexString", "internal/abi.NoEscape", "internal/bytealg.MakeNoZero"], unfollowed := true, recurses := true, named := ["internal/bytealg.MaxLen"], plainKeys := false, apart := false, narrowed := true }
def InlaysBackUptoSaid : Prop := inlaysBackUptoRow.holds Try.pinned (OpenSpec.upto inlaysBackSpec)

/-- 'bodkinlaw13.InlaysTogether', WHERE WHAT IT READS IS OF BULK AT MOST 1048576: true; the input reads as it did. -/
def inlaysTogetherUptoRow : OpenClaim := { program := "ytmijlijgcaaiiaa", sum := "6f9eb6e2a0dd5d23c12e4bc534a6d2c2af09431761372a6f8d4a08b1b531e127", func := "bodkin/bodkinlaw13.InlaysTogether", spec := "inlaysTogether", inPlace := ["internal/bytealg.IndexByteString", "internal/bytealg.IndexString", "internal/abi.NoEscape", "internal/bytealg.MakeNoZero"], unfollowed := true, recurses := true, named := ["internal/bytealg.MaxLen"], plainKeys := false, apart := false, narrowed := true }
def InlaysTogetherUptoSaid : Prop := inlaysTogetherUptoRow.holds Try.pinned (OpenSpec.upto inlaysTogetherSpec)

/-- 'bodkinlaw15.FoldsNew', WHERE WHAT IT READS IS OF BULK AT MOST 1048576: true; the input reads as it did. -/
def foldsNewUptoRow : OpenClaim := { program := "ytmijlijgcaaiiaa", sum := "6f9eb6e2a0dd5d23c12e4bc534a6d2c2af09431761372a6f8d4a08b1b531e127", func := "bodkin/bodkinlaw15.FoldsNew", spec := "foldsNew", unfollowed := true, recurses := true, plainKeys := false, apart := false, narrowed := true }
def FoldsNewUptoSaid : Prop := foldsNewUptoRow.holds Try.pinned (OpenSpec.upto foldsNewSpec)

/-- 'bodkinlaw15.FoldsSteps', WHERE WHAT IT READS IS OF BULK AT MOST 1048576: true; the input reads as it did. -/
def foldsStepsUptoRow : OpenClaim := { program := "ytmijlijgcaaiiaa", sum := "6f9eb6e2a0dd5d23c12e4bc534a6d2c2af09431761372a6f8d4a08b1b531e127", func := "bodkin/bodkinlaw15.FoldsSteps", spec := "foldsSteps", unfollowed := true, recurses := true, plainKeys := false, apart := false, narrowed := true }
def FoldsStepsUptoSaid : Prop := foldsStepsUptoRow.holds Try.pinned (OpenSpec.upto foldsStepsSpec)

/-- 'bodkinlaw15.FoldsHide', WHERE WHAT IT READS IS OF BULK AT MOST 1048576: true; the input reads as it did. -/
def foldsHideUptoRow : OpenClaim := { program := "ytmijlijgcaaiiaa", sum := "6f9eb6e2a0dd5d23c12e4bc534a6d2c2af09431761372a6f8d4a08b1b531e127", func := "bodkin/bodkinlaw15.FoldsHide", spec := "foldsHide", unfollowed := true, recurses := true, plainKeys := false, apart := false, narrowed := true }
def FoldsHideUptoSaid : Prop := foldsHideUptoRow.holds Try.pinned (OpenSpec.upto foldsHideSpec)

/-- 'bodkinlaw15.FoldsGrow', WHERE WHAT IT READS IS OF BULK AT MOST 1048576: true; the input reads as it did. -/
def foldsGrowUptoRow : OpenClaim := { program := "ytmijlijgcaaiiaa", sum := "6f9eb6e2a0dd5d23c12e4bc534a6d2c2af09431761372a6f8d4a08b1b531e127", func := "bodkin/bodkinlaw15.FoldsGrow", spec := "foldsGrow", unfollowed := true, recurses := true, plainKeys := false, apart := false, narrowed := true }
def FoldsGrowUptoSaid : Prop := foldsGrowUptoRow.holds Try.pinned (OpenSpec.upto foldsGrowSpec)

/-- 'bodkinlaw15.FoldsNil', WHERE WHAT IT READS IS OF BULK AT MOST 1048576: true; the input reads as it did. -/
def foldsNilUptoRow : OpenClaim := { program := "ytmijlijgcaaiiaa", sum := "6f9eb6e2a0dd5d23c12e4bc534a6d2c2af09431761372a6f8d4a08b1b531e127", func := "bodkin/bodkinlaw15.FoldsNil", spec := "foldsNil", unfollowed := true, recurses := true, plainKeys := false, apart := false, narrowed := true }
def FoldsNilUptoSaid : Prop := foldsNilUptoRow.holds Try.pinned (OpenSpec.upto foldsNilSpec)

end Rows
end Go.Proofs.Ytmijlijgcaaiiaa
