/-
  No cell of these rows narrows 'for every input' (looked for: loops, veiled, ifaces, maps, wideKeys, modest, calm, conditions, laid).
  DERIVED. THE GIVEN ROWS OF THIS SEAT. 13 by the template 'for every input the law returns true; each argument reads behind the call as it read before'; 0 by the template 'total and deterministic' (their statements: YtncbhbjhfmbbkaaTotals.lean).
  GIVEN WITH THE SEED: the statements are not yours to turn. If you find one false, say at which input.
  Laid BY PROGRAM, IN A SANDBOX (cutbox-rows.mjs): the forced cells as the released guide's own fill.sh prints them over the translation 1667eb1a04cb4d4a… (all of the seat's roots in one cut). By AI agents, Wed Nov 11 2026. No macro, syntax, notation, axiom, sorry.
-/
import Derived.Test.YtncbhbjhfmbbkaaChecked
import GoSem.Claim
import GoSem.ClaimJoined
import GoSem.ClaimMapViews
import Derived.JoinedTies
import Derived.KernelRfl
namespace Go.Proofs.Ytncbhbjhfmbbkaa
/- THE CELL 'sum', in the pinned program and in every row, IS THE sha256 OF THE DUMP (.gsa) THAT YtncbhbjhfmbbkaaProg.lean LOADS. Nothing in Lean hashes anything: it is a label: what it is worth is what the hold of that sum in a sandbox is worth. -/
noncomputable def Try.pinned : Pinned := { name := "ytncbhbjhfmbbkaa", sum := "1667eb1a04cb4d4ad2a0b36d50201e43961622e260a0e75fde53bd846e2a9d68", checked := Try.checked }
namespace Rows
def none {H : Type} : Left H := { results := [], args := [] }

/-- 'bodkinlaw11.AnchorSets': WHATEVER THE INPUT: true; the input reads as it did. -/
def anchorSetsSpec : ChangeSpec := { name := "anchorSets", fn := fun _ => fun
  | [d1, d2, d3] => { results := [.lit (.bool true)], args := [d1, d2, d3] }
  | _ => none }
def anchorSetsRow : OpenClaim := { program := "ytncbhbjhfmbbkaa", sum := "1667eb1a04cb4d4ad2a0b36d50201e43961622e260a0e75fde53bd846e2a9d68", func := "bodkin/bodkinlaw11.AnchorSets", spec := "anchorSets", unfollowed := true, recurses := true, apart := false }
def AnchorSetsSaid : Prop := anchorSetsRow.holds Try.pinned (OpenSpec.ofChange anchorSetsSpec)

/-- ITS FALSE NEIGHBOUR: 'it returns false'. Refute it at one input. -/
def anchorSetsWrong : ChangeSpec := { name := "anchorSets", fn := fun _ => fun
  | [d1, d2, d3] => { results := [.lit (.bool false)], args := [d1, d2, d3] }
  | _ => none }
def AnchorSetsWrongFalsely : Prop := anchorSetsRow.holds Try.pinned (OpenSpec.ofChange anchorSetsWrong)

/-- 'bodkinlaw11.AnchorShifts': WHATEVER THE INPUT: true; the input reads as it did. -/
def anchorShiftsSpec : ChangeSpec := { name := "anchorShifts", fn := fun _ => fun
  | [d1, d2, d3] => { results := [.lit (.bool true)], args := [d1, d2, d3] }
  | _ => none }
def anchorShiftsRow : OpenClaim := { program := "ytncbhbjhfmbbkaa", sum := "1667eb1a04cb4d4ad2a0b36d50201e43961622e260a0e75fde53bd846e2a9d68", func := "bodkin/bodkinlaw11.AnchorShifts", spec := "anchorShifts", unfollowed := true, recurses := true, apart := false }
def AnchorShiftsSaid : Prop := anchorShiftsRow.holds Try.pinned (OpenSpec.ofChange anchorShiftsSpec)

/-- ITS FALSE NEIGHBOUR: 'it returns false'. Refute it at one input. -/
def anchorShiftsWrong : ChangeSpec := { name := "anchorShifts", fn := fun _ => fun
  | [d1, d2, d3] => { results := [.lit (.bool false)], args := [d1, d2, d3] }
  | _ => none }
def AnchorShiftsWrongFalsely : Prop := anchorShiftsRow.holds Try.pinned (OpenSpec.ofChange anchorShiftsWrong)

/-- 'bodkinlaw11.AnchorStays': WHATEVER THE INPUT: true; the input reads as it did. -/
def anchorStaysSpec : ChangeSpec := { name := "anchorStays", fn := fun _ => fun
  | [d1, d2, d3] => { results := [.lit (.bool true)], args := [d1, d2, d3] }
  | _ => none }
def anchorStaysRow : OpenClaim := { program := "ytncbhbjhfmbbkaa", sum := "1667eb1a04cb4d4ad2a0b36d50201e43961622e260a0e75fde53bd846e2a9d68", func := "bodkin/bodkinlaw11.AnchorStays", spec := "anchorStays", unfollowed := true, recurses := true, apart := false }
def AnchorStaysSaid : Prop := anchorStaysRow.holds Try.pinned (OpenSpec.ofChange anchorStaysSpec)

/-- ITS FALSE NEIGHBOUR: 'it returns false'. Refute it at one input. -/
def anchorStaysWrong : ChangeSpec := { name := "anchorStays", fn := fun _ => fun
  | [d1, d2, d3] => { results := [.lit (.bool false)], args := [d1, d2, d3] }
  | _ => none }
def AnchorStaysWrongFalsely : Prop := anchorStaysRow.holds Try.pinned (OpenSpec.ofChange anchorStaysWrong)

/-- 'bodkinlaw11.AnchorBack': WHATEVER THE INPUT: true; the input reads as it did. -/
def anchorBackSpec : ChangeSpec := { name := "anchorBack", fn := fun _ => fun
  | [d1, d2, d3] => { results := [.lit (.bool true)], args := [d1, d2, d3] }
  | _ => none }
def anchorBackRow : OpenClaim := { program := "ytncbhbjhfmbbkaa", sum := "1667eb1a04cb4d4ad2a0b36d50201e43961622e260a0e75fde53bd846e2a9d68", func := "bodkin/bodkinlaw11.AnchorBack", spec := "anchorBack", unfollowed := true, recurses := true, apart := false }
def AnchorBackSaid : Prop := anchorBackRow.holds Try.pinned (OpenSpec.ofChange anchorBackSpec)

/-- ITS FALSE NEIGHBOUR: 'it returns false'. Refute it at one input. -/
def anchorBackWrong : ChangeSpec := { name := "anchorBack", fn := fun _ => fun
  | [d1, d2, d3] => { results := [.lit (.bool false)], args := [d1, d2, d3] }
  | _ => none }
def AnchorBackWrongFalsely : Prop := anchorBackRow.holds Try.pinned (OpenSpec.ofChange anchorBackWrong)

/-- 'bodkinlaw11.AnchorNil': WHATEVER THE INPUT: true; the input reads as it did. -/
def anchorNilSpec : ChangeSpec := { name := "anchorNil", fn := fun _ => fun
  | [d1, d2] => { results := [.lit (.bool true)], args := [d1, d2] }
  | _ => none }
def anchorNilRow : OpenClaim := { program := "ytncbhbjhfmbbkaa", sum := "1667eb1a04cb4d4ad2a0b36d50201e43961622e260a0e75fde53bd846e2a9d68", func := "bodkin/bodkinlaw11.AnchorNil", spec := "anchorNil", unfollowed := true, recurses := true, apart := false }
def AnchorNilSaid : Prop := anchorNilRow.holds Try.pinned (OpenSpec.ofChange anchorNilSpec)

/-- ITS FALSE NEIGHBOUR: 'it returns false'. Refute it at one input. -/
def anchorNilWrong : ChangeSpec := { name := "anchorNil", fn := fun _ => fun
  | [d1, d2] => { results := [.lit (.bool false)], args := [d1, d2] }
  | _ => none }
def AnchorNilWrongFalsely : Prop := anchorNilRow.holds Try.pinned (OpenSpec.ofChange anchorNilWrong)

/-- 'bodkinlaw12.HistorySteps': WHATEVER THE INPUT: true; the input reads as it did. -/
def historyStepsSpec : ChangeSpec := { name := "historySteps", fn := fun _ => fun
  | [d] => { results := [.lit (.bool true)], args := [d] }
  | _ => none }
def historyStepsRow : OpenClaim := { program := "ytncbhbjhfmbbkaa", sum := "1667eb1a04cb4d4ad2a0b36d50201e43961622e260a0e75fde53bd846e2a9d68", func := "bodkin/bodkinlaw12.HistorySteps", spec := "historySteps", apart := false }
def HistoryStepsSaid : Prop := historyStepsRow.holds Try.pinned (OpenSpec.ofChange historyStepsSpec)

/-- ITS FALSE NEIGHBOUR: 'it returns false'. Refute it at one input. -/
def historyStepsWrong : ChangeSpec := { name := "historySteps", fn := fun _ => fun
  | [d] => { results := [.lit (.bool false)], args := [d] }
  | _ => none }
def HistoryStepsWrongFalsely : Prop := historyStepsRow.holds Try.pinned (OpenSpec.ofChange historyStepsWrong)

/-- 'bodkinlaw12.HistoryMost': WHATEVER THE INPUT: true; the input reads as it did. -/
def historyMostSpec : ChangeSpec := { name := "historyMost", fn := fun _ => fun
  | [d] => { results := [.lit (.bool true)], args := [d] }
  | _ => none }
def historyMostRow : OpenClaim := { program := "ytncbhbjhfmbbkaa", sum := "1667eb1a04cb4d4ad2a0b36d50201e43961622e260a0e75fde53bd846e2a9d68", func := "bodkin/bodkinlaw12.HistoryMost", spec := "historyMost", apart := false }
def HistoryMostSaid : Prop := historyMostRow.holds Try.pinned (OpenSpec.ofChange historyMostSpec)

/-- ITS FALSE NEIGHBOUR: 'it returns false'. Refute it at one input. -/
def historyMostWrong : ChangeSpec := { name := "historyMost", fn := fun _ => fun
  | [d] => { results := [.lit (.bool false)], args := [d] }
  | _ => none }
def HistoryMostWrongFalsely : Prop := historyMostRow.holds Try.pinned (OpenSpec.ofChange historyMostWrong)

/-- 'bodkinlaw12.HistoryNil': WHATEVER THE INPUT: true; the input reads as it did. -/
def historyNilSpec : ChangeSpec := { name := "historyNil", fn := fun _ => fun
  | [d] => { results := [.lit (.bool true)], args := [d] }
  | _ => none }
def historyNilRow : OpenClaim := { program := "ytncbhbjhfmbbkaa", sum := "1667eb1a04cb4d4ad2a0b36d50201e43961622e260a0e75fde53bd846e2a9d68", func := "bodkin/bodkinlaw12.HistoryNil", spec := "historyNil", apart := false }
def HistoryNilSaid : Prop := historyNilRow.holds Try.pinned (OpenSpec.ofChange historyNilSpec)

/-- ITS FALSE NEIGHBOUR: 'it returns false'. Refute it at one input. -/
def historyNilWrong : ChangeSpec := { name := "historyNil", fn := fun _ => fun
  | [d] => { results := [.lit (.bool false)], args := [d] }
  | _ => none }
def HistoryNilWrongFalsely : Prop := historyNilRow.holds Try.pinned (OpenSpec.ofChange historyNilWrong)

/-- 'bodkinlaw13.InlaysNew': WHATEVER THE INPUT: true; the input reads as it did. -/
def inlaysNewSpec : ChangeSpec := { name := "inlaysNew", fn := fun _ => fun
  | [d1, d2, d3] => { results := [.lit (.bool true)], args := [d1, d2, d3] }
  | _ => none }
def inlaysNewRow : OpenClaim := { program := "ytncbhbjhfmbbkaa", sum := "1667eb1a04cb4d4ad2a0b36d50201e43961622e260a0e75fde53bd846e2a9d68", func := "bodkin/bodkinlaw13.InlaysNew", spec := "inlaysNew", inPlace := ["internal/bytealg.IndexByteString", "internal/bytealg.IndexString", "internal/abi.NoEscape", "internal/bytealg.MakeNoZero"], unfollowed := true, recurses := true, named := ["internal/bytealg.MaxLen"], apart := false }
def InlaysNewSaid : Prop := inlaysNewRow.holds Try.pinned (OpenSpec.ofChange inlaysNewSpec)

/-- ITS FALSE NEIGHBOUR: 'it returns false'. Refute it at one input. -/
def inlaysNewWrong : ChangeSpec := { name := "inlaysNew", fn := fun _ => fun
  | [d1, d2, d3] => { results := [.lit (.bool false)], args := [d1, d2, d3] }
  | _ => none }
def InlaysNewWrongFalsely : Prop := inlaysNewRow.holds Try.pinned (OpenSpec.ofChange inlaysNewWrong)

/-- 'bodkinlaw13.InlaysSteps': WHATEVER THE INPUT: true; the input reads as it did. -/
def inlaysStepsSpec : ChangeSpec := { name := "inlaysSteps", fn := fun _ => fun
  | [d1, d2, d3] => { results := [.lit (.bool true)], args := [d1, d2, d3] }
  | _ => none }
def inlaysStepsRow : OpenClaim := { program := "ytncbhbjhfmbbkaa", sum := "1667eb1a04cb4d4ad2a0b36d50201e43961622e260a0e75fde53bd846e2a9d68", func := "bodkin/bodkinlaw13.InlaysSteps", spec := "inlaysSteps", inPlace := ["internal/bytealg.IndexByteString", "internal/bytealg.IndexString", "internal/abi.NoEscape", "internal/bytealg.MakeNoZero"], unfollowed := true, recurses := true, named := ["internal/bytealg.MaxLen"], apart := false }
def InlaysStepsSaid : Prop := inlaysStepsRow.holds Try.pinned (OpenSpec.ofChange inlaysStepsSpec)

/-- ITS FALSE NEIGHBOUR: 'it returns false'. Refute it at one input. -/
def inlaysStepsWrong : ChangeSpec := { name := "inlaysSteps", fn := fun _ => fun
  | [d1, d2, d3] => { results := [.lit (.bool false)], args := [d1, d2, d3] }
  | _ => none }
def InlaysStepsWrongFalsely : Prop := inlaysStepsRow.holds Try.pinned (OpenSpec.ofChange inlaysStepsWrong)

/-- 'bodkinlaw13.InlaysBack': WHATEVER THE INPUT: true; the input reads as it did. -/
def inlaysBackSpec : ChangeSpec := { name := "inlaysBack", fn := fun _ => fun
  | [d1, d2, d3] => { results := [.lit (.bool true)], args := [d1, d2, d3] }
  | _ => none }
def inlaysBackRow : OpenClaim := { program := "ytncbhbjhfmbbkaa", sum := "1667eb1a04cb4d4ad2a0b36d50201e43961622e260a0e75fde53bd846e2a9d68", func := "bodkin/bodkinlaw13.InlaysBack", spec := "inlaysBack", inPlace := ["internal/bytealg.IndexByteString", "internal/bytealg.IndexString", "internal/abi.NoEscape", "internal/bytealg.MakeNoZero"], unfollowed := true, recurses := true, named := ["internal/bytealg.MaxLen"], apart := false }
def InlaysBackSaid : Prop := inlaysBackRow.holds Try.pinned (OpenSpec.ofChange inlaysBackSpec)

/-- ITS FALSE NEIGHBOUR: 'it returns false'. Refute it at one input. -/
def inlaysBackWrong : ChangeSpec := { name := "inlaysBack", fn := fun _ => fun
  | [d1, d2, d3] => { results := [.lit (.bool false)], args := [d1, d2, d3] }
  | _ => none }
def InlaysBackWrongFalsely : Prop := inlaysBackRow.holds Try.pinned (OpenSpec.ofChange inlaysBackWrong)

/-- 'bodkinlaw13.InlaysTogether': WHATEVER THE INPUT: true; the input reads as it did. -/
def inlaysTogetherSpec : ChangeSpec := { name := "inlaysTogether", fn := fun _ => fun
  | [d1, d2, d3] => { results := [.lit (.bool true)], args := [d1, d2, d3] }
  | _ => none }
def inlaysTogetherRow : OpenClaim := { program := "ytncbhbjhfmbbkaa", sum := "1667eb1a04cb4d4ad2a0b36d50201e43961622e260a0e75fde53bd846e2a9d68", func := "bodkin/bodkinlaw13.InlaysTogether", spec := "inlaysTogether", inPlace := ["internal/bytealg.IndexByteString", "internal/bytealg.IndexString", "internal/abi.NoEscape", "internal/bytealg.MakeNoZero"], unfollowed := true, recurses := true, named := ["internal/bytealg.MaxLen"], apart := false }
def InlaysTogetherSaid : Prop := inlaysTogetherRow.holds Try.pinned (OpenSpec.ofChange inlaysTogetherSpec)

/-- ITS FALSE NEIGHBOUR: 'it returns false'. Refute it at one input. -/
def inlaysTogetherWrong : ChangeSpec := { name := "inlaysTogether", fn := fun _ => fun
  | [d1, d2, d3] => { results := [.lit (.bool false)], args := [d1, d2, d3] }
  | _ => none }
def InlaysTogetherWrongFalsely : Prop := inlaysTogetherRow.holds Try.pinned (OpenSpec.ofChange inlaysTogetherWrong)

/-- 'bodkinlaw13.InlaysNil': WHATEVER THE INPUT: true; the input reads as it did. -/
def inlaysNilSpec : ChangeSpec := { name := "inlaysNil", fn := fun _ => fun
  | [d] => { results := [.lit (.bool true)], args := [d] }
  | _ => none }
def inlaysNilRow : OpenClaim := { program := "ytncbhbjhfmbbkaa", sum := "1667eb1a04cb4d4ad2a0b36d50201e43961622e260a0e75fde53bd846e2a9d68", func := "bodkin/bodkinlaw13.InlaysNil", spec := "inlaysNil", inPlace := ["internal/bytealg.IndexByteString", "internal/bytealg.IndexString", "internal/abi.NoEscape", "internal/bytealg.MakeNoZero"], unfollowed := true, recurses := true, named := ["internal/bytealg.MaxLen"], apart := false }
def InlaysNilSaid : Prop := inlaysNilRow.holds Try.pinned (OpenSpec.ofChange inlaysNilSpec)

/-- ITS FALSE NEIGHBOUR: 'it returns false'. Refute it at one input. -/
def inlaysNilWrong : ChangeSpec := { name := "inlaysNil", fn := fun _ => fun
  | [d] => { results := [.lit (.bool false)], args := [d] }
  | _ => none }
def InlaysNilWrongFalsely : Prop := inlaysNilRow.holds Try.pinned (OpenSpec.ofChange inlaysNilWrong)

/- THE SECOND FORM. 'bulk': how many values and letters a reading holds, each counted each time it is reached (what is shared counts as often as it is met; a slice's spare places count too). A statement '..UptoSaid' is the law's where the arguments, and the package variables that the reading takes, are together of bulk at most 1048576: NARROWER than '..Said'. Prove '..Said' where nothing that the law and all that it calls make is longer than what came in: it says more and counts as full. Else prove '..UptoSaid'. A law counts once. -/
mutual
def uptoBulk {H : Type} : DataW H → Nat
  | .lit (.string bytes) => bytes.length + 1
  | .lit _ => 1
  | .nil => 1
  | .ptr d => uptoBulk d + 1
  | .slice elems spare => uptoBulkAll elems + uptoBulkAll spare + 1
  | .agg parts => uptoBulkAll parts + 1
  | .iface _ d => uptoBulk d + 1
  | .map entries => uptoBulkEntries entries + 1
  | .held _ => 1
def uptoBulkAll {H : Type} : List (DataW H) → Nat
  | [] => 0
  | d :: r => uptoBulk d + uptoBulkAll r
def uptoBulkEntries {H : Type} : List (Lit × DataW H) → Nat
  | [] => 0
  | x :: r => uptoBulkEntry x + uptoBulkEntries r
def uptoBulkEntry {H : Type} : Lit × DataW H → Nat
  | (.string bytes, d) => bytes.length + uptoBulk d + 1
  | (_, d) => uptoBulk d + 1
 end
def uptoSmall : (H : Type) → List (DataW H) → Bool := fun _ ds => decide (uptoBulkAll ds ≤ 1048576)
def OpenSpec.upto (s : _root_.Go.ChangeSpec) : _root_.Go.OpenSpec := { _root_.Go.OpenSpec.ofChange s with cond := some uptoSmall }

/-- 'bodkinlaw11.AnchorSets', WHERE WHAT IT READS IS OF BULK AT MOST 1048576: true; the input reads as it did. -/
def anchorSetsUptoRow : OpenClaim := { program := "ytncbhbjhfmbbkaa", sum := "1667eb1a04cb4d4ad2a0b36d50201e43961622e260a0e75fde53bd846e2a9d68", func := "bodkin/bodkinlaw11.AnchorSets", spec := "anchorSets", unfollowed := true, recurses := true, apart := false, narrowed := true }
def AnchorSetsUptoSaid : Prop := anchorSetsUptoRow.holds Try.pinned (OpenSpec.upto anchorSetsSpec)

/-- 'bodkinlaw11.AnchorShifts', WHERE WHAT IT READS IS OF BULK AT MOST 1048576: true; the input reads as it did. -/
def anchorShiftsUptoRow : OpenClaim := { program := "ytncbhbjhfmbbkaa", sum := "1667eb1a04cb4d4ad2a0b36d50201e43961622e260a0e75fde53bd846e2a9d68", func := "bodkin/bodkinlaw11.AnchorShifts", spec := "anchorShifts", unfollowed := true, recurses := true, apart := false, narrowed := true }
def AnchorShiftsUptoSaid : Prop := anchorShiftsUptoRow.holds Try.pinned (OpenSpec.upto anchorShiftsSpec)

/-- 'bodkinlaw11.AnchorStays', WHERE WHAT IT READS IS OF BULK AT MOST 1048576: true; the input reads as it did. -/
def anchorStaysUptoRow : OpenClaim := { program := "ytncbhbjhfmbbkaa", sum := "1667eb1a04cb4d4ad2a0b36d50201e43961622e260a0e75fde53bd846e2a9d68", func := "bodkin/bodkinlaw11.AnchorStays", spec := "anchorStays", unfollowed := true, recurses := true, apart := false, narrowed := true }
def AnchorStaysUptoSaid : Prop := anchorStaysUptoRow.holds Try.pinned (OpenSpec.upto anchorStaysSpec)

/-- 'bodkinlaw11.AnchorBack', WHERE WHAT IT READS IS OF BULK AT MOST 1048576: true; the input reads as it did. -/
def anchorBackUptoRow : OpenClaim := { program := "ytncbhbjhfmbbkaa", sum := "1667eb1a04cb4d4ad2a0b36d50201e43961622e260a0e75fde53bd846e2a9d68", func := "bodkin/bodkinlaw11.AnchorBack", spec := "anchorBack", unfollowed := true, recurses := true, apart := false, narrowed := true }
def AnchorBackUptoSaid : Prop := anchorBackUptoRow.holds Try.pinned (OpenSpec.upto anchorBackSpec)

/-- 'bodkinlaw11.AnchorNil', WHERE WHAT IT READS IS OF BULK AT MOST 1048576: true; the input reads as it did. -/
def anchorNilUptoRow : OpenClaim := { program := "ytncbhbjhfmbbkaa", sum := "1667eb1a04cb4d4ad2a0b36d50201e43961622e260a0e75fde53bd846e2a9d68", func := "bodkin/bodkinlaw11.AnchorNil", spec := "anchorNil", unfollowed := true, recurses := true, apart := false, narrowed := true }
def AnchorNilUptoSaid : Prop := anchorNilUptoRow.holds Try.pinned (OpenSpec.upto anchorNilSpec)

/-- 'bodkinlaw12.HistorySteps', WHERE WHAT IT READS IS OF BULK AT MOST 1048576: true; the input reads as it did. -/
def historyStepsUptoRow : OpenClaim := { program := "ytncbhbjhfmbbkaa", sum := "1667eb1a04cb4d4ad2a0b36d50201e43961622e260a0e75fde53bd846e2a9d68", func := "bodkin/bodkinlaw12.HistorySteps", spec := "historySteps", apart := false, narrowed := true }
def HistoryStepsUptoSaid : Prop := historyStepsUptoRow.holds Try.pinned (OpenSpec.upto historyStepsSpec)

/-- 'bodkinlaw12.HistoryMost', WHERE WHAT IT READS IS OF BULK AT MOST 1048576: true; the input reads as it did. -/
def historyMostUptoRow : OpenClaim := { program := "ytncbhbjhfmbbkaa", sum := "1667eb1a04cb4d4ad2a0b36d50201e43961622e260a0e75fde53bd846e2a9d68", func := "bodkin/bodkinlaw12.HistoryMost", spec := "historyMost", apart := false, narrowed := true }
def HistoryMostUptoSaid : Prop := historyMostUptoRow.holds Try.pinned (OpenSpec.upto historyMostSpec)

/-- 'bodkinlaw12.HistoryNil', WHERE WHAT IT READS IS OF BULK AT MOST 1048576: true; the input reads as it did. -/
def historyNilUptoRow : OpenClaim := { program := "ytncbhbjhfmbbkaa", sum := "1667eb1a04cb4d4ad2a0b36d50201e43961622e260a0e75fde53bd846e2a9d68", func := "bodkin/bodkinlaw12.HistoryNil", spec := "historyNil", apart := false, narrowed := true }
def HistoryNilUptoSaid : Prop := historyNilUptoRow.holds Try.pinned (OpenSpec.upto historyNilSpec)

/-- 'bodkinlaw13.InlaysNew', WHERE WHAT IT READS IS OF BULK AT MOST 1048576: true; the input reads as it did. -/
def inlaysNewUptoRow : OpenClaim := { program := "ytncbhbjhfmbbkaa", sum := "1667eb1a04cb4d4ad2a0b36d50201e43961622e260a0e75fde53bd846e2a9d68", func := "bodkin/bodkinlaw13.InlaysNew", spec := "inlaysNew", inPlace := ["internal/bytealg.IndexByteString", "internal/bytealg.IndexString", "internal/abi.NoEscape", "internal/bytealg.MakeNoZero"], unfollowed := true, recurses := true, named := ["internal/bytealg.MaxLen"], apart := false, narrowed := true }
def InlaysNewUptoSaid : Prop := inlaysNewUptoRow.holds Try.pinned (OpenSpec.upto inlaysNewSpec)

/-- 'bodkinlaw13.InlaysSteps', WHERE WHAT IT READS IS OF BULK AT MOST 1048576: true; the input reads as it did. -/
def inlaysStepsUptoRow : OpenClaim := { program := "ytncbhbjhfmbbkaa", sum := "1667eb1a04cb4d4ad2a0b36d50201e43961622e260a0e75fde53bd846e2a9d68", func := "bodkin/bodkinlaw13.InlaysSteps", spec := "inlaysSteps", inPlace := ["internal/bytealg.IndexByteString", "internal/bytealg.IndexString", "internal/abi.NoEscape", "internal/bytealg.MakeNoZero"], unfollowed := true, recurses := true, named := ["internal/bytealg.MaxLen"], apart := false, narrowed := true }
def InlaysStepsUptoSaid : Prop := inlaysStepsUptoRow.holds Try.pinned (OpenSpec.upto inlaysStepsSpec)

/-- 'bodkinlaw13.InlaysBack', WHERE WHAT IT READS IS OF BULK AT MOST 1048576: true; the input reads as it did. -/
def inlaysBackUptoRow : OpenClaim := { program := "ytncbhbjhfmbbkaa", sum := "1667eb1a04cb4d4ad2a0b36d50201e43961622e260a0e75fde53bd846e2a9d68", func := "bodkin/bodkinlaw13.InlaysBack", spec := "inlaysBack", inPlace := ["internal/bytealg.IndexByteString", "internal/bytealg.IndexString", "internal/abi.NoEscape", "internal/bytealg.MakeNoZero"], unfollowed := true, recurses := true, named := ["internal/bytealg.MaxLen"], apart := false, narrowed := true }
def InlaysBackUptoSaid : Prop := inlaysBackUptoRow.holds Try.pinned (OpenSpec.upto inlaysBackSpec)

/-- 'bodkinlaw13.InlaysTogether', WHERE WHAT IT READS IS OF BULK AT MOST 1048576: true; the input reads as it did. -/
def inlaysTogetherUptoRow : OpenClaim := { program := "ytncbhbjhfmbbkaa", sum := "1667eb1a04cb4d4ad2a0b36d50201e43961622e260a0e75fde53bd846e2a9d68", func := "bodkin/bodkinlaw13.InlaysTogether", spec := "inlaysTogether", inPlace := ["internal/bytealg.IndexByteString", "internal/bytealg.IndexString", "internal/abi.NoEscape", "internal/bytealg.MakeNoZero"], unfollowed := true, recurses := true, named := ["internal/bytealg.MaxLen"], apart := false, narrowed := true }
def InlaysTogetherUptoSaid : Prop := inlaysTogetherUptoRow.holds Try.pinned (OpenSpec.upto inlaysTogetherSpec)

/-- 'bodkinlaw13.InlaysNil', WHERE WHAT IT READS IS OF BULK AT MOST 1048576: true; the input reads as it did. -/
def inlaysNilUptoRow : OpenClaim := { program := "ytncbhbjhfmbbkaa", sum := "1667eb1a04cb4d4ad2a0b36d50201e43961622e260a0e75fde53bd846e2a9d68", func := "bodkin/bodkinlaw13.InlaysNil", spec := "inlaysNil", inPlace := ["internal/bytealg.IndexByteString", "internal/bytealg.IndexString", "internal/abi.NoEscape", "internal/bytealg.MakeNoZero"], unfollowed := true, recurses := true, named := ["internal/bytealg.MaxLen"], apart := false, narrowed := true }
def InlaysNilUptoSaid : Prop := inlaysNilUptoRow.holds Try.pinned (OpenSpec.upto inlaysNilSpec)

end Rows
end Go.Proofs.Ytncbhbjhfmbbkaa
