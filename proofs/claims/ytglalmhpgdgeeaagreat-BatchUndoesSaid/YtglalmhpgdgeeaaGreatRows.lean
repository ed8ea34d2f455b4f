/-
  No cell of these rows narrows 'for every input' (looked for: loops, veiled, ifaces, maps, wideKeys, modest, calm, conditions, laid).
  DERIVED. THE GIVEN ROWS OF THIS SEAT. 7 by the template 'for every input the law returns true; each argument reads behind the call as it read before'; 0 by the template 'total and deterministic' (their statements: YtglalmhpgdgeeaaGreatTotals.lean).
  GIVEN WITH THE SEED: the statements are not yours to turn. If you find one false, say at which input.
  Laid BY PROGRAM, IN A SANDBOX (cutbox-rows.mjs): the forced cells as the released guide's own fill.sh prints them over the translation 268eb06db14f4626… (all of the seat's roots in one cut). By AI agents, Wed Nov 11 2026. No macro, syntax, notation, axiom, sorry.
-/
import Derived.Test.YtglalmhpgdgeeaaGreatChecked
import GoSem.Claim
import GoSem.ClaimJoined
import GoSem.ClaimMapViews
import Derived.JoinedTies
import Derived.KernelRfl
namespace Go.Proofs.YtglalmhpgdgeeaaGreat
/- THE CELL 'sum', in the pinned program and in every row, IS THE sha256 OF THE DUMP (.gsa) THAT YtglalmhpgdgeeaaGreatProg.lean LOADS. Nothing in Lean hashes anything: it is a label: what it is worth is what the hold of that sum in a sandbox is worth. -/
noncomputable def Tryz.pinned : Pinned := { name := "ytglalmhpgdgeeaagreat", sum := "268eb06db14f4626ee58f25581906114f2f16b094049995977db275b01239211", checked := Tryz.checked }
namespace Rows
def none {H : Type} : Left H := { results := [], args := [] }

/-- 'bodkinlaw08.LinesSpans': WHATEVER THE INPUT: true; the input reads as it did. -/
def linesSpansSpec : ChangeSpec := { name := "linesSpans", fn := fun _ => fun
  | [d1, d2] => { results := [.lit (.bool true)], args := [d1, d2] }
  | _ => none }
def linesSpansRow : OpenClaim := { program := "ytglalmhpgdgeeaagreat", sum := "268eb06db14f4626ee58f25581906114f2f16b094049995977db275b01239211", func := "bodkin/bodkinlaw08.LinesSpans", spec := "linesSpans", inPlace := ["internal/abi.NoEscape", "internal/bytealg.MakeNoZero"], unfollowed := true, recurses := true, apart := false }
def LinesSpansSaid : Prop := linesSpansRow.holds Tryz.pinned (OpenSpec.ofChange linesSpansSpec)

/-- ITS FALSE NEIGHBOUR: 'it returns false'. Refute it at one input. -/
def linesSpansWrong : ChangeSpec := { name := "linesSpans", fn := fun _ => fun
  | [d1, d2] => { results := [.lit (.bool false)], args := [d1, d2] }
  | _ => none }
def LinesSpansWrongFalsely : Prop := linesSpansRow.holds Tryz.pinned (OpenSpec.ofChange linesSpansWrong)

/-- 'bodkinlaw08.LinesPoints': WHATEVER THE INPUT: true; the input reads as it did. -/
def linesPointsSpec : ChangeSpec := { name := "linesPoints", fn := fun _ => fun
  | [d1, d2, d3] => { results := [.lit (.bool true)], args := [d1, d2, d3] }
  | _ => none }
def linesPointsRow : OpenClaim := { program := "ytglalmhpgdgeeaagreat", sum := "268eb06db14f4626ee58f25581906114f2f16b094049995977db275b01239211", func := "bodkin/bodkinlaw08.LinesPoints", spec := "linesPoints", inPlace := ["internal/abi.NoEscape", "internal/bytealg.MakeNoZero"], unfollowed := true, recurses := true, apart := false }
def LinesPointsSaid : Prop := linesPointsRow.holds Tryz.pinned (OpenSpec.ofChange linesPointsSpec)

/-- ITS FALSE NEIGHBOUR: 'it returns false'. Refute it at one input. -/
def linesPointsWrong : ChangeSpec := { name := "linesPoints", fn := fun _ => fun
  | [d1, d2, d3] => { results := [.lit (.bool false)], args := [d1, d2, d3] }
  | _ => none }
def LinesPointsWrongFalsely : Prop := linesPointsRow.holds Tryz.pinned (OpenSpec.ofChange linesPointsWrong)

/-- 'bodkinlaw08.LinesClips': WHATEVER THE INPUT: true; the input reads as it did. -/
def linesClipsSpec : ChangeSpec := { name := "linesClips", fn := fun _ => fun
  | [d1, d2] => { results := [.lit (.bool true)], args := [d1, d2] }
  | _ => none }
def linesClipsRow : OpenClaim := { program := "ytglalmhpgdgeeaagreat", sum := "268eb06db14f4626ee58f25581906114f2f16b094049995977db275b01239211", func := "bodkin/bodkinlaw08.LinesClips", spec := "linesClips", inPlace := ["internal/abi.NoEscape", "internal/bytealg.MakeNoZero"], unfollowed := true, recurses := true, apart := false }
def LinesClipsSaid : Prop := linesClipsRow.holds Tryz.pinned (OpenSpec.ofChange linesClipsSpec)

/-- ITS FALSE NEIGHBOUR: 'it returns false'. Refute it at one input. -/
def linesClipsWrong : ChangeSpec := { name := "linesClips", fn := fun _ => fun
  | [d1, d2] => { results := [.lit (.bool false)], args := [d1, d2] }
  | _ => none }
def LinesClipsWrongFalsely : Prop := linesClipsRow.holds Tryz.pinned (OpenSpec.ofChange linesClipsWrong)

/-- 'bodkinlaw09.BatchApplies': WHATEVER THE INPUT: true; the input reads as it did. -/
def batchAppliesSpec : ChangeSpec := { name := "batchApplies", fn := fun _ => fun
  | [d1, d2] => { results := [.lit (.bool true)], args := [d1, d2] }
  | _ => none }
def batchAppliesRow : OpenClaim := { program := "ytglalmhpgdgeeaagreat", sum := "268eb06db14f4626ee58f25581906114f2f16b094049995977db275b01239211", func := "bodkin/bodkinlaw09.BatchApplies", spec := "batchApplies", inPlace := ["internal/abi.NoEscape", "internal/bytealg.MakeNoZero"], unfollowed := true, recurses := true, apart := false }
def BatchAppliesSaid : Prop := batchAppliesRow.holds Tryz.pinned (OpenSpec.ofChange batchAppliesSpec)

/-- ITS FALSE NEIGHBOUR: 'it returns false'. Refute it at one input. -/
def batchAppliesWrong : ChangeSpec := { name := "batchApplies", fn := fun _ => fun
  | [d1, d2] => { results := [.lit (.bool false)], args := [d1, d2] }
  | _ => none }
def BatchAppliesWrongFalsely : Prop := batchAppliesRow.holds Tryz.pinned (OpenSpec.ofChange batchAppliesWrong)

/-- 'bodkinlaw09.BatchUndoes': WHATEVER THE INPUT: true; the input reads as it did. -/
def batchUndoesSpec : ChangeSpec := { name := "batchUndoes", fn := fun _ => fun
  | [d1, d2] => { results := [.lit (.bool true)], args := [d1, d2] }
  | _ => none }
def batchUndoesRow : OpenClaim := { program := "ytglalmhpgdgeeaagreat", sum := "268eb06db14f4626ee58f25581906114f2f16b094049995977db275b01239211", func := "bodkin/bodkinlaw09.BatchUndoes", spec := "batchUndoes", inPlace := ["internal/abi.NoEscape", "internal/bytealg.MakeNoZero"], unfollowed := true, recurses := true, apart := false }
def BatchUndoesSaid : Prop := batchUndoesRow.holds Tryz.pinned (OpenSpec.ofChange batchUndoesSpec)

/-- ITS FALSE NEIGHBOUR: 'it returns false'. Refute it at one input. -/
def batchUndoesWrong : ChangeSpec := { name := "batchUndoes", fn := fun _ => fun
  | [d1, d2] => { results := [.lit (.bool false)], args := [d1, d2] }
  | _ => none }
def BatchUndoesWrongFalsely : Prop := batchUndoesRow.holds Tryz.pinned (OpenSpec.ofChange batchUndoesWrong)

/-- 'bodkinlaw09.BatchNil': WHATEVER THE INPUT: true; the input reads as it did. -/
def batchNilSpec : ChangeSpec := { name := "batchNil", fn := fun _ => fun
  | [d] => { results := [.lit (.bool true)], args := [d] }
  | _ => none }
def batchNilRow : OpenClaim := { program := "ytglalmhpgdgeeaagreat", sum := "268eb06db14f4626ee58f25581906114f2f16b094049995977db275b01239211", func := "bodkin/bodkinlaw09.BatchNil", spec := "batchNil", inPlace := ["internal/abi.NoEscape", "internal/bytealg.MakeNoZero"], unfollowed := true, recurses := true, apart := false }
def BatchNilSaid : Prop := batchNilRow.holds Tryz.pinned (OpenSpec.ofChange batchNilSpec)

/-- ITS FALSE NEIGHBOUR: 'it returns false'. Refute it at one input. -/
def batchNilWrong : ChangeSpec := { name := "batchNil", fn := fun _ => fun
  | [d] => { results := [.lit (.bool false)], args := [d] }
  | _ => none }
def BatchNilWrongFalsely : Prop := batchNilRow.holds Tryz.pinned (OpenSpec.ofChange batchNilWrong)

/-- 'bodkinlaw12.HistoryTexts': WHATEVER THE INPUT: true; the input reads as it did. -/
def historyTextsSpec : ChangeSpec := { name := "historyTexts", fn := fun _ => fun
  | [d1, d2] => { results := [.lit (.bool true)], args := [d1, d2] }
  | _ => none }
def historyTextsRow : OpenClaim := { program := "ytglalmhpgdgeeaagreat", sum := "268eb06db14f4626ee58f25581906114f2f16b094049995977db275b01239211", func := "bodkin/bodkinlaw12.HistoryTexts", spec := "historyTexts", inPlace := ["internal/abi.NoEscape", "internal/bytealg.MakeNoZero"], unfollowed := true, recurses := true, apart := false }
def HistoryTextsSaid : Prop := historyTextsRow.holds Tryz.pinned (OpenSpec.ofChange historyTextsSpec)

/-- ITS FALSE NEIGHBOUR: 'it returns false'. Refute it at one input. -/
def historyTextsWrong : ChangeSpec := { name := "historyTexts", fn := fun _ => fun
  | [d1, d2] => { results := [.lit (.bool false)], args := [d1, d2] }
  | _ => none }
def HistoryTextsWrongFalsely : Prop := historyTextsRow.holds Tryz.pinned (OpenSpec.ofChange historyTextsWrong)

/- THE SECOND FORM. 'bulk': how many values and letters a reading holds, each counted each time it is reached (what is shared counts as often as it is met; a slice's spare places count too). A statement '..UptoSaid' is the law's where the arguments, and the package variables that the reading takes, are together of bulk at most 1048576: NARROWER than '..Said'. Prove '..Said' where nothing that the law and all that it calls make is longer than what came in: it says more and counts as full. Else prove '..UptoSaid'. A law counts once. -/
mutual
def uptoBulk {H : Type} : DataW H → Nat
  | .lit (.string bytes) => bytes.length + 1
  | .lit _ => 1
  | .nil => 1
  | .ptr d => uptoBulk d + 1
  | .slice elems spare => uptoBulkAll elems + uptoBulkAll spare + 1
  | .agg parts => uptoBulkAll parts + 1
  | .iface _ d => uptoBulk d + 1
  | .map entries => uptoBulkEntries entries + 1
  | .held _ => 1
def uptoBulkAll {H : Type} : List (DataW H) → Nat
  | [] => 0
  | d :: r => uptoBulk d + uptoBulkAll r
def uptoBulkEntries {H : Type} : List (Lit × DataW H) → Nat
  | [] => 0
  | x :: r => uptoBulkEntry x + uptoBulkEntries r
def uptoBulkEntry {H : Type} : Lit × DataW H → Nat
  | (.string bytes, d) => bytes.length + uptoBulk d + 1
  | (_, d) => uptoBulk d + 1
 end
def uptoSmall : (H : Type) → List (DataW H) → Bool := fun _ ds => decide (uptoBulkAll ds ≤ 1048576)
def OpenSpec.upto (s : _root_.Go.ChangeSpec) : _root_.Go.OpenSpec := { _root_.Go.OpenSpec.ofChange s with cond := some uptoSmall }

/-- 'bodkinlaw08.LinesSpans', WHERE WHAT IT READS IS OF BULK AT MOST 1048576: true; the input reads as it did. -/
def linesSpansUptoRow : OpenClaim := { program := "ytglalmhpgdgeeaagreat", sum := "268eb06db14f4626ee58f25581906114f2f16b094049995977db275b01239211", func := "bodkin/bodkinlaw08.LinesSpans", spec := "linesSpans", inPlace := ["internal/abi.NoEscape", "internal/bytealg.MakeNoZero"], unfollowed := true, recurses := true, apart := false, narrowed := true }
def LinesSpansUptoSaid : Prop := linesSpansUptoRow.holds Tryz.pinned (OpenSpec.upto linesSpansSpec)

/-- 'bodkinlaw08.LinesPoints', WHERE WHAT IT READS IS OF BULK AT MOST 1048576: true; the input reads as it did. -/
def linesPointsUptoRow : OpenClaim := { program := "ytglalmhpgdgeeaagreat", sum := "268eb06db14f4626ee58f25581906114f2f16b094049995977db275b01239211", func := "bodkin/bodkinlaw08.LinesPoints", spec := "linesPoints", inPlace := ["internal/abi.NoEscape", "internal/bytealg.MakeNoZero"], unfollowed := true, recurses := true, apart := false, narrowed := true }
def LinesPointsUptoSaid : Prop := linesPointsUptoRow.holds Tryz.pinned (OpenSpec.upto linesPointsSpec)

/-- 'bodkinlaw08.LinesClips', WHERE WHAT IT READS IS OF BULK AT MOST 1048576: true; the input reads as it did. -/
def linesClipsUptoRow : OpenClaim := { program := "ytglalmhpgdgeeaagreat", sum := "268eb06db14f4626ee58f25581906114f2f16b094049995977db275b01239211", func := "bodkin/bodkinlaw08.LinesClips", spec := "linesClips", inPlace := ["internal/abi.NoEscape", "internal/bytealg.MakeNoZero"], unfollowed := true, recurses := true, apart := false, narrowed := true }
def LinesClipsUptoSaid : Prop := linesClipsUptoRow.holds Tryz.pinned (OpenSpec.upto linesClipsSpec)

/-- 'bodkinlaw09.BatchApplies', WHERE WHAT IT READS IS OF BULK AT MOST 1048576: true; the input reads as it did. -/
def batchAppliesUptoRow : OpenClaim := { program := "ytglalmhpgdgeeaagreat", sum := "268eb06db14f4626ee58f25581906114f2f16b094049995977db275b01239211", func := "bodkin/bodkinlaw09.BatchApplies", spec := "batchApplies", inPlace := ["internal/abi.NoEscape", "internal/bytealg.MakeNoZero"], unfollowed := true, recurses := true, apart := false, narrowed := true }
def BatchAppliesUptoSaid : Prop := batchAppliesUptoRow.holds Tryz.pinned (OpenSpec.upto batchAppliesSpec)

/-- 'bodkinlaw09.BatchUndoes', WHERE WHAT IT READS IS OF BULK AT MOST 1048576: true; the input reads as it did. -/
def batchUndoesUptoRow : OpenClaim := { program := "ytglalmhpgdgeeaagreat", sum := "268eb06db14f4626ee58f25581906114f2f16b094049995977db275b01239211", func := "bodkin/bodkinlaw09.BatchUndoes", spec := "batchUndoes", inPlace := ["internal/abi.NoEscape", "internal/bytealg.MakeNoZero"], unfollowed := true, recurses := true, apart := false, narrowed := true }
def BatchUndoesUptoSaid : Prop := batchUndoesUptoRow.holds Tryz.pinned (OpenSpec.upto batchUndoesSpec)

/-- 'bodkinlaw09.BatchNil', WHERE WHAT IT READS IS OF BULK AT MOST 1048576: true; the input reads as it did. -/
def batchNilUptoRow : OpenClaim := { program := "ytglalmhpgdgeeaagreat", sum := "268eb06db14f4626ee58f25581906114f2f16b094049995977db275b01239211", func := "bodkin/bodkinlaw09.BatchNil", spec := "batchNil", inPlace := ["internal/abi.NoEscape", "internal/bytealg.MakeNoZero"], unfollowed := true, recurses := true, apart := false, narrowed := true }
def BatchNilUptoSaid : Prop := batchNilUptoRow.holds Tryz.pinned (OpenSpec.upto batchNilSpec)

/-- 'bodkinlaw12.HistoryTexts', WHERE WHAT IT READS IS OF BULK AT MOST 1048576: true; the input reads as it did. -/
def historyTextsUptoRow : OpenClaim := { program := "ytglalmhpgdgeeaagreat", sum := "268eb06db14f4626ee58f25581906114f2f16b094049995977db275b01239211", func := "bodkin/bodkinlaw12.HistoryTexts", spec := "historyTexts", inPlace := ["internal/abi.NoEscape", "internal/bytealg.MakeNoZero"], unfollowed := true, recurses := true, apart := false, narrowed := true }
def HistoryTextsUptoSaid : Prop := historyTextsUptoRow.holds Tryz.pinned (OpenSpec.upto historyTextsSpec)

end Rows
end Go.Proofs.YtglalmhpgdgeeaaGreat
