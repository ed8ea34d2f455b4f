/-
  NARROWER THAN 'FOR EVERY INPUT', by the rows' own cells (each row's printed sentence says how): UtfDecodes: laid · UtfSteps: laid · UtfEncodes: laid · UtfBack: laid · UtfClean: laid · UtfJoins: laid · WidthTables: laid · WidthPlain: laid · WidthSums: laid · WidthKeeps: laid · WidthNil: laid.
  DERIVED. THE GIVEN ROWS OF THIS SEAT. 11 by the template 'for every input the law returns true; each argument reads behind the call as it read before'; 0 by the template 'total and deterministic' (their statements: YtapamkefcfnbpaaDoorTotals.lean).
  GIVEN WITH THE SEED: the statements are not yours to turn. If you find one false, say at which input.
  Laid BY PROGRAM, IN A SANDBOX (cutbox-rows.mjs): the forced cells as the released guide's own fill.sh prints them over the translation 8a9ff32aea652301… (all of the seat's roots in one cut). By AI agents, Wed Nov 11 2026. No macro, syntax, notation, axiom, sorry.
-/
import Derived.Test.YtapamkefcfnbpaaDoorChecked
import GoSem.PinnedTables
import GoSem.Claim
import GoSem.ClaimJoined
import GoSem.ClaimMapViews
import Derived.JoinedTies
import Derived.KernelRfl
namespace Go.Proofs.YtapamkefcfnbpaaDoor
/- THE CELL 'sum', in the pinned program and in every row, IS THE sha256 OF THE DUMP (.gsa) THAT YtapamkefcfnbpaaDoorProg.lean LOADS. Nothing in Lean hashes anything: it is a label: what it is worth is what the hold of that sum in a sandbox is worth. -/
noncomputable def Tryd.pinned : Pinned := { name := "ytapamkefcfnbpaadoor", sum := "8a9ff32aea6523010df915d0c0b342e97276e3ba34415a6a8fee364dcda5c642", checked := Tryd.checked }
namespace Rows
def none {H : Type} : Left H := { results := [], args := [] }

/- WHAT THE LISTED PACKAGE-LEVEL VARIABLES READ AS WHEN THE CALL BEGINS. Each datum BY PROGRAM (the guide's laid-datum.mjs) off the statement by which the dump's own 'gosem.cut.vars' lays the variable. In a bare row this is a premise. The card (YtapamkefcfnbpaaDoorCards.lean) ties it to the program's text. -/
def laid_unicode_utf8_acceptRanges {H : Type} : DataW H := .agg [.agg [.lit (.int .u8 128), .lit (.int .u8 191)], .agg [.lit (.int .u8 160), .lit (.int .u8 191)], .agg [.lit (.int .u8 128), .lit (.int .u8 159)], .agg [.lit (.int .u8 144), .lit (.int .u8 191)], .agg [.lit (.int .u8 128), .lit (.int .u8 143)], .agg [.lit (.int .u8 0), .lit (.int .u8 0)], .agg [.lit (.int .u8 0), .lit (.int .u8 0)], .agg [.lit (.int .u8 0), .lit (.int .u8 0)], .agg [.lit (.int .u8 0), .lit (.int .u8 0)], .agg [.lit (.int .u8 0), .lit (.int .u8 0)], .agg [.lit (.int .u8 0), .lit (.int .u8 0)], .agg [.lit (.int .u8 0), .lit (.int .u8 0)], .agg [.lit (.int .u8 0), .lit (.int .u8 0)], .agg [.lit (.int .u8 0), .lit (.int .u8 0)], .agg [.lit (.int .u8 0), .lit (.int .u8 0)], .agg [.lit (.int .u8 0), .lit (.int .u8 0)]]
/-- One of Go's own tables, pinned by name: the form's constant. -/
def laid_unicode_utf8_first : DataW Unit := Go.Pinned.utf8First
def laid_bodkin_width_plainZero {H : Type} : DataW H := .agg [.agg [.lit (.int .i32 768), .lit (.int .i32 879)], .agg [.lit (.int .i32 8203), .lit (.int .i32 8207)], .agg [.lit (.int .i32 65024), .lit (.int .i32 65039)]]
def laid_bodkin_width_plainWide {H : Type} : DataW H := .agg [.agg [.lit (.int .i32 4352), .lit (.int .i32 4447)], .agg [.lit (.int .i32 11904), .lit (.int .i32 12350)], .agg [.lit (.int .i32 12353), .lit (.int .i32 19903)], .agg [.lit (.int .i32 19968), .lit (.int .i32 40959)], .agg [.lit (.int .i32 44032), .lit (.int .i32 55203)], .agg [.lit (.int .i32 63744), .lit (.int .i32 64255)], .agg [.lit (.int .i32 65280), .lit (.int .i32 65376)], .agg [.lit (.int .i32 127744), .lit (.int .i32 128591)]]

/-- 'bodkinlaw01.UtfDecodes': WHATEVER THE INPUT: true; the input reads as it did. -/
def utfDecodesSpec : ChangeSpec := { name := "utfDecodes", fn := fun _ => fun
  | [d] => { results := [.lit (.bool true)], args := [d] }
  | _ => none }
def utfDecodesRow : OpenClaim := { program := "ytapamkefcfnbpaadoor", sum := "8a9ff32aea6523010df915d0c0b342e97276e3ba34415a6a8fee364dcda5c642", func := "bodkin/bodkinlaw01.UtfDecodes", spec := "utfDecodes", named := ["unicode/utf8.first", "unicode/utf8.acceptRanges"], apart := false, laid := [("unicode/utf8.acceptRanges", laid_unicode_utf8_acceptRanges), ("unicode/utf8.first", laid_unicode_utf8_first)] }
def UtfDecodesSaid : Prop := utfDecodesRow.holds Tryd.pinned (OpenSpec.ofChange utfDecodesSpec)

/-- ITS FALSE NEIGHBOUR: 'it returns false'. Refute it at one input. -/
def utfDecodesWrong : ChangeSpec := { name := "utfDecodes", fn := fun _ => fun
  | [d] => { results := [.lit (.bool false)], args := [d] }
  | _ => none }
def UtfDecodesWrongFalsely : Prop := utfDecodesRow.holds Tryd.pinned (OpenSpec.ofChange utfDecodesWrong)

/-- 'bodkinlaw01.UtfSteps': WHATEVER THE INPUT: true; the input reads as it did. -/
def utfStepsSpec : ChangeSpec := { name := "utfSteps", fn := fun _ => fun
  | [d1, d2] => { results := [.lit (.bool true)], args := [d1, d2] }
  | _ => none }
def utfStepsRow : OpenClaim := { program := "ytapamkefcfnbpaadoor", sum := "8a9ff32aea6523010df915d0c0b342e97276e3ba34415a6a8fee364dcda5c642", func := "bodkin/bodkinlaw01.UtfSteps", spec := "utfSteps", named := ["unicode/utf8.first", "unicode/utf8.acceptRanges"], apart := false, laid := [("unicode/utf8.acceptRanges", laid_unicode_utf8_acceptRanges), ("unicode/utf8.first", laid_unicode_utf8_first)] }
def UtfStepsSaid : Prop := utfStepsRow.holds Tryd.pinned (OpenSpec.ofChange utfStepsSpec)

/-- ITS FALSE NEIGHBOUR: 'it returns false'. Refute it at one input. -/
def utfStepsWrong : ChangeSpec := { name := "utfSteps", fn := fun _ => fun
  | [d1, d2] => { results := [.lit (.bool false)], args := [d1, d2] }
  | _ => none }
def UtfStepsWrongFalsely : Prop := utfStepsRow.holds Tryd.pinned (OpenSpec.ofChange utfStepsWrong)

/-- 'bodkinlaw01.UtfEncodes': WHATEVER THE INPUT: true; the input reads as it did. -/
def utfEncodesSpec : ChangeSpec := { name := "utfEncodes", fn := fun _ => fun
  | [d] => { results := [.lit (.bool true)], args := [d] }
  | _ => none }
def utfEncodesRow : OpenClaim := { program := "ytapamkefcfnbpaadoor", sum := "8a9ff32aea6523010df915d0c0b342e97276e3ba34415a6a8fee364dcda5c642", func := "bodkin/bodkinlaw01.UtfEncodes", spec := "utfEncodes", inPlace := ["internal/abi.NoEscape", "internal/bytealg.MakeNoZero"], named := ["unicode/utf8.first", "unicode/utf8.acceptRanges"], apart := false, laid := [("unicode/utf8.acceptRanges", laid_unicode_utf8_acceptRanges), ("unicode/utf8.first", laid_unicode_utf8_first)] }
def UtfEncodesSaid : Prop := utfEncodesRow.holds Tryd.pinned (OpenSpec.ofChange utfEncodesSpec)

/-- ITS FALSE NEIGHBOUR: 'it returns false'. Refute it at one input. -/
def utfEncodesWrong : ChangeSpec := { name := "utfEncodes", fn := fun _ => fun
  | [d] => { results := [.lit (.bool false)], args := [d] }
  | _ => none }
def UtfEncodesWrongFalsely : Prop := utfEncodesRow.holds Tryd.pinned (OpenSpec.ofChange utfEncodesWrong)

/-- 'bodkinlaw01.UtfBack': WHATEVER THE INPUT: true; the input reads as it did. -/
def utfBackSpec : ChangeSpec := { name := "utfBack", fn := fun _ => fun
  | [d] => { results := [.lit (.bool true)], args := [d] }
  | _ => none }
def utfBackRow : OpenClaim := { program := "ytapamkefcfnbpaadoor", sum := "8a9ff32aea6523010df915d0c0b342e97276e3ba34415a6a8fee364dcda5c642", func := "bodkin/bodkinlaw01.UtfBack", spec := "utfBack", inPlace := ["internal/abi.NoEscape", "internal/bytealg.MakeNoZero"], named := ["unicode/utf8.first", "unicode/utf8.acceptRanges"], apart := false, laid := [("unicode/utf8.acceptRanges", laid_unicode_utf8_acceptRanges), ("unicode/utf8.first", laid_unicode_utf8_first)] }
def UtfBackSaid : Prop := utfBackRow.holds Tryd.pinned (OpenSpec.ofChange utfBackSpec)

/-- ITS FALSE NEIGHBOUR: 'it returns false'. Refute it at one input. -/
def utfBackWrong : ChangeSpec := { name := "utfBack", fn := fun _ => fun
  | [d] => { results := [.lit (.bool false)], args := [d] }
  | _ => none }
def UtfBackWrongFalsely : Prop := utfBackRow.holds Tryd.pinned (OpenSpec.ofChange utfBackWrong)

/-- 'bodkinlaw01.UtfClean': WHATEVER THE INPUT: true; the input reads as it did. -/
def utfCleanSpec : ChangeSpec := { name := "utfClean", fn := fun _ => fun
  | [d] => { results := [.lit (.bool true)], args := [d] }
  | _ => none }
def utfCleanRow : OpenClaim := { program := "ytapamkefcfnbpaadoor", sum := "8a9ff32aea6523010df915d0c0b342e97276e3ba34415a6a8fee364dcda5c642", func := "bodkin/bodkinlaw01.UtfClean", spec := "utfClean", inPlace := ["internal/abi.NoEscape", "internal/bytealg.MakeNoZero"], named := ["unicode/utf8.first", "unicode/utf8.acceptRanges"], apart := false, laid := [("unicode/utf8.acceptRanges", laid_unicode_utf8_acceptRanges), ("unicode/utf8.first", laid_unicode_utf8_first)] }
def UtfCleanSaid : Prop := utfCleanRow.holds Tryd.pinned (OpenSpec.ofChange utfCleanSpec)

/-- ITS FALSE NEIGHBOUR: 'it returns false'. Refute it at one input. -/
def utfCleanWrong : ChangeSpec := { name := "utfClean", fn := fun _ => fun
  | [d] => { results := [.lit (.bool false)], args := [d] }
  | _ => none }
def UtfCleanWrongFalsely : Prop := utfCleanRow.holds Tryd.pinned (OpenSpec.ofChange utfCleanWrong)

/-- 'bodkinlaw01.UtfJoins': WHATEVER THE INPUT: true; the input reads as it did. -/
def utfJoinsSpec : ChangeSpec := { name := "utfJoins", fn := fun _ => fun
  | [d1, d2] => { results := [.lit (.bool true)], args := [d1, d2] }
  | _ => none }
def utfJoinsRow : OpenClaim := { program := "ytapamkefcfnbpaadoor", sum := "8a9ff32aea6523010df915d0c0b342e97276e3ba34415a6a8fee364dcda5c642", func := "bodkin/bodkinlaw01.UtfJoins", spec := "utfJoins", named := ["unicode/utf8.first", "unicode/utf8.acceptRanges"], apart := false, laid := [("unicode/utf8.acceptRanges", laid_unicode_utf8_acceptRanges), ("unicode/utf8.first", laid_unicode_utf8_first)] }
def UtfJoinsSaid : Prop := utfJoinsRow.holds Tryd.pinned (OpenSpec.ofChange utfJoinsSpec)

/-- ITS FALSE NEIGHBOUR: 'it returns false'. Refute it at one input. -/
def utfJoinsWrong : ChangeSpec := { name := "utfJoins", fn := fun _ => fun
  | [d1, d2] => { results := [.lit (.bool false)], args := [d1, d2] }
  | _ => none }
def UtfJoinsWrongFalsely : Prop := utfJoinsRow.holds Tryd.pinned (OpenSpec.ofChange utfJoinsWrong)

/-- 'bodkinlaw02.WidthTables': WHATEVER THE INPUT: true; the input reads as it did. -/
def widthTablesSpec : ChangeSpec := { name := "widthTables", fn := fun _ => fun
  | [d1, d2, d3] => { results := [.lit (.bool true)], args := [d1, d2, d3] }
  | _ => none }
def widthTablesRow : OpenClaim := { program := "ytapamkefcfnbpaadoor", sum := "8a9ff32aea6523010df915d0c0b342e97276e3ba34415a6a8fee364dcda5c642", func := "bodkin/bodkinlaw02.WidthTables", spec := "widthTables", named := ["bodkin/width.plainZero", "bodkin/width.plainWide"], apart := false, laid := [("bodkin/width.plainZero", laid_bodkin_width_plainZero), ("bodkin/width.plainWide", laid_bodkin_width_plainWide)] }
def WidthTablesSaid : Prop := widthTablesRow.holds Tryd.pinned (OpenSpec.ofChange widthTablesSpec)

/-- ITS FALSE NEIGHBOUR: 'it returns false'. Refute it at one input. -/
def widthTablesWrong : ChangeSpec := { name := "widthTables", fn := fun _ => fun
  | [d1, d2, d3] => { results := [.lit (.bool false)], args := [d1, d2, d3] }
  | _ => none }
def WidthTablesWrongFalsely : Prop := widthTablesRow.holds Tryd.pinned (OpenSpec.ofChange widthTablesWrong)

/-- 'bodkinlaw02.WidthPlain': WHATEVER THE INPUT: true; the input reads as it did. -/
def widthPlainSpec : ChangeSpec := { name := "widthPlain", fn := fun _ => fun
  | [d] => { results := [.lit (.bool true)], args := [d] }
  | _ => none }
def widthPlainRow : OpenClaim := { program := "ytapamkefcfnbpaadoor", sum := "8a9ff32aea6523010df915d0c0b342e97276e3ba34415a6a8fee364dcda5c642", func := "bodkin/bodkinlaw02.WidthPlain", spec := "widthPlain", named := ["bodkin/width.plainZero", "bodkin/width.plainWide"], apart := false, laid := [("bodkin/width.plainZero", laid_bodkin_width_plainZero), ("bodkin/width.plainWide", laid_bodkin_width_plainWide)] }
def WidthPlainSaid : Prop := widthPlainRow.holds Tryd.pinned (OpenSpec.ofChange widthPlainSpec)

/-- ITS FALSE NEIGHBOUR: 'it returns false'. Refute it at one input. -/
def widthPlainWrong : ChangeSpec := { name := "widthPlain", fn := fun _ => fun
  | [d] => { results := [.lit (.bool false)], args := [d] }
  | _ => none }
def WidthPlainWrongFalsely : Prop := widthPlainRow.holds Tryd.pinned (OpenSpec.ofChange widthPlainWrong)

/-- 'bodkinlaw02.WidthSums': WHATEVER THE INPUT: true; the input reads as it did. -/
def widthSumsSpec : ChangeSpec := { name := "widthSums", fn := fun _ => fun
  | [d1, d2] => { results := [.lit (.bool true)], args := [d1, d2] }
  | _ => none }
def widthSumsRow : OpenClaim := { program := "ytapamkefcfnbpaadoor", sum := "8a9ff32aea6523010df915d0c0b342e97276e3ba34415a6a8fee364dcda5c642", func := "bodkin/bodkinlaw02.WidthSums", spec := "widthSums", named := ["bodkin/width.plainZero", "bodkin/width.plainWide"], apart := false, laid := [("bodkin/width.plainZero", laid_bodkin_width_plainZero), ("bodkin/width.plainWide", laid_bodkin_width_plainWide)] }
def WidthSumsSaid : Prop := widthSumsRow.holds Tryd.pinned (OpenSpec.ofChange widthSumsSpec)

/-- ITS FALSE NEIGHBOUR: 'it returns false'. Refute it at one input. -/
def widthSumsWrong : ChangeSpec := { name := "widthSums", fn := fun _ => fun
  | [d1, d2] => { results := [.lit (.bool false)], args := [d1, d2] }
  | _ => none }
def WidthSumsWrongFalsely : Prop := widthSumsRow.holds Tryd.pinned (OpenSpec.ofChange widthSumsWrong)

/-- 'bodkinlaw02.WidthKeeps': WHATEVER THE INPUT: true; the input reads as it did. -/
def widthKeepsSpec : ChangeSpec := { name := "widthKeeps", fn := fun _ => fun
  | [d1, d2, d3] => { results := [.lit (.bool true)], args := [d1, d2, d3] }
  | _ => none }
def widthKeepsRow : OpenClaim := { program := "ytapamkefcfnbpaadoor", sum := "8a9ff32aea6523010df915d0c0b342e97276e3ba34415a6a8fee364dcda5c642", func := "bodkin/bodkinlaw02.WidthKeeps", spec := "widthKeeps", named := ["bodkin/width.plainZero", "bodkin/width.plainWide"], apart := false, laid := [("bodkin/width.plainZero", laid_bodkin_width_plainZero), ("bodkin/width.plainWide", laid_bodkin_width_plainWide)] }
def WidthKeepsSaid : Prop := widthKeepsRow.holds Tryd.pinned (OpenSpec.ofChange widthKeepsSpec)

/-- ITS FALSE NEIGHBOUR: 'it returns false'. Refute it at one input. -/
def widthKeepsWrong : ChangeSpec := { name := "widthKeeps", fn := fun _ => fun
  | [d1, d2, d3] => { results := [.lit (.bool false)], args := [d1, d2, d3] }
  | _ => none }
def WidthKeepsWrongFalsely : Prop := widthKeepsRow.holds Tryd.pinned (OpenSpec.ofChange widthKeepsWrong)

/-- 'bodkinlaw02.WidthNil': WHATEVER THE INPUT: true; the input reads as it did. -/
def widthNilSpec : ChangeSpec := { name := "widthNil", fn := fun _ => fun
  | [d] => { results := [.lit (.bool true)], args := [d] }
  | _ => none }
def widthNilRow : OpenClaim := { program := "ytapamkefcfnbpaadoor", sum := "8a9ff32aea6523010df915d0c0b342e97276e3ba34415a6a8fee364dcda5c642", func := "bodkin/bodkinlaw02.WidthNil", spec := "widthNil", named := ["bodkin/width.plainZero", "bodkin/width.plainWide"], apart := false, laid := [("bodkin/width.plainZero", laid_bodkin_width_plainZero), ("bodkin/width.plainWide", laid_bodkin_width_plainWide)] }
def WidthNilSaid : Prop := widthNilRow.holds Tryd.pinned (OpenSpec.ofChange widthNilSpec)

/-- ITS FALSE NEIGHBOUR: 'it returns false'. Refute it at one input. -/
def widthNilWrong : ChangeSpec := { name := "widthNil", fn := fun _ => fun
  | [d] => { results := [.lit (.bool false)], args := [d] }
  | _ => none }
def WidthNilWrongFalsely : Prop := widthNilRow.holds Tryd.pinned (OpenSpec.ofChange widthNilWrong)

/- THE SECOND FORM. 'bulk': how many values and letters a reading holds, each counted each time it is reached (what is shared counts as often as it is met; a slice's spare places count too). A statement '..UptoSaid' is the law's where the arguments, and the package variables that the reading takes, are together of bulk at most 1048576: NARROWER than '..Said'. Prove '..Said' where nothing that the law and all that it calls make is longer than what came in: it says more and counts as full. Else prove '..UptoSaid'. A law counts once. -/
mutual
def uptoBulk {H : Type} : DataW H → Nat
  | .lit (.string bytes) => bytes.length + 1
  | .lit _ => 1
  | .nil => 1
  | .ptr d => uptoBulk d + 1
  | .slice elems spare => uptoBulkAll elems + uptoBulkAll spare + 1
  | .agg parts => uptoBulkAll parts + 1
  | .iface _ d => uptoBulk d + 1
  | .map entries => uptoBulkEntries entries + 1
  | .held _ => 1
def uptoBulkAll {H : Type} : List (DataW H) → Nat
  | [] => 0
  | d :: r => uptoBulk d + uptoBulkAll r
def uptoBulkEntries {H : Type} : List (Lit × DataW H) → Nat
  | [] => 0
  | x :: r => uptoBulkEntry x + uptoBulkEntries r
def uptoBulkEntry {H : Type} : Lit × DataW H → Nat
  | (.string bytes, d) => bytes.length + uptoBulk d + 1
  | (_, d) => uptoBulk d + 1
 end
def uptoSmall : (H : Type) → List (DataW H) → Bool := fun _ ds => decide (uptoBulkAll ds ≤ 1048576)
def OpenSpec.upto (s : _root_.Go.ChangeSpec) : _root_.Go.OpenSpec := { _root_.Go.OpenSpec.ofChange s with cond := some uptoSmall }

/-- 'bodkinlaw01.UtfDecodes', WHERE WHAT IT READS IS OF BULK AT MOST 1048576: true; the input reads as it did. -/
def utfDecodesUptoRow : OpenClaim := { program := "ytapamkefcfnbpaadoor", sum := "8a9ff32aea6523010df915d0c0b342e97276e3ba34415a6a8fee364dcda5c642", func := "bodkin/bodkinlaw01.UtfDecodes", spec := "utfDecodes", named := ["unicode/utf8.first", "unicode/utf8.acceptRanges"], apart := false, laid := [("unicode/utf8.acceptRanges", laid_unicode_utf8_acceptRanges), ("unicode/utf8.first", laid_unicode_utf8_first)], narrowed := true }
def UtfDecodesUptoSaid : Prop := utfDecodesUptoRow.holds Tryd.pinned (OpenSpec.upto utfDecodesSpec)

/-- 'bodkinlaw01.UtfSteps', WHERE WHAT IT READS IS OF BULK AT MOST 1048576: true; the input reads as it did. -/
def utfStepsUptoRow : OpenClaim := { program := "ytapamkefcfnbpaadoor", sum := "8a9ff32aea6523010df915d0c0b342e97276e3ba34415a6a8fee364dcda5c642", func := "bodkin/bodkinlaw01.UtfSteps", spec := "utfSteps", named := ["unicode/utf8.first", "unicode/utf8.acceptRanges"], apart := false, laid := [("unicode/utf8.acceptRanges", laid_unicode_utf8_acceptRanges), ("unicode/utf8.first", laid_unicode_utf8_first)], narrowed := true }
def UtfStepsUptoSaid : Prop := utfStepsUptoRow.holds Tryd.pinned (OpenSpec.upto utfStepsSpec)

/-- 'bodkinlaw01.UtfEncodes', WHERE WHAT IT READS IS OF BULK AT MOST 1048576: true; the input reads as it did. -/
def utfEncodesUptoRow : OpenClaim := { program := "ytapamkefcfnbpaadoor", sum := "8a9ff32aea6523010df915d0c0b342e97276e3ba34415a6a8fee364dcda5c642", func := "bodkin/bodkinlaw01.UtfEncodes", spec := "utfEncodes", inPlace := ["internal/abi.NoEscape", "internal/bytealg.MakeNoZero"], named := ["unicode/utf8.first", "unicode/utf8.acceptRanges"], apart := false, laid := [("unicode/utf8.acceptRanges", laid_unicode_utf8_acceptRanges), ("unicode/utf8.first", laid_unicode_utf8_first)], narrowed := true }
def UtfEncodesUptoSaid : Prop := utfEncodesUptoRow.holds Tryd.pinned (OpenSpec.upto utfEncodesSpec)

/-- 'bodkinlaw01.UtfBack', WHERE WHAT IT READS IS OF BULK AT MOST 1048576: true; the input reads as it did. -/
def utfBackUptoRow : OpenClaim := { program := "ytapamkefcfnbpaadoor", sum := "8a9ff32aea6523010df915d0c0b342e97276e3ba34415a6a8fee364dcda5c642", func := "bodkin/bodkinlaw01.UtfBack", spec := "utfBack", inPlace := ["internal/abi.NoEscape", "internal/bytealg.MakeNoZero"], named := ["unicode/utf8.first", "unicode/utf8.acceptRanges"], apart := false, laid := [("unicode/utf8.acceptRanges", laid_unicode_utf8_acceptRanges), ("unicode/utf8.first", laid_unicode_utf8_first)], narrowed := true }
def UtfBackUptoSaid : Prop := utfBackUptoRow.holds Tryd.pinned (OpenSpec.upto utfBackSpec)

/-- 'bodkinlaw01.UtfClean', WHERE WHAT IT READS IS OF BULK AT MOST 1048576: true; the input reads as it did. -/
def utfCleanUptoRow : OpenClaim := { program := "ytapamkefcfnbpaadoor", sum := "8a9ff32aea6523010df915d0c0b342e97276e3ba34415a6a8fee364dcda5c642", func := "bodkin/bodkinlaw01.UtfClean", spec := "utfClean", inPlace := ["internal/abi.NoEscape", "internal/bytealg.MakeNoZero"], named := ["unicode/utf8.first", "unicode/utf8.acceptRanges"], apart := false, laid := [("unicode/utf8.acceptRanges", laid_unicode_utf8_acceptRanges), ("unicode/utf8.first", laid_unicode_utf8_first)], narrowed := true }
def UtfCleanUptoSaid : Prop := utfCleanUptoRow.holds Tryd.pinned (OpenSpec.upto utfCleanSpec)

/-- 'bodkinlaw01.UtfJoins', WHERE WHAT IT READS IS OF BULK AT MOST 1048576: true; the input reads as it did. -/
def utfJoinsUptoRow : OpenClaim := { program := "ytapamkefcfnbpaadoor", sum := "8a9ff32aea6523010df915d0c0b342e97276e3ba34415a6a8fee364dcda5c642", func := "bodkin/bodkinlaw01.UtfJoins", spec := "utfJoins", named := ["unicode/utf8.first", "unicode/utf8.acceptRanges"], apart := false, laid := [("unicode/utf8.acceptRanges", laid_unicode_utf8_acceptRanges), ("unicode/utf8.first", laid_unicode_utf8_first)], narrowed := true }
def UtfJoinsUptoSaid : Prop := utfJoinsUptoRow.holds Tryd.pinned (OpenSpec.upto utfJoinsSpec)

/-- 'bodkinlaw02.WidthTables', WHERE WHAT IT READS IS OF BULK AT MOST 1048576: true; the input reads as it did. -/
def widthTablesUptoRow : OpenClaim := { program := "ytapamkefcfnbpaadoor", sum := "8a9ff32aea6523010df915d0c0b342e97276e3ba34415a6a8fee364dcda5c642", func := "bodkin/bodkinlaw02.WidthTables", spec := "widthTables", named := ["bodkin/width.plainZero", "bodkin/width.plainWide"], apart := false, laid := [("bodkin/width.plainZero", laid_bodkin_width_plainZero), ("bodkin/width.plainWide", laid_bodkin_width_plainWide)], narrowed := true }
def WidthTablesUptoSaid : Prop := widthTablesUptoRow.holds Tryd.pinned (OpenSpec.upto widthTablesSpec)

/-- 'bodkinlaw02.WidthPlain', WHERE WHAT IT READS IS OF BULK AT MOST 1048576: true; the input reads as it did. -/
def widthPlainUptoRow : OpenClaim := { program := "ytapamkefcfnbpaadoor", sum := "8a9ff32aea6523010df915d0c0b342e97276e3ba34415a6a8fee364dcda5c642", func := "bodkin/bodkinlaw02.WidthPlain", spec := "widthPlain", named := ["bodkin/width.plainZero", "bodkin/width.plainWide"], apart := false, laid := [("bodkin/width.plainZero", laid_bodkin_width_plainZero), ("bodkin/width.plainWide", laid_bodkin_width_plainWide)], narrowed := true }
def WidthPlainUptoSaid : Prop := widthPlainUptoRow.holds Tryd.pinned (OpenSpec.upto widthPlainSpec)

/-- 'bodkinlaw02.WidthSums', WHERE WHAT IT READS IS OF BULK AT MOST 1048576: true; the input reads as it did. -/
def widthSumsUptoRow : OpenClaim := { program := "ytapamkefcfnbpaadoor", sum := "8a9ff32aea6523010df915d0c0b342e97276e3ba34415a6a8fee364dcda5c642", func := "bodkin/bodkinlaw02.WidthSums", spec := "widthSums", named := ["bodkin/width.plainZero", "bodkin/width.plainWide"], apart := false, laid := [("bodkin/width.plainZero", laid_bodkin_width_plainZero), ("bodkin/width.plainWide", laid_bodkin_width_plainWide)], narrowed := true }
def WidthSumsUptoSaid : Prop := widthSumsUptoRow.holds Tryd.pinned (OpenSpec.upto widthSumsSpec)

/-- 'bodkinlaw02.WidthKeeps', WHERE WHAT IT READS IS OF BULK AT MOST 1048576: true; the input reads as it did. -/
def widthKeepsUptoRow : OpenClaim := { program := "ytapamkefcfnbpaadoor", sum := "8a9ff32aea6523010df915d0c0b342e97276e3ba34415a6a8fee364dcda5c642", func := "bodkin/bodkinlaw02.WidthKeeps", spec := "widthKeeps", named := ["bodkin/width.plainZero", "bodkin/width.plainWide"], apart := false, laid := [("bodkin/width.plainZero", laid_bodkin_width_plainZero), ("bodkin/width.plainWide", laid_bodkin_width_plainWide)], narrowed := true }
def WidthKeepsUptoSaid : Prop := widthKeepsUptoRow.holds Tryd.pinned (OpenSpec.upto widthKeepsSpec)

/-- 'bodkinlaw02.WidthNil', WHERE WHAT IT READS IS OF BULK AT MOST 1048576: true; the input reads as it did. -/
def widthNilUptoRow : OpenClaim := { program := "ytapamkefcfnbpaadoor", sum := "8a9ff32aea6523010df915d0c0b342e97276e3ba34415a6a8fee364dcda5c642", func := "bodkin/bodkinlaw02.WidthNil", spec := "widthNil", named := ["bodkin/width.plainZero", "bodkin/width.plainWide"], apart := false, laid := [("bodkin/width.plainZero", laid_bodkin_width_plainZero), ("bodkin/width.plainWide", laid_bodkin_width_plainWide)], narrowed := true }
def WidthNilUptoSaid : Prop := widthNilUptoRow.holds Tryd.pinned (OpenSpec.upto widthNilSpec)

end Rows
end Go.Proofs.YtapamkefcfnbpaaDoor
