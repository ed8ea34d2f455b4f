/-
  No cell of these rows narrows 'for every input' (looked for: loops, veiled, ifaces, maps, wideKeys, modest, calm, conditions, laid).
  DERIVED. THE GIVEN ROWS OF THIS SEAT. 12 by the template 'for every input the law returns true; each argument reads behind the call as it read before'; 0 by the template 'total and deterministic' (their statements: YtjkkngldiimkjaaGreatTotals.lean).
  GIVEN WITH THE SEED: the statements are not yours to turn. If you find one false, say at which input.
  Laid BY PROGRAM, IN A SANDBOX (cutbox-rows.mjs): the forced cells as the released guide's own fill.sh prints them over the translation 6a1c0350a146cfea… (all of the seat's roots in one cut). By AI agents, Wed Nov 11 2026. No macro, syntax, notation, axiom, sorry.
-/
import Derived.Test.YtjkkngldiimkjaaGreatChecked
import GoSem.Claim
import GoSem.ClaimJoined
import GoSem.ClaimMapViews
import Derived.JoinedTies
import Derived.KernelRfl
namespace Go.Proofs.YtjkkngldiimkjaaGreat
/- THE CELL 'sum', in the pinned program and in every row, IS THE sha256 OF THE DUMP (.gsa) THAT YtjkkngldiimkjaaGreatProg.lean LOADS. Nothing in Lean hashes anything: it is a label: what it is worth is what the hold of that sum in a sandbox is worth. -/
noncomputable def Tryz.pinned : Pinned := { name := "ytjkkngldiimkjaagreat", sum := "6a1c0350a146cfea35a6587c3f9ef51c9ccd769d757666ad1b398c1844beb85f", checked := Tryz.checked }
namespace Rows
def none {H : Type} : Left H := { results := [], args := [] }

/-- 'bodkinlaw14.WeaveNew': WHATEVER THE INPUT: true; the input reads as it did. -/
def weaveNewSpec : ChangeSpec := { name := "weaveNew", fn := fun _ => fun
  | [d1, d2] => { results := [.lit (.bool true)], args := [d1, d2] }
  | _ => none }
def weaveNewRow : OpenClaim := { program := "ytjkkngldiimkjaagreat", sum := "6a1c0350a146cfea35a6587c3f9ef51c9ccd769d757666ad1b398c1844beb85f", func := "bodkin/bodkinlaw14.WeaveNew", spec := "weaveNew", inPlace := ["internal/bytealg.IndexByteString", "internal/bytealg.IndexString", "internal/abi.NoEscape", "internal/bytealg.MakeNoZero"], unfollowed := true, recurses := true, named := ["internal/bytealg.MaxLen"], apart := false }
def WeaveNewSaid : Prop := weaveNewRow.holds Tryz.pinned (OpenSpec.ofChange weaveNewSpec)

/-- ITS FALSE NEIGHBOUR: 'it returns false'. Refute it at one input. -/
def weaveNewWrong : ChangeSpec := { name := "weaveNew", fn := fun _ => fun
  | [d1, d2] => { results := [.lit (.bool false)], args := [d1, d2] }
  | _ => none }
def WeaveNewWrongFalsely : Prop := weaveNewRow.holds Tryz.pinned (OpenSpec.ofChange weaveNewWrong)

/-- 'bodkinlaw14.WeavePlaces': WHATEVER THE INPUT: true; the input reads as it did. -/
def weavePlacesSpec : ChangeSpec := { name := "weavePlaces", fn := fun _ => fun
  | [d1, d2, d3] => { results := [.lit (.bool true)], args := [d1, d2, d3] }
  | _ => none }
def weavePlacesRow : OpenClaim := { program := "ytjkkngldiimkjaagreat", sum := "6a1c0350a146cfea35a6587c3f9ef51c9ccd769d757666ad1b398c1844beb85f", func := "bodkin/bodkinlaw14.WeavePlaces", spec := "weavePlaces", inPlace := ["internal/bytealg.IndexByteString", "internal/bytealg.IndexString", "internal/abi.NoEscape", "internal/bytealg.MakeNoZero"], unfollowed := true, recurses := true, named := ["internal/bytealg.MaxLen"], apart := false }
def WeavePlacesSaid : Prop := weavePlacesRow.holds Tryz.pinned (OpenSpec.ofChange weavePlacesSpec)

/-- ITS FALSE NEIGHBOUR: 'it returns false'. Refute it at one input. -/
def weavePlacesWrong : ChangeSpec := { name := "weavePlaces", fn := fun _ => fun
  | [d1, d2, d3] => { results := [.lit (.bool false)], args := [d1, d2, d3] }
  | _ => none }
def WeavePlacesWrongFalsely : Prop := weavePlacesRow.holds Tryz.pinned (OpenSpec.ofChange weavePlacesWrong)

/-- 'bodkinlaw14.WeaveThere': WHATEVER THE INPUT: true; the input reads as it did. -/
def weaveThereSpec : ChangeSpec := { name := "weaveThere", fn := fun _ => fun
  | [d1, d2] => { results := [.lit (.bool true)], args := [d1, d2] }
  | _ => none }
def weaveThereRow : OpenClaim := { program := "ytjkkngldiimkjaagreat", sum := "6a1c0350a146cfea35a6587c3f9ef51c9ccd769d757666ad1b398c1844beb85f", func := "bodkin/bodkinlaw14.WeaveThere", spec := "weaveThere", inPlace := ["internal/bytealg.IndexByteString", "internal/bytealg.IndexString", "internal/abi.NoEscape", "internal/bytealg.MakeNoZero"], unfollowed := true, recurses := true, named := ["internal/bytealg.MaxLen"], apart := false }
def WeaveThereSaid : Prop := weaveThereRow.holds Tryz.pinned (OpenSpec.ofChange weaveThereSpec)

/-- ITS FALSE NEIGHBOUR: 'it returns false'. Refute it at one input. -/
def weaveThereWrong : ChangeSpec := { name := "weaveThere", fn := fun _ => fun
  | [d1, d2] => { results := [.lit (.bool false)], args := [d1, d2] }
  | _ => none }
def WeaveThereWrongFalsely : Prop := weaveThereRow.holds Tryz.pinned (OpenSpec.ofChange weaveThereWrong)

/-- 'bodkinlaw14.WeaveSplices': WHATEVER THE INPUT: true; the input reads as it did. -/
def weaveSplicesSpec : ChangeSpec := { name := "weaveSplices", fn := fun _ => fun
  | [d1, d2, d3] => { results := [.lit (.bool true)], args := [d1, d2, d3] }
  | _ => none }
def weaveSplicesRow : OpenClaim := { program := "ytjkkngldiimkjaagreat", sum := "6a1c0350a146cfea35a6587c3f9ef51c9ccd769d757666ad1b398c1844beb85f", func := "bodkin/bodkinlaw14.WeaveSplices", spec := "weaveSplices", inPlace := ["internal/bytealg.IndexByteString", "internal/bytealg.IndexString", "internal/abi.NoEscape", "internal/bytealg.MakeNoZero"], unfollowed := true, recurses := true, named := ["internal/bytealg.MaxLen"], apart := false }
def WeaveSplicesSaid : Prop := weaveSplicesRow.holds Tryz.pinned (OpenSpec.ofChange weaveSplicesSpec)

/-- ITS FALSE NEIGHBOUR: 'it returns false'. Refute it at one input. -/
def weaveSplicesWrong : ChangeSpec := { name := "weaveSplices", fn := fun _ => fun
  | [d1, d2, d3] => { results := [.lit (.bool false)], args := [d1, d2, d3] }
  | _ => none }
def WeaveSplicesWrongFalsely : Prop := weaveSplicesRow.holds Tryz.pinned (OpenSpec.ofChange weaveSplicesWrong)

/-- 'bodkinlaw14.WeaveEdits': WHATEVER THE INPUT: true; the input reads as it did. -/
def weaveEditsSpec : ChangeSpec := { name := "weaveEdits", fn := fun _ => fun
  | [d1, d2, d3] => { results := [.lit (.bool true)], args := [d1, d2, d3] }
  | _ => none }
def weaveEditsRow : OpenClaim := { program := "ytjkkngldiimkjaagreat", sum := "6a1c0350a146cfea35a6587c3f9ef51c9ccd769d757666ad1b398c1844beb85f", func := "bodkin/bodkinlaw14.WeaveEdits", spec := "weaveEdits", inPlace := ["internal/bytealg.IndexByteString", "internal/bytealg.IndexString", "internal/abi.NoEscape", "internal/bytealg.MakeNoZero"], unfollowed := true, recurses := true, named := ["internal/bytealg.MaxLen"], apart := false }
def WeaveEditsSaid : Prop := weaveEditsRow.holds Tryz.pinned (OpenSpec.ofChange weaveEditsSpec)

/-- ITS FALSE NEIGHBOUR: 'it returns false'. Refute it at one input. -/
def weaveEditsWrong : ChangeSpec := { name := "weaveEdits", fn := fun _ => fun
  | [d1, d2, d3] => { results := [.lit (.bool false)], args := [d1, d2, d3] }
  | _ => none }
def WeaveEditsWrongFalsely : Prop := weaveEditsRow.holds Tryz.pinned (OpenSpec.ofChange weaveEditsWrong)

/-- 'bodkinlaw14.WeaveNil': WHATEVER THE INPUT: true; the input reads as it did. -/
def weaveNilSpec : ChangeSpec := { name := "weaveNil", fn := fun _ => fun
  | [d] => { results := [.lit (.bool true)], args := [d] }
  | _ => none }
def weaveNilRow : OpenClaim := { program := "ytjkkngldiimkjaagreat", sum := "6a1c0350a146cfea35a6587c3f9ef51c9ccd769d757666ad1b398c1844beb85f", func := "bodkin/bodkinlaw14.WeaveNil", spec := "weaveNil", inPlace := ["internal/bytealg.IndexByteString", "internal/bytealg.IndexString", "internal/abi.NoEscape", "internal/bytealg.MakeNoZero"], unfollowed := true, recurses := true, named := ["internal/bytealg.MaxLen"], apart := false }
def WeaveNilSaid : Prop := weaveNilRow.holds Tryz.pinned (OpenSpec.ofChange weaveNilSpec)

/-- ITS FALSE NEIGHBOUR: 'it returns false'. Refute it at one input. -/
def weaveNilWrong : ChangeSpec := { name := "weaveNil", fn := fun _ => fun
  | [d] => { results := [.lit (.bool false)], args := [d] }
  | _ => none }
def WeaveNilWrongFalsely : Prop := weaveNilRow.holds Tryz.pinned (OpenSpec.ofChange weaveNilWrong)

/-- 'bodkinlaw16.CreaseNew': WHATEVER THE INPUT: true; the input reads as it did. -/
def creaseNewSpec : ChangeSpec := { name := "creaseNew", fn := fun _ => fun
  | [d] => { results := [.lit (.bool true)], args := [d] }
  | _ => none }
def creaseNewRow : OpenClaim := { program := "ytjkkngldiimkjaagreat", sum := "6a1c0350a146cfea35a6587c3f9ef51c9ccd769d757666ad1b398c1844beb85f", func := "bodkin/bodkinlaw16.CreaseNew", spec := "creaseNew", inPlace := ["internal/bytealg.IndexByteString", "internal/bytealg.IndexString", "internal/abi.NoEscape", "internal/bytealg.MakeNoZero"], unfollowed := true, recurses := true, named := ["internal/bytealg.MaxLen"], apart := false }
def CreaseNewSaid : Prop := creaseNewRow.holds Tryz.pinned (OpenSpec.ofChange creaseNewSpec)

/-- ITS FALSE NEIGHBOUR: 'it returns false'. Refute it at one input. -/
def creaseNewWrong : ChangeSpec := { name := "creaseNew", fn := fun _ => fun
  | [d] => { results := [.lit (.bool false)], args := [d] }
  | _ => none }
def CreaseNewWrongFalsely : Prop := creaseNewRow.holds Tryz.pinned (OpenSpec.ofChange creaseNewWrong)

/-- 'bodkinlaw16.CreasePlaces': WHATEVER THE INPUT: true; the input reads as it did. -/
def creasePlacesSpec : ChangeSpec := { name := "creasePlaces", fn := fun _ => fun
  | [d1, d2] => { results := [.lit (.bool true)], args := [d1, d2] }
  | _ => none }
def creasePlacesRow : OpenClaim := { program := "ytjkkngldiimkjaagreat", sum := "6a1c0350a146cfea35a6587c3f9ef51c9ccd769d757666ad1b398c1844beb85f", func := "bodkin/bodkinlaw16.CreasePlaces", spec := "creasePlaces", inPlace := ["internal/bytealg.IndexByteString", "internal/bytealg.IndexString", "internal/abi.NoEscape", "internal/bytealg.MakeNoZero"], unfollowed := true, recurses := true, named := ["internal/bytealg.MaxLen"], apart := false }
def CreasePlacesSaid : Prop := creasePlacesRow.holds Tryz.pinned (OpenSpec.ofChange creasePlacesSpec)

/-- ITS FALSE NEIGHBOUR: 'it returns false'. Refute it at one input. -/
def creasePlacesWrong : ChangeSpec := { name := "creasePlaces", fn := fun _ => fun
  | [d1, d2] => { results := [.lit (.bool false)], args := [d1, d2] }
  | _ => none }
def CreasePlacesWrongFalsely : Prop := creasePlacesRow.holds Tryz.pinned (OpenSpec.ofChange creasePlacesWrong)

/-- 'bodkinlaw16.CreaseThere': WHATEVER THE INPUT: true; the input reads as it did. -/
def creaseThereSpec : ChangeSpec := { name := "creaseThere", fn := fun _ => fun
  | [d] => { results := [.lit (.bool true)], args := [d] }
  | _ => none }
def creaseThereRow : OpenClaim := { program := "ytjkkngldiimkjaagreat", sum := "6a1c0350a146cfea35a6587c3f9ef51c9ccd769d757666ad1b398c1844beb85f", func := "bodkin/bodkinlaw16.CreaseThere", spec := "creaseThere", inPlace := ["internal/bytealg.IndexByteString", "internal/bytealg.IndexString", "internal/abi.NoEscape", "internal/bytealg.MakeNoZero"], unfollowed := true, recurses := true, named := ["internal/bytealg.MaxLen"], apart := false }
def CreaseThereSaid : Prop := creaseThereRow.holds Tryz.pinned (OpenSpec.ofChange creaseThereSpec)

/-- ITS FALSE NEIGHBOUR: 'it returns false'. Refute it at one input. -/
def creaseThereWrong : ChangeSpec := { name := "creaseThere", fn := fun _ => fun
  | [d] => { results := [.lit (.bool false)], args := [d] }
  | _ => none }
def CreaseThereWrongFalsely : Prop := creaseThereRow.holds Tryz.pinned (OpenSpec.ofChange creaseThereWrong)

/-- 'bodkinlaw16.CreaseUpdates': WHATEVER THE INPUT: true; the input reads as it did. -/
def creaseUpdatesSpec : ChangeSpec := { name := "creaseUpdates", fn := fun _ => fun
  | [d1, d2] => { results := [.lit (.bool true)], args := [d1, d2] }
  | _ => none }
def creaseUpdatesRow : OpenClaim := { program := "ytjkkngldiimkjaagreat", sum := "6a1c0350a146cfea35a6587c3f9ef51c9ccd769d757666ad1b398c1844beb85f", func := "bodkin/bodkinlaw16.CreaseUpdates", spec := "creaseUpdates", inPlace := ["internal/bytealg.IndexByteString", "internal/bytealg.IndexString", "internal/abi.NoEscape", "internal/bytealg.MakeNoZero"], unfollowed := true, recurses := true, named := ["internal/bytealg.MaxLen"], apart := false }
def CreaseUpdatesSaid : Prop := creaseUpdatesRow.holds Tryz.pinned (OpenSpec.ofChange creaseUpdatesSpec)

/-- ITS FALSE NEIGHBOUR: 'it returns false'. Refute it at one input. -/
def creaseUpdatesWrong : ChangeSpec := { name := "creaseUpdates", fn := fun _ => fun
  | [d1, d2] => { results := [.lit (.bool false)], args := [d1, d2] }
  | _ => none }
def CreaseUpdatesWrongFalsely : Prop := creaseUpdatesRow.holds Tryz.pinned (OpenSpec.ofChange creaseUpdatesWrong)

/-- 'bodkinlaw16.CreaseFolds': WHATEVER THE INPUT: true; the input reads as it did. -/
def creaseFoldsSpec : ChangeSpec := { name := "creaseFolds", fn := fun _ => fun
  | [d1, d2] => { results := [.lit (.bool true)], args := [d1, d2] }
  | _ => none }
def creaseFoldsRow : OpenClaim := { program := "ytjkkngldiimkjaagreat", sum := "6a1c0350a146cfea35a6587c3f9ef51c9ccd769d757666ad1b398c1844beb85f", func := "bodkin/bodkinlaw16.CreaseFolds", spec := "creaseFolds", inPlace := ["internal/bytealg.IndexByteString", "internal/bytealg.IndexString", "internal/abi.NoEscape", "internal/bytealg.MakeNoZero"], unfollowed := true, recurses := true, named := ["internal/bytealg.MaxLen"], apart := false }
def CreaseFoldsSaid : Prop := creaseFoldsRow.holds Tryz.pinned (OpenSpec.ofChange creaseFoldsSpec)

/-- ITS FALSE NEIGHBOUR: 'it returns false'. Refute it at one input. -/
def creaseFoldsWrong : ChangeSpec := { name := "creaseFolds", fn := fun _ => fun
  | [d1, d2] => { results := [.lit (.bool false)], args := [d1, d2] }
  | _ => none }
def CreaseFoldsWrongFalsely : Prop := creaseFoldsRow.holds Tryz.pinned (OpenSpec.ofChange creaseFoldsWrong)

/-- 'bodkinlaw16.CreaseNil': WHATEVER THE INPUT: true; the input reads as it did. -/
def creaseNilSpec : ChangeSpec := { name := "creaseNil", fn := fun _ => fun
  | [d] => { results := [.lit (.bool true)], args := [d] }
  | _ => none }
def creaseNilRow : OpenClaim := { program := "ytjkkngldiimkjaagreat", sum := "6a1c0350a146cfea35a6587c3f9ef51c9ccd769d757666ad1b398c1844beb85f", func := "bodkin/bodkinlaw16.CreaseNil", spec := "creaseNil", inPlace := ["internal/bytealg.IndexByteString", "internal/bytealg.IndexString", "internal/abi.NoEscape", "internal/bytealg.MakeNoZero"], unfollowed := true, recurses := true, named := ["internal/bytealg.MaxLen"], apart := false }
def CreaseNilSaid : Prop := creaseNilRow.holds Tryz.pinned (OpenSpec.ofChange creaseNilSpec)

/-- ITS FALSE NEIGHBOUR: 'it returns false'. Refute it at one input. -/
def creaseNilWrong : ChangeSpec := { name := "creaseNil", fn := fun _ => fun
  | [d] => { results := [.lit (.bool false)], args := [d] }
  | _ => none }
def CreaseNilWrongFalsely : Prop := creaseNilRow.holds Tryz.pinned (OpenSpec.ofChange creaseNilWrong)

/- THE SECOND FORM. 'bulk': how many values and letters a reading holds, each counted each time it is reached (what is shared counts as often as it is met; a slice's spare places count too). A statement '..UptoSaid' is the law's where the arguments, and the package variables that the reading takes, are together of bulk at most 1048576: NARROWER than '..Said'. Prove '..Said' where nothing that the law and all that it calls make is longer than what came in: it says more and counts as full. Else prove '..UptoSaid'. A law counts once. -/
mutual
def uptoBulk {H : Type} : DataW H → Nat
  | .lit (.string bytes) => bytes.length + 1
  | .lit _ => 1
  | .nil => 1
  | .ptr d => uptoBulk d + 1
  | .slice elems spare => uptoBulkAll elems + uptoBulkAll spare + 1
  | .agg parts => uptoBulkAll parts + 1
  | .iface _ d => uptoBulk d + 1
  | .map entries => uptoBulkEntries entries + 1
  | .held _ => 1
def uptoBulkAll {H : Type} : List (DataW H) → Nat
  | [] => 0
  | d :: r => uptoBulk d + uptoBulkAll r
def uptoBulkEntries {H : Type} : List (Lit × DataW H) → Nat
  | [] => 0
  | x :: r => uptoBulkEntry x + uptoBulkEntries r
def uptoBulkEntry {H : Type} : Lit × DataW H → Nat
  | (.string bytes, d) => bytes.length + uptoBulk d + 1
  | (_, d) => uptoBulk d + 1
 end
def uptoSmall : (H : Type) → List (DataW H) → Bool := fun _ ds => decide (uptoBulkAll ds ≤ 1048576)
def OpenSpec.upto (s : _root_.Go.ChangeSpec) : _root_.Go.OpenSpec := { _root_.Go.OpenSpec.ofChange s with cond := some uptoSmall }

/-- 'bodkinlaw14.WeaveNew', WHERE WHAT IT READS IS OF BULK AT MOST 1048576: true; the input reads as it did. -/
def weaveNewUptoRow : OpenClaim := { program := "ytjkkngldiimkjaagreat", sum := "6a1c0350a146cfea35a6587c3f9ef51c9ccd769d757666ad1b398c1844beb85f", func := "bodkin/bodkinlaw14.WeaveNew", spec := "weaveNew", inPlace := ["internal/bytealg.IndexByteString", "internal/bytealg.IndexString", "internal/abi.NoEscape", "internal/bytealg.MakeNoZero"], unfollowed := true, recurses := true, named := ["internal/bytealg.MaxLen"], apart := false, narrowed := true }
def WeaveNewUptoSaid : Prop := weaveNewUptoRow.holds Tryz.pinned (OpenSpec.upto weaveNewSpec)

/-- 'bodkinlaw14.WeavePlaces', WHERE WHAT IT READS IS OF BULK AT MOST 1048576: true; the input reads as it did. -/
def weavePlacesUptoRow : OpenClaim := { program := "ytjkkngldiimkjaagreat", sum := "6a1c0350a146cfea35a6587c3f9ef51c9ccd769d757666ad1b398c1844beb85f", func := "bodkin/bodkinlaw14.WeavePlaces", spec := "weavePlaces", inPlace := ["internal/bytealg.IndexByteString", "internal/bytealg.IndexString", "internal/abi.NoEscape", "internal/bytealg.MakeNoZero"], unfollowed := true, recurses := true, named := ["internal/bytealg.MaxLen"], apart := false, narrowed := true }
def WeavePlacesUptoSaid : Prop := weavePlacesUptoRow.holds Tryz.pinned (OpenSpec.upto weavePlacesSpec)

/-- 'bodkinlaw14.WeaveThere', WHERE WHAT IT READS IS OF BULK AT MOST 1048576: true; the input reads as it did. -/
def weaveThereUptoRow : OpenClaim := { program := "ytjkkngldiimkjaagreat", sum := "6a1c0350a146cfea35a6587c3f9ef51c9ccd769d757666ad1b398c1844beb85f", func := "bodkin/bodkinlaw14.WeaveThere", spec := "weaveThere", inPlace := ["internal/bytealg.IndexByteString", "internal/bytealg.IndexString", "internal/abi.NoEscape", "internal/bytealg.MakeNoZero"], unfollowed := true, recurses := true, named := ["internal/bytealg.MaxLen"], apart := false, narrowed := true }
def WeaveThereUptoSaid : Prop := weaveThereUptoRow.holds Tryz.pinned (OpenSpec.upto weaveThereSpec)

/-- 'bodkinlaw14.WeaveSplices', WHERE WHAT IT READS IS OF BULK AT MOST 1048576: true; the input reads as it did. -/
def weaveSplicesUptoRow : OpenClaim := { program := "ytjkkngldiimkjaagreat", sum := "6a1c0350a146cfea35a6587c3f9ef51c9ccd769d757666ad1b398c1844beb85f", func := "bodkin/bodkinlaw14.WeaveSplices", spec := "weaveSplices", inPlace := ["internal/bytealg.IndexByteString", "internal/bytealg.IndexString", "internal/abi.NoEscape", "internal/bytealg.MakeNoZero"], unfollowed := true, recurses := true, named := ["internal/bytealg.MaxLen"], apart := false, narrowed := true }
def WeaveSplicesUptoSaid : Prop := weaveSplicesUptoRow.holds Tryz.pinned (OpenSpec.upto weaveSplicesSpec)

/-- 'bodkinlaw14.WeaveEdits', WHERE WHAT IT READS IS OF BULK AT MOST 1048576: true; the input reads as it did. -/
def weaveEditsUptoRow : OpenClaim := { program := "ytjkkngldiimkjaagreat", sum := "6a1c0350a146cfea35a6587c3f9ef51c9ccd769d757666ad1b398c1844beb85f", func := "bodkin/bodkinlaw14.WeaveEdits", spec := "weaveEdits", inPlace := ["internal/bytealg.IndexByteString", "internal/bytealg.IndexString", "internal/abi.NoEscape", "internal/bytealg.MakeNoZero"], unfollowed := true, recurses := true, named := ["internal/bytealg.MaxLen"], apart := false, narrowed := true }
def WeaveEditsUptoSaid : Prop := weaveEditsUptoRow.holds Tryz.pinned (OpenSpec.upto weaveEditsSpec)

/-- 'bodkinlaw14.WeaveNil', WHERE WHAT IT READS IS OF BULK AT MOST 1048576: true; the input reads as it did. -/
def weaveNilUptoRow : OpenClaim := { program := "ytjkkngldiimkjaagreat", sum := "6a1c0350a146cfea35a6587c3f9ef51c9ccd769d757666ad1b398c1844beb85f", func := "bodkin/bodkinlaw14.WeaveNil", spec := "weaveNil", inPlace := ["internal/bytealg.IndexByteString", "internal/bytealg.IndexString", "internal/abi.NoEscape", "internal/bytealg.MakeNoZero"], unfollowed := true, recurses := true, named := ["internal/bytealg.MaxLen"], apart := false, narrowed := true }
def WeaveNilUptoSaid : Prop := weaveNilUptoRow.holds Tryz.pinned (OpenSpec.upto weaveNilSpec)

/-- 'bodkinlaw16.CreaseNew', WHERE WHAT IT READS IS OF BULK AT MOST 1048576: true; the input reads as it did. -/
def creaseNewUptoRow : OpenClaim := { program := "ytjkkngldiimkjaagreat", sum := "6a1c0350a146cfea35a6587c3f9ef51c9ccd769d757666ad1b398c1844beb85f", func := "bodkin/bodkinlaw16.CreaseNew", spec := "creaseNew", inPlace := ["internal/bytealg.IndexByteString", "internal/bytealg.IndexString", "internal/abi.NoEscape", "internal/bytealg.MakeNoZero"], unfollowed := true, recurses := true, named := ["internal/bytealg.MaxLen"], apart := false, narrowed := true }
def CreaseNewUptoSaid : Prop := creaseNewUptoRow.holds Tryz.pinned (OpenSpec.upto creaseNewSpec)

/-- 'bodkinlaw16.CreasePlaces', WHERE WHAT IT READS IS OF BULK AT MOST 1048576: true; the input reads as it did. -/
def creasePlacesUptoRow : OpenClaim := { program := "ytjkkngldiimkjaagreat", sum := "6a1c0350a146cfea35a6587c3f9ef51c9ccd769d757666ad1b398c1844beb85f", func := "bodkin/bodkinlaw16.CreasePlaces", spec := "creasePlaces", inPlace := ["internal/bytealg.IndexByteString", "internal/bytealg.IndexString", "internal/abi.NoEscape", "internal/bytealg.MakeNoZero"], unfollowed := true, recurses := true, named := ["internal/bytealg.MaxLen"], apart := false, narrowed := true }
def CreasePlacesUptoSaid : Prop := creasePlacesUptoRow.holds Tryz.pinned (OpenSpec.upto creasePlacesSpec)

/-- 'bodkinlaw16.CreaseThere', WHERE WHAT IT READS IS OF BULK AT MOST 1048576: true; the input reads as it did. -/
def creaseThereUptoRow : OpenClaim := { program := "ytjkkngldiimkjaagreat", sum := "6a1c0350a146cfea35a6587c3f9ef51c9ccd769d757666ad1b398c1844beb85f", func := "bodkin/bodkinlaw16.CreaseThere", spec := "creaseThere", inPlace := ["internal/bytealg.IndexByteString", "internal/bytealg.IndexString", "internal/abi.NoEscape", "internal/bytealg.MakeNoZero"], unfollowed := true, recurses := true, named := ["internal/bytealg.MaxLen"], apart := false, narrowed := true }
def CreaseThereUptoSaid : Prop := creaseThereUptoRow.holds Tryz.pinned (OpenSpec.upto creaseThereSpec)

/-- 'bodkinlaw16.CreaseUpdates', WHERE WHAT IT READS IS OF BULK AT MOST 1048576: true; the input reads as it did. -/
def creaseUpdatesUptoRow : OpenClaim := { program := "ytjkkngldiimkjaagreat", sum := "6a1c0350a146cfea35a6587c3f9ef51c9ccd769d757666ad1b398c1844beb85f", func := "bodkin/bodkinlaw16.CreaseUpdates", spec := "creaseUpdates", inPlace := ["internal/bytealg.IndexByteString", "internal/bytealg.IndexString", "internal/abi.NoEscape", "internal/bytealg.MakeNoZero"], unfollowed := true, recurses := true, named := ["internal/bytealg.MaxLen"], apart := false, narrowed := true }
def CreaseUpdatesUptoSaid : Prop := creaseUpdatesUptoRow.holds Tryz.pinned (OpenSpec.upto creaseUpdatesSpec)

/-- 'bodkinlaw16.CreaseFolds', WHERE WHAT IT READS IS OF BULK AT MOST 1048576: true; the input reads as it did. -/
def creaseFoldsUptoRow : OpenClaim := { program := "ytjkkngldiimkjaagreat", sum := "6a1c0350a146cfea35a6587c3f9ef51c9ccd769d757666ad1b398c1844beb85f", func := "bodkin/bodkinlaw16.CreaseFolds", spec := "creaseFolds", inPlace := ["internal/bytealg.IndexByteString", "internal/bytealg.IndexString", "internal/abi.NoEscape", "internal/bytealg.MakeNoZero"], unfollowed := true, recurses := true, named := ["internal/bytealg.MaxLen"], apart := false, narrowed := true }
def CreaseFoldsUptoSaid : Prop := creaseFoldsUptoRow.holds Tryz.pinned (OpenSpec.upto creaseFoldsSpec)

/-- 'bodkinlaw16.CreaseNil', WHERE WHAT IT READS IS OF BULK AT MOST 1048576: true; the input reads as it did. -/
def creaseNilUptoRow : OpenClaim := { program := "ytjkkngldiimkjaagreat", sum := "6a1c0350a146cfea35a6587c3f9ef51c9ccd769d757666ad1b398c1844beb85f", func := "bodkin/bodkinlaw16.CreaseNil", spec := "creaseNil", inPlace := ["internal/bytealg.IndexByteString", "internal/bytealg.IndexString", "internal/abi.NoEscape", "internal/bytealg.MakeNoZero"], unfollowed := true, recurses := true, named := ["internal/bytealg.MaxLen"], apart := false, narrowed := true }
def CreaseNilUptoSaid : Prop := creaseNilUptoRow.holds Tryz.pinned (OpenSpec.upto creaseNilSpec)

end Rows
end Go.Proofs.YtjkkngldiimkjaaGreat
