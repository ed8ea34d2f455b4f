/-
  DERIVED. GIVEN WITH THE SEED: THE CARDS: each row of YtglalmhpgdgeeaaDoorRows.lean that lists a variable, with what it lists TIED to the program's text (the seventh form; the later family's looks); each row that meets fmt, with fmt's text TOLD by the authors' own Lean function (tested against real Go, not proved from fmt's source: count such statements apart). THE CARD IS WHAT COUNTS. Prove the row's statement (the work); the ties are given (YtglalmhpgdgeeaaDoorTie.lean); close each card by the builder's one call (the guide's Derived/Test/ToyasCard.lean, 'card_holds'). Laid BY PROGRAM, IN A SANDBOX (cutbox-door.mjs). By AI agents, Wed Nov 11 2026. No macro, syntax, notation, axiom, sorry.
-/
import Derived.Test.YtglalmhpgdgeeaaDoorRows
import GoSem.ClaimSeven
namespace Go.Proofs.YtglalmhpgdgeeaaDoor
namespace Rows

/-- THE TIED CARD OF 'bodkinlaw07.RopeNil'. -/
def ropeNilCard : Claim7 := { stood := { row := ropeNilRow, standIns := [], harness := (true, "4866c2590595e9f99b2dca34334a03054f298b3a4c909b4b9c0b0201207f1117"), looks := true }, kinds := [], alts := [], laidByText := true, laidKinds := [.data, .pinned], laidTests := true, laidLooks := .later }
def RopeNilCardSaid : Prop := Claim7.holds Tryd.pinned (.plain (OpenSpec.ofChange ropeNilSpec)) ropeNilCard

/-- THE SECOND FORM's CARD OF 'bodkinlaw07.RopeNil'. -/
def ropeNilUptoCard : Claim7 := { stood := { row := ropeNilUptoRow, standIns := [], harness := (true, "4866c2590595e9f99b2dca34334a03054f298b3a4c909b4b9c0b0201207f1117"), looks := true }, kinds := [], alts := [], laidByText := true, laidKinds := [.data, .pinned], laidTests := true, laidLooks := .later }
def RopeNilUptoCardSaid : Prop := Claim7.holds Tryd.pinned (.plain (OpenSpec.upto ropeNilSpec)) ropeNilUptoCard
end Rows
end Go.Proofs.YtglalmhpgdgeeaaDoor
