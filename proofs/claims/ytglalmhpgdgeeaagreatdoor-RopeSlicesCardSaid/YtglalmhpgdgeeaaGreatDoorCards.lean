/-
  DERIVED. GIVEN WITH THE SEED: THE CARDS: each row of YtglalmhpgdgeeaaGreatDoorRows.lean that lists a variable, with what it lists TIED to the program's text (the seventh form; the later family's looks); each row that meets fmt, with fmt's text TOLD by the authors' own Lean function (tested against real Go, not proved from fmt's source: count such statements apart). THE CARD IS WHAT COUNTS. Prove the row's statement (the work); the ties are given (YtglalmhpgdgeeaaGreatDoorTie.lean); close each card by the builder's one call (the guide's Derived/Test/ToyasCard.lean, 'card_holds'). Laid BY PROGRAM, IN A SANDBOX (cutbox-door.mjs). By AI agents, Wed Nov 11 2026. No macro, syntax, notation, axiom, sorry.
-/
import Derived.Test.YtglalmhpgdgeeaaGreatDoorRows
import GoSem.ClaimSeven
namespace Go.Proofs.YtglalmhpgdgeeaaGreatDoor
namespace Rows

/-- THE TIED CARD OF 'bodkinlaw07.RopeSlices'. -/
def ropeSlicesCard : Claim7 := { stood := { row := ropeSlicesRow, standIns := [], harness := (true, "ce741a37725ffc549041280178b37b8d6b65afbc9e439d1ade346afb0c8dbf04"), looks := true }, kinds := [], alts := [], laidByText := true, laidKinds := [.data, .pinned], laidTests := true, laidLooks := .later }
def RopeSlicesCardSaid : Prop := Claim7.holds Tryz.pinned (.plain (OpenSpec.ofChange ropeSlicesSpec)) ropeSlicesCard

/-- THE SECOND FORM's CARD OF 'bodkinlaw07.RopeSlices'. -/
def ropeSlicesUptoCard : Claim7 := { stood := { row := ropeSlicesUptoRow, standIns := [], harness := (true, "ce741a37725ffc549041280178b37b8d6b65afbc9e439d1ade346afb0c8dbf04"), looks := true }, kinds := [], alts := [], laidByText := true, laidKinds := [.data, .pinned], laidTests := true, laidLooks := .later }
def RopeSlicesUptoCardSaid : Prop := Claim7.holds Tryz.pinned (.plain (OpenSpec.upto ropeSlicesSpec)) ropeSlicesUptoCard
end Rows
end Go.Proofs.YtglalmhpgdgeeaaGreatDoor
