/-
  DERIVED. GIVEN WITH THE SEED: THE CARDS: each row of YtpnjokhhbjpciaaGreatDoorRows.lean that lists a variable, with what it lists TIED to the program's text (the seventh form; the later family's looks); each row that meets fmt, with fmt's text TOLD by the authors' own Lean function (tested against real Go, not proved from fmt's source: count such statements apart). THE CARD IS WHAT COUNTS. Prove the row's statement (the work); the ties are given (YtpnjokhhbjpciaaGreatDoorTie.lean); close each card by the builder's one call (the guide's Derived/Test/ToyasCard.lean, 'card_holds'). Laid BY PROGRAM, IN A SANDBOX (cutbox-door.mjs). By AI agents, Wed Nov 11 2026. No macro, syntax, notation, axiom, sorry.
-/
import Derived.Test.YtpnjokhhbjpciaaGreatDoorRows
import GoSem.ClaimSeven
namespace Go.Proofs.YtpnjokhhbjpciaaGreatDoor
namespace Rows

/-- THE TIED CARD OF 'bodkinlaw21.SourceAt'. -/
def sourceAtCard : Claim7 := { stood := { row := sourceAtRow, standIns := [], harness := (true, "4d76f3e245ff11c03bdf19c0160fd97849785268970eff430f9edab404274e97"), looks := true }, kinds := [], alts := [], laidByText := true, laidKinds := [.data, .pinned], laidTests := true, laidLooks := .later }
def SourceAtCardSaid : Prop := Claim7.holds Tryz.pinned (.plain (OpenSpec.ofChange sourceAtSpec)) sourceAtCard

/-- THE TIED CARD OF 'bodkinlaw21.SourceNil'. -/
def sourceNilCard : Claim7 := { stood := { row := sourceNilRow, standIns := [], harness := (true, "4d76f3e245ff11c03bdf19c0160fd97849785268970eff430f9edab404274e97"), looks := true }, kinds := [], alts := [], laidByText := true, laidKinds := [.data, .pinned], laidTests := true, laidLooks := .later }
def SourceNilCardSaid : Prop := Claim7.holds Tryz.pinned (.plain (OpenSpec.ofChange sourceNilSpec)) sourceNilCard

/-- THE TIED CARD OF 'bodkinlaw27.WindowLines'. -/
def windowLinesCard : Claim7 := { stood := { row := windowLinesRow, standIns := [], harness := (true, "4d76f3e245ff11c03bdf19c0160fd97849785268970eff430f9edab404274e97"), looks := true }, kinds := [], alts := [], laidByText := true, laidKinds := [.data, .pinned], laidTests := true, laidLooks := .later }
def WindowLinesCardSaid : Prop := Claim7.holds Tryz.pinned (.plain (OpenSpec.ofChange windowLinesSpec)) windowLinesCard

/-- THE TIED CARD OF 'bodkinlaw27.WindowAll'. -/
def windowAllCard : Claim7 := { stood := { row := windowAllRow, standIns := [], harness := (true, "4d76f3e245ff11c03bdf19c0160fd97849785268970eff430f9edab404274e97"), looks := true }, kinds := [], alts := [], laidByText := true, laidKinds := [.data, .pinned], laidTests := true, laidLooks := .later }
def WindowAllCardSaid : Prop := Claim7.holds Tryz.pinned (.plain (OpenSpec.ofChange windowAllSpec)) windowAllCard

/-- THE SECOND FORM's CARD OF 'bodkinlaw21.SourceAt'. -/
def sourceAtUptoCard : Claim7 := { stood := { row := sourceAtUptoRow, standIns := [], harness := (true, "4d76f3e245ff11c03bdf19c0160fd97849785268970eff430f9edab404274e97"), looks := true }, kinds := [], alts := [], laidByText := true, laidKinds := [.data, .pinned], laidTests := true, laidLooks := .later }
def SourceAtUptoCardSaid : Prop := Claim7.holds Tryz.pinned (.plain (OpenSpec.upto sourceAtSpec)) sourceAtUptoCard

/-- THE SECOND FORM's CARD OF 'bodkinlaw21.SourceNil'. -/
def sourceNilUptoCard : Claim7 := { stood := { row := sourceNilUptoRow, standIns := [], harness := (true, "4d76f3e245ff11c03bdf19c0160fd97849785268970eff430f9edab404274e97"), looks := true }, kinds := [], alts := [], laidByText := true, laidKinds := [.data, .pinned], laidTests := true, laidLooks := .later }
def SourceNilUptoCardSaid : Prop := Claim7.holds Tryz.pinned (.plain (OpenSpec.upto sourceNilSpec)) sourceNilUptoCard

/-- THE SECOND FORM's CARD OF 'bodkinlaw27.WindowLines'. -/
def windowLinesUptoCard : Claim7 := { stood := { row := windowLinesUptoRow, standIns := [], harness := (true, "4d76f3e245ff11c03bdf19c0160fd97849785268970eff430f9edab404274e97"), looks := true }, kinds := [], alts := [], laidByText := true, laidKinds := [.data, .pinned], laidTests := true, laidLooks := .later }
def WindowLinesUptoCardSaid : Prop := Claim7.holds Tryz.pinned (.plain (OpenSpec.upto windowLinesSpec)) windowLinesUptoCard

/-- THE SECOND FORM's CARD OF 'bodkinlaw27.WindowAll'. -/
def windowAllUptoCard : Claim7 := { stood := { row := windowAllUptoRow, standIns := [], harness := (true, "4d76f3e245ff11c03bdf19c0160fd97849785268970eff430f9edab404274e97"), looks := true }, kinds := [], alts := [], laidByText := true, laidKinds := [.data, .pinned], laidTests := true, laidLooks := .later }
def WindowAllUptoCardSaid : Prop := Claim7.holds Tryz.pinned (.plain (OpenSpec.upto windowAllSpec)) windowAllUptoCard
end Rows
end Go.Proofs.YtpnjokhhbjpciaaGreatDoor
