/-
  DERIVED. GIVEN WITH THE SEED: THE CARDS: each row of YtifhedfigbdgnaaGreatDoorRows.lean that lists a variable, with what it lists TIED to the program's text (the seventh form; the later family's looks); each row that meets fmt, with fmt's text TOLD by the authors' own Lean function (tested against real Go, not proved from fmt's source: count such statements apart). THE CARD IS WHAT COUNTS. Prove the row's statement (the work); the ties are given (YtifhedfigbdgnaaGreatDoorTie.lean); close each card by the builder's one call (the guide's Derived/Test/ToyasCard.lean, 'card_holds'). Laid BY PROGRAM, IN A SANDBOX (cutbox-door.mjs). By AI agents, Wed Nov 11 2026. No macro, syntax, notation, axiom, sorry.
-/
import Derived.Test.YtifhedfigbdgnaaGreatDoorRows
import GoSem.ClaimSeven
namespace Go.Proofs.YtifhedfigbdgnaaGreatDoor
namespace Rows

/-- THE TIED CARD OF 'htmltreelaw.Opened'. -/
def openedCard : Claim7 := { stood := { row := openedRow, standIns := [], harness := (true, "87103a50a5f24e70a8e3f9a0f38c6603da518cbc45b0826841f49b3d16580ed5"), looks := true }, kinds := [], alts := [], laidByText := true, laidKinds := [.data, .handle, .pinned], laidTests := true, laidLooks := .later }
def OpenedCardSaid : Prop := Claim7.holds Tryz.pinned (.plain (OpenSpec.ofChange openedSpec)) openedCard

/-- THE TIED CARD OF 'htmltreelaw.Spans'. -/
def spansCard : Claim7 := { stood := { row := spansRow, standIns := [], harness := (true, "87103a50a5f24e70a8e3f9a0f38c6603da518cbc45b0826841f49b3d16580ed5"), looks := true }, kinds := [], alts := [], laidByText := true, laidKinds := [.data, .handle, .pinned], laidTests := true, laidLooks := .later }
def SpansCardSaid : Prop := Claim7.holds Tryz.pinned (.plain (OpenSpec.ofChange spansSpec)) spansCard

/-- THE TIED CARD OF 'htmltreelaw.Stops'. -/
def stopsCard : Claim7 := { stood := { row := stopsRow, standIns := [], harness := (true, "87103a50a5f24e70a8e3f9a0f38c6603da518cbc45b0826841f49b3d16580ed5"), looks := true }, kinds := [], alts := [], laidByText := true, laidKinds := [.data, .handle, .pinned], laidTests := true, laidLooks := .later }
def StopsCardSaid : Prop := Claim7.holds Tryz.pinned (.plain (OpenSpec.ofChange stopsSpec)) stopsCard

/-- THE TIED CARD OF 'htmltreelaw.Tallies'. -/
def talliesCard : Claim7 := { stood := { row := talliesRow, standIns := [], harness := (true, "87103a50a5f24e70a8e3f9a0f38c6603da518cbc45b0826841f49b3d16580ed5"), looks := true }, kinds := [], alts := [], laidByText := true, laidKinds := [.data, .handle, .pinned], laidTests := true, laidLooks := .later }
def TalliesCardSaid : Prop := Claim7.holds Tryz.pinned (.plain (OpenSpec.ofChange talliesSpec)) talliesCard

/-- THE TIED CARD OF 'htmltreekeep.Pieces'. -/
def piecesCard : Claim7 := { stood := { row := piecesRow, standIns := [], harness := (true, "87103a50a5f24e70a8e3f9a0f38c6603da518cbc45b0826841f49b3d16580ed5"), looks := true }, kinds := [], alts := [], laidByText := true, laidKinds := [.data, .handle, .pinned], laidTests := true, laidLooks := .later }
def PiecesCardSaid : Prop := Claim7.holds Tryz.pinned (.plain (OpenSpec.ofChange piecesSpec)) piecesCard

/-- THE TIED CARD OF 'htmltreekeep.Trailed'. -/
def trailedCard : Claim7 := { stood := { row := trailedRow, standIns := [], harness := (true, "87103a50a5f24e70a8e3f9a0f38c6603da518cbc45b0826841f49b3d16580ed5"), looks := true }, kinds := [], alts := [], laidByText := true, laidKinds := [.data, .handle, .pinned], laidTests := true, laidLooks := .later }
def TrailedCardSaid : Prop := Claim7.holds Tryz.pinned (.plain (OpenSpec.ofChange trailedSpec)) trailedCard

/-- THE SECOND FORM's CARD OF 'htmltreelaw.Opened'. -/
def openedUptoCard : Claim7 := { stood := { row := openedUptoRow, standIns := [], harness := (true, "87103a50a5f24e70a8e3f9a0f38c6603da518cbc45b0826841f49b3d16580ed5"), looks := true }, kinds := [], alts := [], laidByText := true, laidKinds := [.data, .handle, .pinned], laidTests := true, laidLooks := .later }
def OpenedUptoCardSaid : Prop := Claim7.holds Tryz.pinned (.plain (OpenSpec.upto openedSpec)) openedUptoCard

/-- THE SECOND FORM's CARD OF 'htmltreelaw.Spans'. -/
def spansUptoCard : Claim7 := { stood := { row := spansUptoRow, standIns := [], harness := (true, "87103a50a5f24e70a8e3f9a0f38c6603da518cbc45b0826841f49b3d16580ed5"), looks := true }, kinds := [], alts := [], laidByText := true, laidKinds := [.data, .handle, .pinned], laidTests := true, laidLooks := .later }
def SpansUptoCardSaid : Prop := Claim7.holds Tryz.pinned (.plain (OpenSpec.upto spansSpec)) spansUptoCard

/-- THE SECOND FORM's CARD OF 'htmltreelaw.Stops'. -/
def stopsUptoCard : Claim7 := { stood := { row := stopsUptoRow, standIns := [], harness := (true, "87103a50a5f24e70a8e3f9a0f38c6603da518cbc45b0826841f49b3d16580ed5"), looks := true }, kinds := [], alts := [], laidByText := true, laidKinds := [.data, .handle, .pinned], laidTests := true, laidLooks := .later }
def StopsUptoCardSaid : Prop := Claim7.holds Tryz.pinned (.plain (OpenSpec.upto stopsSpec)) stopsUptoCard

/-- THE SECOND FORM's CARD OF 'htmltreelaw.Tallies'. -/
def talliesUptoCard : Claim7 := { stood := { row := talliesUptoRow, standIns := [], harness := (true, "87103a50a5f24e70a8e3f9a0f38c6603da518cbc45b0826841f49b3d16580ed5"), looks := true }, kinds := [], alts := [], laidByText := true, laidKinds := [.data, .handle, .pinned], laidTests := true, laidLooks := .later }
def TalliesUptoCardSaid : Prop := Claim7.holds Tryz.pinned (.plain (OpenSpec.upto talliesSpec)) talliesUptoCard

/-- THE SECOND FORM's CARD OF 'htmltreekeep.Pieces'. -/
def piecesUptoCard : Claim7 := { stood := { row := piecesUptoRow, standIns := [], harness := (true, "87103a50a5f24e70a8e3f9a0f38c6603da518cbc45b0826841f49b3d16580ed5"), looks := true }, kinds := [], alts := [], laidByText := true, laidKinds := [.data, .handle, .pinned], laidTests := true, laidLooks := .later }
def PiecesUptoCardSaid : Prop := Claim7.holds Tryz.pinned (.plain (OpenSpec.upto piecesSpec)) piecesUptoCard

/-- THE SECOND FORM's CARD OF 'htmltreekeep.Trailed'. -/
def trailedUptoCard : Claim7 := { stood := { row := trailedUptoRow, standIns := [], harness := (true, "87103a50a5f24e70a8e3f9a0f38c6603da518cbc45b0826841f49b3d16580ed5"), looks := true }, kinds := [], alts := [], laidByText := true, laidKinds := [.data, .handle, .pinned], laidTests := true, laidLooks := .later }
def TrailedUptoCardSaid : Prop := Claim7.holds Tryz.pinned (.plain (OpenSpec.upto trailedSpec)) trailedUptoCard
end Rows
end Go.Proofs.YtifhedfigbdgnaaGreatDoor
