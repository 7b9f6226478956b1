/-
  DERIVED. GIVEN WITH THE SEED: THE CARDS: each row of YtnlmfklpebekdaaGreatDoorRows.lean that lists a variable, with what it lists TIED to the program's text (the seventh form; the later family's looks); each row that meets fmt, with fmt's text TOLD by the authors' own Lean function (tested against real Go, not proved from fmt's source: count such statements apart). THE CARD IS WHAT COUNTS. Prove the row's statement (the work); the ties are given (YtnlmfklpebekdaaGreatDoorTie.lean); close each card by the builder's one call (the guide's Derived/Test/ToyasCard.lean, 'card_holds'). Laid BY PROGRAM, IN A SANDBOX (cutbox-door.mjs). By AI agents, Wed Nov 11 2026. No macro, syntax, notation, axiom, sorry.
-/
import Derived.Test.YtnlmfklpebekdaaGreatDoorRows
import GoSem.ClaimSeven
namespace Go.Proofs.YtnlmfklpebekdaaGreatDoor
namespace Rows

/-- THE TIED CARD OF 'htmltreekeep.Pieces'. -/
def piecesCard : Claim7 := { stood := { row := piecesRow, standIns := [], harness := (true, "4ff11f39a1bb08ea68802a214a442e85827e0c3d33c4b73e82c62982530acbcd"), looks := true }, kinds := [], alts := [], laidByText := true, laidKinds := [.data, .handle, .pinned], laidTests := true, laidLooks := .later }
def PiecesCardSaid : Prop := Claim7.holds Tryz.pinned (.plain (OpenSpec.ofChange piecesSpec)) piecesCard

/-- THE TIED CARD OF 'htmltreekeep.Trailed'. -/
def trailedCard : Claim7 := { stood := { row := trailedRow, standIns := [], harness := (true, "4ff11f39a1bb08ea68802a214a442e85827e0c3d33c4b73e82c62982530acbcd"), looks := true }, kinds := [], alts := [], laidByText := true, laidKinds := [.data, .handle, .pinned], laidTests := true, laidLooks := .later }
def TrailedCardSaid : Prop := Claim7.holds Tryz.pinned (.plain (OpenSpec.ofChange trailedSpec)) trailedCard

/-- THE SECOND FORM's CARD OF 'htmltreekeep.Pieces'. -/
def piecesUptoCard : Claim7 := { stood := { row := piecesUptoRow, standIns := [], harness := (true, "4ff11f39a1bb08ea68802a214a442e85827e0c3d33c4b73e82c62982530acbcd"), looks := true }, kinds := [], alts := [], laidByText := true, laidKinds := [.data, .handle, .pinned], laidTests := true, laidLooks := .later }
def PiecesUptoCardSaid : Prop := Claim7.holds Tryz.pinned (.plain (OpenSpec.upto piecesSpec)) piecesUptoCard

/-- THE SECOND FORM's CARD OF 'htmltreekeep.Trailed'. -/
def trailedUptoCard : Claim7 := { stood := { row := trailedUptoRow, standIns := [], harness := (true, "4ff11f39a1bb08ea68802a214a442e85827e0c3d33c4b73e82c62982530acbcd"), looks := true }, kinds := [], alts := [], laidByText := true, laidKinds := [.data, .handle, .pinned], laidTests := true, laidLooks := .later }
def TrailedUptoCardSaid : Prop := Claim7.holds Tryz.pinned (.plain (OpenSpec.upto trailedSpec)) trailedUptoCard
end Rows
end Go.Proofs.YtnlmfklpebekdaaGreatDoor
