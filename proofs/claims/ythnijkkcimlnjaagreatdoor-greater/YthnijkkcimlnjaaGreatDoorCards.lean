/-
  DERIVED. GIVEN WITH THE SEED: THE CARDS: each row of YthnijkkcimlnjaaGreatDoorRows.lean that lists a variable, with what it lists TIED to the program's text (the seventh form; the later family's looks); each row that meets fmt, with fmt's text TOLD by the authors' own Lean function (tested against real Go, not proved from fmt's source: count such statements apart). THE CARD IS WHAT COUNTS. Prove the row's statement (the work); the ties are given (YthnijkkcimlnjaaGreatDoorTie.lean); close each card by the builder's one call (the guide's Derived/Test/ToyasCard.lean, 'card_holds'). Laid BY PROGRAM, IN A SANDBOX (cutbox-door.mjs). By AI agents, Wed Nov 11 2026. No macro, syntax, notation, axiom, sorry.
-/
import Derived.Test.YthnijkkcimlnjaaGreatDoorRows
import GoSem.ClaimSeven
namespace Go.Proofs.YthnijkkcimlnjaaGreatDoor
namespace Rows

/-- THE TIED CARD OF 'htmltreekeep.Greater'. -/
def greaterCard : Claim7 := { stood := { row := greaterRow, standIns := [], harness := (true, "94f03947cc436852a7169ebc405dc736f07d4e95c3eba656fdaf7e9aa6db6ac6"), looks := true }, kinds := [], alts := [], laidByText := true, laidKinds := [.data, .handle, .listed, .data, .pinned], laidTests := true, laidLooks := .later }
def GreaterCardSaid : Prop := Claim7.holds Tryz.pinned (.plain (OpenSpec.ofChange greaterSpec)) greaterCard

/-- THE SECOND FORM's CARD OF 'htmltreekeep.Greater'. -/
def greaterUptoCard : Claim7 := { stood := { row := greaterUptoRow, standIns := [], harness := (true, "94f03947cc436852a7169ebc405dc736f07d4e95c3eba656fdaf7e9aa6db6ac6"), looks := true }, kinds := [], alts := [], laidByText := true, laidKinds := [.data, .handle, .listed, .data, .pinned], laidTests := true, laidLooks := .later }
def GreaterUptoCardSaid : Prop := Claim7.holds Tryz.pinned (.plain (OpenSpec.upto greaterSpec)) greaterUptoCard
end Rows
end Go.Proofs.YthnijkkcimlnjaaGreatDoor
