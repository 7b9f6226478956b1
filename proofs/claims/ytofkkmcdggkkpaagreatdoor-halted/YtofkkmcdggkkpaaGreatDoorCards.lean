/-
  DERIVED. GIVEN WITH THE SEED: THE CARDS: each row of YtofkkmcdggkkpaaGreatDoorRows.lean that lists a variable, with what it lists TIED to the program's text (the seventh form; the later family's looks); each row that meets fmt, with fmt's text TOLD by the authors' own Lean function (tested against real Go, not proved from fmt's source: count such statements apart). THE CARD IS WHAT COUNTS. Prove the row's statement (the work); the ties are given (YtofkkmcdggkkpaaGreatDoorTie.lean); close each card by the builder's one call (the guide's Derived/Test/ToyasCard.lean, 'card_holds'). Laid BY PROGRAM, IN A SANDBOX (cutbox-door.mjs). By AI agents, Wed Nov 11 2026. No macro, syntax, notation, axiom, sorry.
-/
import Derived.Test.YtofkkmcdggkkpaaGreatDoorRows
import GoSem.ClaimSeven
namespace Go.Proofs.YtofkkmcdggkkpaaGreatDoor
namespace Rows

/-- THE TIED CARD OF 'htmltreekeep.Halted'. -/
def haltedCard : Claim7 := { stood := { row := haltedRow, standIns := [], harness := (true, "bfdca6b851dfe2fd4c97c8fb41e9ab49a44b64aac59c75d1cc0dbe1011cfe7fb"), looks := true }, kinds := [], alts := [], laidByText := true, laidKinds := [.data, .handle, .listed, .data, .pinned], laidTests := true, laidLooks := .later }
def HaltedCardSaid : Prop := Claim7.holds Tryz.pinned (.plain (OpenSpec.ofChange haltedSpec)) haltedCard

/-- THE SECOND FORM's CARD OF 'htmltreekeep.Halted'. -/
def haltedUptoCard : Claim7 := { stood := { row := haltedUptoRow, standIns := [], harness := (true, "bfdca6b851dfe2fd4c97c8fb41e9ab49a44b64aac59c75d1cc0dbe1011cfe7fb"), looks := true }, kinds := [], alts := [], laidByText := true, laidKinds := [.data, .handle, .listed, .data, .pinned], laidTests := true, laidLooks := .later }
def HaltedUptoCardSaid : Prop := Claim7.holds Tryz.pinned (.plain (OpenSpec.upto haltedSpec)) haltedUptoCard
end Rows
end Go.Proofs.YtofkkmcdggkkpaaGreatDoor
