/-
  DERIVED. GIVEN WITH THE SEED: THE CARDS: each row of YtlhhgenpcjjajaaGreatDoorRows.lean that lists a variable, with what it lists TIED to the program's text (the seventh form; the later family's looks); each row that meets fmt, with fmt's text TOLD by the authors' own Lean function (tested against real Go, not proved from fmt's source: count such statements apart). THE CARD IS WHAT COUNTS. Prove the row's statement (the work); the ties are given (YtlhhgenpcjjajaaGreatDoorTie.lean); close each card by the builder's one call (the guide's Derived/Test/ToyasCard.lean, 'card_holds'). Laid BY PROGRAM, IN A SANDBOX (cutbox-door.mjs). By AI agents, Wed Nov 11 2026. No macro, syntax, notation, axiom, sorry.
-/
import Derived.Test.YtlhhgenpcjjajaaGreatDoorRows
import GoSem.ClaimSeven
namespace Go.Proofs.YtlhhgenpcjjajaaGreatDoor
namespace Rows

/-- THE TIED CARD OF 'htmltreekeep.Pieces'. -/
def piecesCard : Claim7 := { stood := { row := piecesRow, standIns := [], harness := (true, "6f4df3e9e22ce90fc6e8df211faca7f287c030ab7cde39b8d03a271ee63e55fe"), looks := true }, kinds := [], alts := [], laidByText := true, laidKinds := [.data, .handle, .listed, .data, .pinned], laidTests := true, laidLooks := .later }
def PiecesCardSaid : Prop := Claim7.holds Tryz.pinned (.plain (OpenSpec.ofChange piecesSpec)) piecesCard

/-- THE TIED CARD OF 'htmltreekeep.Trailed'. -/
def trailedCard : Claim7 := { stood := { row := trailedRow, standIns := [], harness := (true, "6f4df3e9e22ce90fc6e8df211faca7f287c030ab7cde39b8d03a271ee63e55fe"), looks := true }, kinds := [], alts := [], laidByText := true, laidKinds := [.data, .handle, .listed, .data, .pinned], laidTests := true, laidLooks := .later }
def TrailedCardSaid : Prop := Claim7.holds Tryz.pinned (.plain (OpenSpec.ofChange trailedSpec)) trailedCard

/-- THE TIED CARD OF 'htmltreekeep.Signs'. -/
def signsCard : Claim7 := { stood := { row := signsRow, standIns := [], harness := (true, "6f4df3e9e22ce90fc6e8df211faca7f287c030ab7cde39b8d03a271ee63e55fe"), looks := true }, kinds := [], alts := [], laidByText := true, laidKinds := [.data, .handle, .listed, .data, .pinned], laidTests := true, laidLooks := .later }
def SignsCardSaid : Prop := Claim7.holds Tryz.pinned (.plain (OpenSpec.ofChange signsSpec)) signsCard

/-- THE TIED CARD OF 'htmltreekeep.Plain'. -/
def plainCard : Claim7 := { stood := { row := plainRow, standIns := [], harness := (true, "6f4df3e9e22ce90fc6e8df211faca7f287c030ab7cde39b8d03a271ee63e55fe"), looks := true }, kinds := [], alts := [], laidByText := true, laidKinds := [.data, .handle, .listed, .data, .pinned], laidTests := true, laidLooks := .later }
def PlainCardSaid : Prop := Claim7.holds Tryz.pinned (.plain (OpenSpec.ofChange plainSpec)) plainCard

/-- THE SECOND FORM's CARD OF 'htmltreekeep.Pieces'. -/
def piecesUptoCard : Claim7 := { stood := { row := piecesUptoRow, standIns := [], harness := (true, "6f4df3e9e22ce90fc6e8df211faca7f287c030ab7cde39b8d03a271ee63e55fe"), looks := true }, kinds := [], alts := [], laidByText := true, laidKinds := [.data, .handle, .listed, .data, .pinned], laidTests := true, laidLooks := .later }
def PiecesUptoCardSaid : Prop := Claim7.holds Tryz.pinned (.plain (OpenSpec.upto piecesSpec)) piecesUptoCard

/-- THE SECOND FORM's CARD OF 'htmltreekeep.Trailed'. -/
def trailedUptoCard : Claim7 := { stood := { row := trailedUptoRow, standIns := [], harness := (true, "6f4df3e9e22ce90fc6e8df211faca7f287c030ab7cde39b8d03a271ee63e55fe"), looks := true }, kinds := [], alts := [], laidByText := true, laidKinds := [.data, .handle, .listed, .data, .pinned], laidTests := true, laidLooks := .later }
def TrailedUptoCardSaid : Prop := Claim7.holds Tryz.pinned (.plain (OpenSpec.upto trailedSpec)) trailedUptoCard

/-- THE SECOND FORM's CARD OF 'htmltreekeep.Signs'. -/
def signsUptoCard : Claim7 := { stood := { row := signsUptoRow, standIns := [], harness := (true, "6f4df3e9e22ce90fc6e8df211faca7f287c030ab7cde39b8d03a271ee63e55fe"), looks := true }, kinds := [], alts := [], laidByText := true, laidKinds := [.data, .handle, .listed, .data, .pinned], laidTests := true, laidLooks := .later }
def SignsUptoCardSaid : Prop := Claim7.holds Tryz.pinned (.plain (OpenSpec.upto signsSpec)) signsUptoCard

/-- THE SECOND FORM's CARD OF 'htmltreekeep.Plain'. -/
def plainUptoCard : Claim7 := { stood := { row := plainUptoRow, standIns := [], harness := (true, "6f4df3e9e22ce90fc6e8df211faca7f287c030ab7cde39b8d03a271ee63e55fe"), looks := true }, kinds := [], alts := [], laidByText := true, laidKinds := [.data, .handle, .listed, .data, .pinned], laidTests := true, laidLooks := .later }
def PlainUptoCardSaid : Prop := Claim7.holds Tryz.pinned (.plain (OpenSpec.upto plainSpec)) plainUptoCard
end Rows
end Go.Proofs.YtlhhgenpcjjajaaGreatDoor
