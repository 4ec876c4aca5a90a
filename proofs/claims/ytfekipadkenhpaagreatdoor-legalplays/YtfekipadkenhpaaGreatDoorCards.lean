/-
  DERIVED. GIVEN WITH THE SEED: THE CARDS: each row of YtfekipadkenhpaaGreatDoorRows.lean that lists a variable, with what it lists TIED to the program's text (the seventh form; the later family's looks); each row that meets fmt, with fmt's text TOLD by the authors' own Lean function (tested against real Go, not proved from fmt's source: count such statements apart). THE CARD IS WHAT COUNTS. Prove the row's statement (the work); the ties are given (YtfekipadkenhpaaGreatDoorTie.lean); close each card by the builder's one call (the guide's Derived/Test/ToyasCard.lean, 'card_holds'). Laid BY PROGRAM, IN A SANDBOX (cutbox-door.mjs). By AI agents, Wed Nov 11 2026. No macro, syntax, notation, axiom, sorry.
-/
import Derived.Test.YtfekipadkenhpaaGreatDoorRows
import GoSem.ClaimSeven
namespace Go.Proofs.YtfekipadkenhpaaGreatDoor
namespace Rows

/-- THE TIED CARD OF 'alfillaw11.LegalMoves'. -/
def legalMovesCard : Claim7 := { stood := { row := legalMovesRow, standIns := [], harness := (true, "78dc863a48aaa7b6e65d05f47cff43b22749df65c01820b755c11ed7a540c0a8"), looks := false }, kinds := [], alts := [], laidByText := true, laidKinds := [.data, .data, .data, .data, .data, .data, .data, .data, .data], laidTests := true, laidLooks := .later }
def LegalMovesCardSaid : Prop := Claim7.holds Tryz.pinned (.plain (OpenSpec.ofChange legalMovesSpec)) legalMovesCard

/-- THE TIED CARD OF 'alfillaw11.LegalPlays'. -/
def legalPlaysCard : Claim7 := { stood := { row := legalPlaysRow, standIns := [], harness := (true, "78dc863a48aaa7b6e65d05f47cff43b22749df65c01820b755c11ed7a540c0a8"), looks := false }, kinds := [], alts := [], laidByText := true, laidKinds := [.data, .data, .data, .data, .data, .data, .data, .data, .data], laidTests := true, laidLooks := .later }
def LegalPlaysCardSaid : Prop := Claim7.holds Tryz.pinned (.plain (OpenSpec.ofChange legalPlaysSpec)) legalPlaysCard

/-- THE TIED CARD OF 'alfillaw11.LegalRight'. -/
def legalRightCard : Claim7 := { stood := { row := legalRightRow, standIns := [], harness := (true, "78dc863a48aaa7b6e65d05f47cff43b22749df65c01820b755c11ed7a540c0a8"), looks := false }, kinds := [], alts := [], laidByText := true, laidKinds := [.data, .data, .data, .data, .data, .data, .data, .data, .data], laidTests := true, laidLooks := .later }
def LegalRightCardSaid : Prop := Claim7.holds Tryz.pinned (.plain (OpenSpec.ofChange legalRightSpec)) legalRightCard

/-- THE TIED CARD OF 'alfillaw11.LegalFlights'. -/
def legalFlightsCard : Claim7 := { stood := { row := legalFlightsRow, standIns := [], harness := (true, "78dc863a48aaa7b6e65d05f47cff43b22749df65c01820b755c11ed7a540c0a8"), looks := false }, kinds := [], alts := [], laidByText := true, laidKinds := [.data, .data, .data, .data, .data, .data, .data, .data, .data], laidTests := true, laidLooks := .later }
def LegalFlightsCardSaid : Prop := Claim7.holds Tryz.pinned (.plain (OpenSpec.ofChange legalFlightsSpec)) legalFlightsCard

/-- THE TIED CARD OF 'alfillaw11.LegalTurned'. -/
def legalTurnedCard : Claim7 := { stood := { row := legalTurnedRow, standIns := [], harness := (true, "78dc863a48aaa7b6e65d05f47cff43b22749df65c01820b755c11ed7a540c0a8"), looks := false }, kinds := [], alts := [], laidByText := true, laidKinds := [.data, .data, .data, .data, .data, .data, .data, .data, .data], laidTests := true, laidLooks := .later }
def LegalTurnedCardSaid : Prop := Claim7.holds Tryz.pinned (.plain (OpenSpec.ofChange legalTurnedSpec)) legalTurnedCard

/-- THE TIED CARD OF 'alfillaw11.LegalNil'. -/
def legalNilCard : Claim7 := { stood := { row := legalNilRow, standIns := [], harness := (true, "78dc863a48aaa7b6e65d05f47cff43b22749df65c01820b755c11ed7a540c0a8"), looks := false }, kinds := [], alts := [], laidByText := true, laidKinds := [.data, .data, .data, .data, .data, .data, .data, .data, .data], laidTests := true, laidLooks := .later }
def LegalNilCardSaid : Prop := Claim7.holds Tryz.pinned (.plain (OpenSpec.ofChange legalNilSpec)) legalNilCard

/-- THE SECOND FORM's CARD OF 'alfillaw11.LegalMoves'. -/
def legalMovesUptoCard : Claim7 := { stood := { row := legalMovesUptoRow, standIns := [], harness := (true, "78dc863a48aaa7b6e65d05f47cff43b22749df65c01820b755c11ed7a540c0a8"), looks := false }, kinds := [], alts := [], laidByText := true, laidKinds := [.data, .data, .data, .data, .data, .data, .data, .data, .data], laidTests := true, laidLooks := .later }
def LegalMovesUptoCardSaid : Prop := Claim7.holds Tryz.pinned (.plain (OpenSpec.upto legalMovesSpec)) legalMovesUptoCard

/-- THE SECOND FORM's CARD OF 'alfillaw11.LegalPlays'. -/
def legalPlaysUptoCard : Claim7 := { stood := { row := legalPlaysUptoRow, standIns := [], harness := (true, "78dc863a48aaa7b6e65d05f47cff43b22749df65c01820b755c11ed7a540c0a8"), looks := false }, kinds := [], alts := [], laidByText := true, laidKinds := [.data, .data, .data, .data, .data, .data, .data, .data, .data], laidTests := true, laidLooks := .later }
def LegalPlaysUptoCardSaid : Prop := Claim7.holds Tryz.pinned (.plain (OpenSpec.upto legalPlaysSpec)) legalPlaysUptoCard

/-- THE SECOND FORM's CARD OF 'alfillaw11.LegalRight'. -/
def legalRightUptoCard : Claim7 := { stood := { row := legalRightUptoRow, standIns := [], harness := (true, "78dc863a48aaa7b6e65d05f47cff43b22749df65c01820b755c11ed7a540c0a8"), looks := false }, kinds := [], alts := [], laidByText := true, laidKinds := [.data, .data, .data, .data, .data, .data, .data, .data, .data], laidTests := true, laidLooks := .later }
def LegalRightUptoCardSaid : Prop := Claim7.holds Tryz.pinned (.plain (OpenSpec.upto legalRightSpec)) legalRightUptoCard

/-- THE SECOND FORM's CARD OF 'alfillaw11.LegalFlights'. -/
def legalFlightsUptoCard : Claim7 := { stood := { row := legalFlightsUptoRow, standIns := [], harness := (true, "78dc863a48aaa7b6e65d05f47cff43b22749df65c01820b755c11ed7a540c0a8"), looks := false }, kinds := [], alts := [], laidByText := true, laidKinds := [.data, .data, .data, .data, .data, .data, .data, .data, .data], laidTests := true, laidLooks := .later }
def LegalFlightsUptoCardSaid : Prop := Claim7.holds Tryz.pinned (.plain (OpenSpec.upto legalFlightsSpec)) legalFlightsUptoCard

/-- THE SECOND FORM's CARD OF 'alfillaw11.LegalTurned'. -/
def legalTurnedUptoCard : Claim7 := { stood := { row := legalTurnedUptoRow, standIns := [], harness := (true, "78dc863a48aaa7b6e65d05f47cff43b22749df65c01820b755c11ed7a540c0a8"), looks := false }, kinds := [], alts := [], laidByText := true, laidKinds := [.data, .data, .data, .data, .data, .data, .data, .data, .data], laidTests := true, laidLooks := .later }
def LegalTurnedUptoCardSaid : Prop := Claim7.holds Tryz.pinned (.plain (OpenSpec.upto legalTurnedSpec)) legalTurnedUptoCard

/-- THE SECOND FORM's CARD OF 'alfillaw11.LegalNil'. -/
def legalNilUptoCard : Claim7 := { stood := { row := legalNilUptoRow, standIns := [], harness := (true, "78dc863a48aaa7b6e65d05f47cff43b22749df65c01820b755c11ed7a540c0a8"), looks := false }, kinds := [], alts := [], laidByText := true, laidKinds := [.data, .data, .data, .data, .data, .data, .data, .data, .data], laidTests := true, laidLooks := .later }
def LegalNilUptoCardSaid : Prop := Claim7.holds Tryz.pinned (.plain (OpenSpec.upto legalNilSpec)) legalNilUptoCard
end Rows
end Go.Proofs.YtfekipadkenhpaaGreatDoor
