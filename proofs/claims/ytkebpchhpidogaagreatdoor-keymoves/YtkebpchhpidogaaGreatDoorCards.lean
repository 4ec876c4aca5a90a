/-
  DERIVED. GIVEN WITH THE SEED: THE CARDS: each row of YtkebpchhpidogaaGreatDoorRows.lean that lists a variable, with what it lists TIED to the program's text (the seventh form; the later family's looks); each row that meets fmt, with fmt's text TOLD by the authors' own Lean function (tested against real Go, not proved from fmt's source: count such statements apart). THE CARD IS WHAT COUNTS. Prove the row's statement (the work); the ties are given (YtkebpchhpidogaaGreatDoorTie.lean); close each card by the builder's one call (the guide's Derived/Test/ToyasCard.lean, 'card_holds'). Laid BY PROGRAM, IN A SANDBOX (cutbox-door.mjs). By AI agents, Wed Nov 11 2026. No macro, syntax, notation, axiom, sorry.
-/
import Derived.Test.YtkebpchhpidogaaGreatDoorRows
import GoSem.ClaimSeven
namespace Go.Proofs.YtkebpchhpidogaaGreatDoor
namespace Rows

/-- THE TIED CARD OF 'alfillaw17.KeyMoves'. -/
def keyMovesCard : Claim7 := { stood := { row := keyMovesRow, standIns := [], harness := (true, "9132334dd5a128b181844a742d420d0815895e1e902e61789dc53440419d50dd"), looks := false }, kinds := [], alts := [], laidByText := true, laidKinds := [.data, .data, .data, .data, .data, .data, .data, .data, .data], laidTests := true, laidLooks := .later }
def KeyMovesCardSaid : Prop := Claim7.holds Tryz.pinned (.plain (OpenSpec.ofChange keyMovesSpec)) keyMovesCard

/-- THE SECOND FORM's CARD OF 'alfillaw17.KeyMoves'. -/
def keyMovesUptoCard : Claim7 := { stood := { row := keyMovesUptoRow, standIns := [], harness := (true, "9132334dd5a128b181844a742d420d0815895e1e902e61789dc53440419d50dd"), looks := false }, kinds := [], alts := [], laidByText := true, laidKinds := [.data, .data, .data, .data, .data, .data, .data, .data, .data], laidTests := true, laidLooks := .later }
def KeyMovesUptoCardSaid : Prop := Claim7.holds Tryz.pinned (.plain (OpenSpec.upto keyMovesSpec)) keyMovesUptoCard
end Rows
end Go.Proofs.YtkebpchhpidogaaGreatDoor
