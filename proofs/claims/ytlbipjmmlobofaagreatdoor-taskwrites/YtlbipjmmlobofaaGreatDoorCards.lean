/-
  DERIVED. GIVEN WITH THE SEED: THE CARDS: each row of YtlbipjmmlobofaaGreatDoorRows.lean that lists a variable, with what it lists TIED to the program's text (the seventh form; the later family's looks); each row that meets fmt, with fmt's text TOLD by the authors' own Lean function (tested against real Go, not proved from fmt's source: count such statements apart). THE CARD IS WHAT COUNTS. Prove the row's statement (the work); the ties are given (YtlbipjmmlobofaaGreatDoorTie.lean); close each card by the builder's one call (the guide's Derived/Test/ToyasCard.lean, 'card_holds'). Laid BY PROGRAM, IN A SANDBOX (cutbox-door.mjs). By AI agents, Wed Nov 11 2026. No macro, syntax, notation, axiom, sorry.
-/
import Derived.Test.YtlbipjmmlobofaaGreatDoorRows
import GoSem.ClaimSeven
namespace Go.Proofs.YtlbipjmmlobofaaGreatDoor
namespace Rows

/-- THE TIED CARD OF 'alfillaw16.TaskWrites'. -/
def taskWritesCard : Claim7 := { stood := { row := taskWritesRow, standIns := [], harness := (true, "2015bc1f08e0befb8888b94cc27b6232456f0b5c9ecc1025052a8af29bd7757c"), looks := false }, kinds := [], alts := [], laidByText := true, laidKinds := [.data, .data, .data, .data, .data, .data, .data, .data, .data, .pinned], laidTests := true, laidLooks := .later }
def TaskWritesCardSaid : Prop := Claim7.holds Tryz.pinned (.plain (OpenSpec.ofChange taskWritesSpec)) taskWritesCard

/-- THE TIED CARD OF 'alfillaw16.TaskWrong'. -/
def taskWrongCard : Claim7 := { stood := { row := taskWrongRow, standIns := [], harness := (true, "2015bc1f08e0befb8888b94cc27b6232456f0b5c9ecc1025052a8af29bd7757c"), looks := false }, kinds := [], alts := [], laidByText := true, laidKinds := [.data, .data, .data, .pinned], laidTests := true, laidLooks := .later }
def TaskWrongCardSaid : Prop := Claim7.holds Tryz.pinned (.plain (OpenSpec.ofChange taskWrongSpec)) taskWrongCard

/-- THE TIED CARD OF 'alfillaw16.TaskCut'. -/
def taskCutCard : Claim7 := { stood := { row := taskCutRow, standIns := [], harness := (true, "2015bc1f08e0befb8888b94cc27b6232456f0b5c9ecc1025052a8af29bd7757c"), looks := false }, kinds := [], alts := [], laidByText := true, laidKinds := [.data, .data, .data, .data, .data, .data, .pinned], laidTests := true, laidLooks := .later }
def TaskCutCardSaid : Prop := Claim7.holds Tryz.pinned (.plain (OpenSpec.ofChange taskCutSpec)) taskCutCard

/-- THE TIED CARD OF 'alfillaw16.TaskPieces'. -/
def taskPiecesCard : Claim7 := { stood := { row := taskPiecesRow, standIns := [], harness := (true, "2015bc1f08e0befb8888b94cc27b6232456f0b5c9ecc1025052a8af29bd7757c"), looks := false }, kinds := [], alts := [], laidByText := true, laidKinds := [.data, .data, .data, .data, .data, .data, .pinned], laidTests := true, laidLooks := .later }
def TaskPiecesCardSaid : Prop := Claim7.holds Tryz.pinned (.plain (OpenSpec.ofChange taskPiecesSpec)) taskPiecesCard

/-- THE SECOND FORM's CARD OF 'alfillaw16.TaskWrites'. -/
def taskWritesUptoCard : Claim7 := { stood := { row := taskWritesUptoRow, standIns := [], harness := (true, "2015bc1f08e0befb8888b94cc27b6232456f0b5c9ecc1025052a8af29bd7757c"), looks := false }, kinds := [], alts := [], laidByText := true, laidKinds := [.data, .data, .data, .data, .data, .data, .data, .data, .data, .pinned], laidTests := true, laidLooks := .later }
def TaskWritesUptoCardSaid : Prop := Claim7.holds Tryz.pinned (.plain (OpenSpec.upto taskWritesSpec)) taskWritesUptoCard

/-- THE SECOND FORM's CARD OF 'alfillaw16.TaskWrong'. -/
def taskWrongUptoCard : Claim7 := { stood := { row := taskWrongUptoRow, standIns := [], harness := (true, "2015bc1f08e0befb8888b94cc27b6232456f0b5c9ecc1025052a8af29bd7757c"), looks := false }, kinds := [], alts := [], laidByText := true, laidKinds := [.data, .data, .data, .pinned], laidTests := true, laidLooks := .later }
def TaskWrongUptoCardSaid : Prop := Claim7.holds Tryz.pinned (.plain (OpenSpec.upto taskWrongSpec)) taskWrongUptoCard

/-- THE SECOND FORM's CARD OF 'alfillaw16.TaskCut'. -/
def taskCutUptoCard : Claim7 := { stood := { row := taskCutUptoRow, standIns := [], harness := (true, "2015bc1f08e0befb8888b94cc27b6232456f0b5c9ecc1025052a8af29bd7757c"), looks := false }, kinds := [], alts := [], laidByText := true, laidKinds := [.data, .data, .data, .data, .data, .data, .pinned], laidTests := true, laidLooks := .later }
def TaskCutUptoCardSaid : Prop := Claim7.holds Tryz.pinned (.plain (OpenSpec.upto taskCutSpec)) taskCutUptoCard

/-- THE SECOND FORM's CARD OF 'alfillaw16.TaskPieces'. -/
def taskPiecesUptoCard : Claim7 := { stood := { row := taskPiecesUptoRow, standIns := [], harness := (true, "2015bc1f08e0befb8888b94cc27b6232456f0b5c9ecc1025052a8af29bd7757c"), looks := false }, kinds := [], alts := [], laidByText := true, laidKinds := [.data, .data, .data, .data, .data, .data, .pinned], laidTests := true, laidLooks := .later }
def TaskPiecesUptoCardSaid : Prop := Claim7.holds Tryz.pinned (.plain (OpenSpec.upto taskPiecesSpec)) taskPiecesUptoCard
end Rows
end Go.Proofs.YtlbipjmmlobofaaGreatDoor
