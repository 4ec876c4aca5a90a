/-
  DERIVED. GIVEN WITH THE SEED: THE CARDS: each row of YtliibpahnkeogaaDoorRows.lean that lists a variable, with what it lists TIED to the program's text (the seventh form; the later family's looks); each row that meets fmt, with fmt's text TOLD by the authors' own Lean function (tested against real Go, not proved from fmt's source: count such statements apart). THE CARD IS WHAT COUNTS. Prove the row's statement (the work); the ties are given (YtliibpahnkeogaaDoorTie.lean); close each card by the builder's one call (the guide's Derived/Test/ToyasCard.lean, 'card_holds'). Laid BY PROGRAM, IN A SANDBOX (cutbox-door.mjs). By AI agents, Wed Nov 11 2026. No macro, syntax, notation, axiom, sorry.
-/
import Derived.Test.YtliibpahnkeogaaDoorRows
import GoSem.ClaimSeven
namespace Go.Proofs.YtliibpahnkeogaaDoor
namespace Rows

/-- THE TIED CARD OF 'alfillaw09.MoveMakes'. -/
def moveMakesCard : Claim7 := { stood := { row := moveMakesRow, standIns := [], harness := (true, "1454ac32bfade5ed5bce4e0d94b11917b8904863d6f8bfa1eef2af0b11824dd9"), looks := false }, kinds := [], alts := [], laidByText := true, laidKinds := [.data, .data, .data, .data, .data, .data], laidTests := true, laidLooks := .later }
def MoveMakesCardSaid : Prop := Claim7.holds Tryd.pinned (.plain (OpenSpec.ofChange moveMakesSpec)) moveMakesCard

/-- THE TIED CARD OF 'alfillaw09.MoveMen'. -/
def moveMenCard : Claim7 := { stood := { row := moveMenRow, standIns := [], harness := (true, "1454ac32bfade5ed5bce4e0d94b11917b8904863d6f8bfa1eef2af0b11824dd9"), looks := false }, kinds := [], alts := [], laidByText := true, laidKinds := [.data, .data, .data, .data, .data, .data], laidTests := true, laidLooks := .later }
def MoveMenCardSaid : Prop := Claim7.holds Tryd.pinned (.plain (OpenSpec.ofChange moveMenSpec)) moveMenCard

/-- THE TIED CARD OF 'alfillaw09.MoveTurned'. -/
def moveTurnedCard : Claim7 := { stood := { row := moveTurnedRow, standIns := [], harness := (true, "1454ac32bfade5ed5bce4e0d94b11917b8904863d6f8bfa1eef2af0b11824dd9"), looks := false }, kinds := [], alts := [], laidByText := true, laidKinds := [.data, .data, .data, .data, .data, .data], laidTests := true, laidLooks := .later }
def MoveTurnedCardSaid : Prop := Claim7.holds Tryd.pinned (.plain (OpenSpec.ofChange moveTurnedSpec)) moveTurnedCard

/-- THE TIED CARD OF 'alfillaw09.MoveTexts'. -/
def moveTextsCard : Claim7 := { stood := { row := moveTextsRow, standIns := [], harness := (true, "1454ac32bfade5ed5bce4e0d94b11917b8904863d6f8bfa1eef2af0b11824dd9"), looks := false }, kinds := [], alts := [], laidByText := true, laidKinds := [.data, .data, .data, .data, .data, .data], laidTests := true, laidLooks := .later }
def MoveTextsCardSaid : Prop := Claim7.holds Tryd.pinned (.plain (OpenSpec.ofChange moveTextsSpec)) moveTextsCard

/-- THE TIED CARD OF 'alfillaw09.MoveOrder'. -/
def moveOrderCard : Claim7 := { stood := { row := moveOrderRow, standIns := [], harness := (true, "1454ac32bfade5ed5bce4e0d94b11917b8904863d6f8bfa1eef2af0b11824dd9"), looks := false }, kinds := [], alts := [], laidByText := true, laidKinds := [.data, .data, .data, .data, .data, .data], laidTests := true, laidLooks := .later }
def MoveOrderCardSaid : Prop := Claim7.holds Tryd.pinned (.plain (OpenSpec.ofChange moveOrderSpec)) moveOrderCard

/-- THE SECOND FORM's CARD OF 'alfillaw09.MoveMakes'. -/
def moveMakesUptoCard : Claim7 := { stood := { row := moveMakesUptoRow, standIns := [], harness := (true, "1454ac32bfade5ed5bce4e0d94b11917b8904863d6f8bfa1eef2af0b11824dd9"), looks := false }, kinds := [], alts := [], laidByText := true, laidKinds := [.data, .data, .data, .data, .data, .data], laidTests := true, laidLooks := .later }
def MoveMakesUptoCardSaid : Prop := Claim7.holds Tryd.pinned (.plain (OpenSpec.upto moveMakesSpec)) moveMakesUptoCard

/-- THE SECOND FORM's CARD OF 'alfillaw09.MoveMen'. -/
def moveMenUptoCard : Claim7 := { stood := { row := moveMenUptoRow, standIns := [], harness := (true, "1454ac32bfade5ed5bce4e0d94b11917b8904863d6f8bfa1eef2af0b11824dd9"), looks := false }, kinds := [], alts := [], laidByText := true, laidKinds := [.data, .data, .data, .data, .data, .data], laidTests := true, laidLooks := .later }
def MoveMenUptoCardSaid : Prop := Claim7.holds Tryd.pinned (.plain (OpenSpec.upto moveMenSpec)) moveMenUptoCard

/-- THE SECOND FORM's CARD OF 'alfillaw09.MoveTurned'. -/
def moveTurnedUptoCard : Claim7 := { stood := { row := moveTurnedUptoRow, standIns := [], harness := (true, "1454ac32bfade5ed5bce4e0d94b11917b8904863d6f8bfa1eef2af0b11824dd9"), looks := false }, kinds := [], alts := [], laidByText := true, laidKinds := [.data, .data, .data, .data, .data, .data], laidTests := true, laidLooks := .later }
def MoveTurnedUptoCardSaid : Prop := Claim7.holds Tryd.pinned (.plain (OpenSpec.upto moveTurnedSpec)) moveTurnedUptoCard

/-- THE SECOND FORM's CARD OF 'alfillaw09.MoveTexts'. -/
def moveTextsUptoCard : Claim7 := { stood := { row := moveTextsUptoRow, standIns := [], harness := (true, "1454ac32bfade5ed5bce4e0d94b11917b8904863d6f8bfa1eef2af0b11824dd9"), looks := false }, kinds := [], alts := [], laidByText := true, laidKinds := [.data, .data, .data, .data, .data, .data], laidTests := true, laidLooks := .later }
def MoveTextsUptoCardSaid : Prop := Claim7.holds Tryd.pinned (.plain (OpenSpec.upto moveTextsSpec)) moveTextsUptoCard

/-- THE SECOND FORM's CARD OF 'alfillaw09.MoveOrder'. -/
def moveOrderUptoCard : Claim7 := { stood := { row := moveOrderUptoRow, standIns := [], harness := (true, "1454ac32bfade5ed5bce4e0d94b11917b8904863d6f8bfa1eef2af0b11824dd9"), looks := false }, kinds := [], alts := [], laidByText := true, laidKinds := [.data, .data, .data, .data, .data, .data], laidTests := true, laidLooks := .later }
def MoveOrderUptoCardSaid : Prop := Claim7.holds Tryd.pinned (.plain (OpenSpec.upto moveOrderSpec)) moveOrderUptoCard
end Rows
end Go.Proofs.YtliibpahnkeogaaDoor
