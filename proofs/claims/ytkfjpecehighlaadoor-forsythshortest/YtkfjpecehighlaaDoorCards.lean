/-
  DERIVED. GIVEN WITH THE SEED: THE CARDS: each row of YtkfjpecehighlaaDoorRows.lean that lists a variable, with what it lists TIED to the program's text (the seventh form; the later family's looks); each row that meets fmt, with fmt's text TOLD by the authors' own Lean function (tested against real Go, not proved from fmt's source: count such statements apart). THE CARD IS WHAT COUNTS. Prove the row's statement (the work); the ties are given (YtkfjpecehighlaaDoorTie.lean); close each card by the builder's one call (the guide's Derived/Test/ToyasCard.lean, 'card_holds'). Laid BY PROGRAM, IN A SANDBOX (cutbox-door.mjs). By AI agents, Wed Nov 11 2026. No macro, syntax, notation, axiom, sorry.
-/
import Derived.Test.YtkfjpecehighlaaDoorRows
import GoSem.ClaimSeven
namespace Go.Proofs.YtkfjpecehighlaaDoor
namespace Rows

/-- THE TIED CARD OF 'alfillaw04.ForsythWrites'. -/
def forsythWritesCard : Claim7 := { stood := { row := forsythWritesRow, standIns := [], harness := (true, "32f1d4bb3cd084145227b4df8de58ea33552b5ced0ff026873205c62fffe47cd"), looks := false }, kinds := [], alts := [], laidByText := true, laidKinds := [.data, .data, .data], laidTests := true, laidLooks := .later }
def ForsythWritesCardSaid : Prop := Claim7.holds Tryd.pinned (.plain (OpenSpec.ofChange forsythWritesSpec)) forsythWritesCard

/-- THE TIED CARD OF 'alfillaw04.ForsythShortest'. -/
def forsythShortestCard : Claim7 := { stood := { row := forsythShortestRow, standIns := [], harness := (true, "32f1d4bb3cd084145227b4df8de58ea33552b5ced0ff026873205c62fffe47cd"), looks := false }, kinds := [], alts := [], laidByText := true, laidKinds := [.data, .data, .data], laidTests := true, laidLooks := .later }
def ForsythShortestCardSaid : Prop := Claim7.holds Tryd.pinned (.plain (OpenSpec.ofChange forsythShortestSpec)) forsythShortestCard

/-- THE TIED CARD OF 'alfillaw04.ForsythCut'. -/
def forsythCutCard : Claim7 := { stood := { row := forsythCutRow, standIns := [], harness := (true, "32f1d4bb3cd084145227b4df8de58ea33552b5ced0ff026873205c62fffe47cd"), looks := false }, kinds := [], alts := [], laidByText := true, laidKinds := [.data, .data, .data], laidTests := true, laidLooks := .later }
def ForsythCutCardSaid : Prop := Claim7.holds Tryd.pinned (.plain (OpenSpec.ofChange forsythCutSpec)) forsythCutCard

/-- THE SECOND FORM's CARD OF 'alfillaw04.ForsythWrites'. -/
def forsythWritesUptoCard : Claim7 := { stood := { row := forsythWritesUptoRow, standIns := [], harness := (true, "32f1d4bb3cd084145227b4df8de58ea33552b5ced0ff026873205c62fffe47cd"), looks := false }, kinds := [], alts := [], laidByText := true, laidKinds := [.data, .data, .data], laidTests := true, laidLooks := .later }
def ForsythWritesUptoCardSaid : Prop := Claim7.holds Tryd.pinned (.plain (OpenSpec.upto forsythWritesSpec)) forsythWritesUptoCard

/-- THE SECOND FORM's CARD OF 'alfillaw04.ForsythShortest'. -/
def forsythShortestUptoCard : Claim7 := { stood := { row := forsythShortestUptoRow, standIns := [], harness := (true, "32f1d4bb3cd084145227b4df8de58ea33552b5ced0ff026873205c62fffe47cd"), looks := false }, kinds := [], alts := [], laidByText := true, laidKinds := [.data, .data, .data], laidTests := true, laidLooks := .later }
def ForsythShortestUptoCardSaid : Prop := Claim7.holds Tryd.pinned (.plain (OpenSpec.upto forsythShortestSpec)) forsythShortestUptoCard

/-- THE SECOND FORM's CARD OF 'alfillaw04.ForsythCut'. -/
def forsythCutUptoCard : Claim7 := { stood := { row := forsythCutUptoRow, standIns := [], harness := (true, "32f1d4bb3cd084145227b4df8de58ea33552b5ced0ff026873205c62fffe47cd"), looks := false }, kinds := [], alts := [], laidByText := true, laidKinds := [.data, .data, .data], laidTests := true, laidLooks := .later }
def ForsythCutUptoCardSaid : Prop := Claim7.holds Tryd.pinned (.plain (OpenSpec.upto forsythCutSpec)) forsythCutUptoCard
end Rows
end Go.Proofs.YtkfjpecehighlaaDoor
