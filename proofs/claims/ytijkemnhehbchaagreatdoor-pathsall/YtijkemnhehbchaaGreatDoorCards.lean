/-
  DERIVED. GIVEN WITH THE SEED: THE CARDS: each row of YtijkemnhehbchaaGreatDoorRows.lean that lists a variable, with what it lists TIED to the program's text (the seventh form; the later family's looks); each row that meets fmt, with fmt's text TOLD by the authors' own Lean function (tested against real Go, not proved from fmt's source: count such statements apart). THE CARD IS WHAT COUNTS. Prove the row's statement (the work); the ties are given (YtijkemnhehbchaaGreatDoorTie.lean); close each card by the builder's one call (the guide's Derived/Test/ToyasCard.lean, 'card_holds'). Laid BY PROGRAM, IN A SANDBOX (cutbox-door.mjs). By AI agents, Wed Nov 11 2026. No macro, syntax, notation, axiom, sorry.
-/
import Derived.Test.YtijkemnhehbchaaGreatDoorRows
import GoSem.ClaimSeven
namespace Go.Proofs.YtijkemnhehbchaaGreatDoor
namespace Rows

/-- THE TIED CARD OF 'alfillaw12.PathsAll'. -/
def pathsAllCard : Claim7 := { stood := { row := pathsAllRow, standIns := [], harness := (true, "ddd73610d30cc418500740ba2288533094dd2816ef9565c2716f4af5de10a5ad"), looks := false }, kinds := [], alts := [], laidByText := true, laidKinds := [.data, .data, .data, .data, .data, .data, .data, .data, .data], laidTests := true, laidLooks := .later }
def PathsAllCardSaid : Prop := Claim7.holds Tryz.pinned (.plain (OpenSpec.ofChange pathsAllSpec)) pathsAllCard

/-- THE TIED CARD OF 'alfillaw12.PathsEnd'. -/
def pathsEndCard : Claim7 := { stood := { row := pathsEndRow, standIns := [], harness := (true, "ddd73610d30cc418500740ba2288533094dd2816ef9565c2716f4af5de10a5ad"), looks := false }, kinds := [], alts := [], laidByText := true, laidKinds := [.data, .data, .data, .data, .data, .data, .data, .data, .data], laidTests := true, laidLooks := .later }
def PathsEndCardSaid : Prop := Claim7.holds Tryz.pinned (.plain (OpenSpec.ofChange pathsEndSpec)) pathsEndCard

/-- THE TIED CARD OF 'alfillaw12.PathsOrder'. -/
def pathsOrderCard : Claim7 := { stood := { row := pathsOrderRow, standIns := [], harness := (true, "ddd73610d30cc418500740ba2288533094dd2816ef9565c2716f4af5de10a5ad"), looks := false }, kinds := [], alts := [], laidByText := true, laidKinds := [.data, .data, .data, .data, .data, .data, .data, .data, .data], laidTests := true, laidLooks := .later }
def PathsOrderCardSaid : Prop := Claim7.holds Tryz.pinned (.plain (OpenSpec.ofChange pathsOrderSpec)) pathsOrderCard

/-- THE SECOND FORM's CARD OF 'alfillaw12.PathsAll'. -/
def pathsAllUptoCard : Claim7 := { stood := { row := pathsAllUptoRow, standIns := [], harness := (true, "ddd73610d30cc418500740ba2288533094dd2816ef9565c2716f4af5de10a5ad"), looks := false }, kinds := [], alts := [], laidByText := true, laidKinds := [.data, .data, .data, .data, .data, .data, .data, .data, .data], laidTests := true, laidLooks := .later }
def PathsAllUptoCardSaid : Prop := Claim7.holds Tryz.pinned (.plain (OpenSpec.upto pathsAllSpec)) pathsAllUptoCard

/-- THE SECOND FORM's CARD OF 'alfillaw12.PathsEnd'. -/
def pathsEndUptoCard : Claim7 := { stood := { row := pathsEndUptoRow, standIns := [], harness := (true, "ddd73610d30cc418500740ba2288533094dd2816ef9565c2716f4af5de10a5ad"), looks := false }, kinds := [], alts := [], laidByText := true, laidKinds := [.data, .data, .data, .data, .data, .data, .data, .data, .data], laidTests := true, laidLooks := .later }
def PathsEndUptoCardSaid : Prop := Claim7.holds Tryz.pinned (.plain (OpenSpec.upto pathsEndSpec)) pathsEndUptoCard

/-- THE SECOND FORM's CARD OF 'alfillaw12.PathsOrder'. -/
def pathsOrderUptoCard : Claim7 := { stood := { row := pathsOrderUptoRow, standIns := [], harness := (true, "ddd73610d30cc418500740ba2288533094dd2816ef9565c2716f4af5de10a5ad"), looks := false }, kinds := [], alts := [], laidByText := true, laidKinds := [.data, .data, .data, .data, .data, .data, .data, .data, .data], laidTests := true, laidLooks := .later }
def PathsOrderUptoCardSaid : Prop := Claim7.holds Tryz.pinned (.plain (OpenSpec.upto pathsOrderSpec)) pathsOrderUptoCard
end Rows
end Go.Proofs.YtijkemnhehbchaaGreatDoor
