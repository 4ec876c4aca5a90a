/-
  DERIVED. GIVEN WITH THE SEED: THE CARDS: each row of YtjbjkhbioigdaaaDoorRows.lean that lists a variable, with what it lists TIED to the program's text (the seventh form; the later family's looks); each row that meets fmt, with fmt's text TOLD by the authors' own Lean function (tested against real Go, not proved from fmt's source: count such statements apart). THE CARD IS WHAT COUNTS. Prove the row's statement (the work); the ties are given (YtjbjkhbioigdaaaDoorTie.lean); close each card by the builder's one call (the guide's Derived/Test/ToyasCard.lean, 'card_holds'). Laid BY PROGRAM, IN A SANDBOX (cutbox-door.mjs). By AI agents, Wed Nov 11 2026. No macro, syntax, notation, axiom, sorry.
-/
import Derived.Test.YtjbjkhbioigdaaaDoorRows
import GoSem.ClaimSeven
namespace Go.Proofs.YtjbjkhbioigdaaaDoor
namespace Rows

/-- THE TIED CARD OF 'alfillaw06.RaysOf'. -/
def raysOfCard : Claim7 := { stood := { row := raysOfRow, standIns := [], harness := (true, "e65c780e0378f7feea3e049111b2a4a87b203e00443b98681dc9a401145c2bfe"), looks := false }, kinds := [], alts := [], laidByText := true, laidKinds := [.data], laidTests := true, laidLooks := .later }
def RaysOfCardSaid : Prop := Claim7.holds Tryd.pinned (.plain (OpenSpec.ofChange raysOfSpec)) raysOfCard

/-- THE TIED CARD OF 'alfillaw06.RaysRay'. -/
def raysRayCard : Claim7 := { stood := { row := raysRayRow, standIns := [], harness := (true, "e65c780e0378f7feea3e049111b2a4a87b203e00443b98681dc9a401145c2bfe"), looks := false }, kinds := [], alts := [], laidByText := true, laidKinds := [.data], laidTests := true, laidLooks := .later }
def RaysRayCardSaid : Prop := Claim7.holds Tryd.pinned (.plain (OpenSpec.ofChange raysRaySpec)) raysRayCard

/-- THE TIED CARD OF 'alfillaw06.RaysBack'. -/
def raysBackCard : Claim7 := { stood := { row := raysBackRow, standIns := [], harness := (true, "e65c780e0378f7feea3e049111b2a4a87b203e00443b98681dc9a401145c2bfe"), looks := false }, kinds := [], alts := [], laidByText := true, laidKinds := [.data], laidTests := true, laidLooks := .later }
def RaysBackCardSaid : Prop := Claim7.holds Tryd.pinned (.plain (OpenSpec.ofChange raysBackSpec)) raysBackCard

/-- THE TIED CARD OF 'alfillaw06.RaysNil'. -/
def raysNilCard : Claim7 := { stood := { row := raysNilRow, standIns := [], harness := (true, "e65c780e0378f7feea3e049111b2a4a87b203e00443b98681dc9a401145c2bfe"), looks := false }, kinds := [], alts := [], laidByText := true, laidKinds := [.data], laidTests := true, laidLooks := .later }
def RaysNilCardSaid : Prop := Claim7.holds Tryd.pinned (.plain (OpenSpec.ofChange raysNilSpec)) raysNilCard

/-- THE SECOND FORM's CARD OF 'alfillaw06.RaysOf'. -/
def raysOfUptoCard : Claim7 := { stood := { row := raysOfUptoRow, standIns := [], harness := (true, "e65c780e0378f7feea3e049111b2a4a87b203e00443b98681dc9a401145c2bfe"), looks := false }, kinds := [], alts := [], laidByText := true, laidKinds := [.data], laidTests := true, laidLooks := .later }
def RaysOfUptoCardSaid : Prop := Claim7.holds Tryd.pinned (.plain (OpenSpec.upto raysOfSpec)) raysOfUptoCard

/-- THE SECOND FORM's CARD OF 'alfillaw06.RaysRay'. -/
def raysRayUptoCard : Claim7 := { stood := { row := raysRayUptoRow, standIns := [], harness := (true, "e65c780e0378f7feea3e049111b2a4a87b203e00443b98681dc9a401145c2bfe"), looks := false }, kinds := [], alts := [], laidByText := true, laidKinds := [.data], laidTests := true, laidLooks := .later }
def RaysRayUptoCardSaid : Prop := Claim7.holds Tryd.pinned (.plain (OpenSpec.upto raysRaySpec)) raysRayUptoCard

/-- THE SECOND FORM's CARD OF 'alfillaw06.RaysBack'. -/
def raysBackUptoCard : Claim7 := { stood := { row := raysBackUptoRow, standIns := [], harness := (true, "e65c780e0378f7feea3e049111b2a4a87b203e00443b98681dc9a401145c2bfe"), looks := false }, kinds := [], alts := [], laidByText := true, laidKinds := [.data], laidTests := true, laidLooks := .later }
def RaysBackUptoCardSaid : Prop := Claim7.holds Tryd.pinned (.plain (OpenSpec.upto raysBackSpec)) raysBackUptoCard

/-- THE SECOND FORM's CARD OF 'alfillaw06.RaysNil'. -/
def raysNilUptoCard : Claim7 := { stood := { row := raysNilUptoRow, standIns := [], harness := (true, "e65c780e0378f7feea3e049111b2a4a87b203e00443b98681dc9a401145c2bfe"), looks := false }, kinds := [], alts := [], laidByText := true, laidKinds := [.data], laidTests := true, laidLooks := .later }
def RaysNilUptoCardSaid : Prop := Claim7.holds Tryd.pinned (.plain (OpenSpec.upto raysNilSpec)) raysNilUptoCard
end Rows
end Go.Proofs.YtjbjkhbioigdaaaDoor
