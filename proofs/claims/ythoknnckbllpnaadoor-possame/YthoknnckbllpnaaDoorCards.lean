/-
  DERIVED. GIVEN WITH THE SEED: THE CARDS: each row of YthoknnckbllpnaaDoorRows.lean that lists a variable, with what it lists TIED to the program's text (the seventh form; the later family's looks); each row that meets fmt, with fmt's text TOLD by the authors' own Lean function (tested against real Go, not proved from fmt's source: count such statements apart). THE CARD IS WHAT COUNTS. Prove the row's statement (the work); the ties are given (YthoknnckbllpnaaDoorTie.lean); close each card by the builder's one call (the guide's Derived/Test/ToyasCard.lean, 'card_holds'). Laid BY PROGRAM, IN A SANDBOX (cutbox-door.mjs). By AI agents, Wed Nov 11 2026. No macro, syntax, notation, axiom, sorry.
-/
import Derived.Test.YthoknnckbllpnaaDoorRows
import GoSem.ClaimSeven
namespace Go.Proofs.YthoknnckbllpnaaDoor
namespace Rows

/-- THE TIED CARD OF 'alfillaw08.PosWrong'. -/
def posWrongCard : Claim7 := { stood := { row := posWrongRow, standIns := [], harness := (true, "e8bc7dc82ba2fa46be8a8fed0f09e474e9c22d1eb668afcff649229206b53318"), looks := false }, kinds := [], alts := [], laidByText := true, laidKinds := [.data, .data, .data], laidTests := true, laidLooks := .later }
def PosWrongCardSaid : Prop := Claim7.holds Tryd.pinned (.plain (OpenSpec.ofChange posWrongSpec)) posWrongCard

/-- THE TIED CARD OF 'alfillaw08.PosBacked'. -/
def posBackedCard : Claim7 := { stood := { row := posBackedRow, standIns := [], harness := (true, "e8bc7dc82ba2fa46be8a8fed0f09e474e9c22d1eb668afcff649229206b53318"), looks := false }, kinds := [], alts := [], laidByText := true, laidKinds := [.data, .data, .data], laidTests := true, laidLooks := .later }
def PosBackedCardSaid : Prop := Claim7.holds Tryd.pinned (.plain (OpenSpec.ofChange posBackedSpec)) posBackedCard

/-- THE TIED CARD OF 'alfillaw08.PosOf'. -/
def posOfCard : Claim7 := { stood := { row := posOfRow, standIns := [], harness := (true, "e8bc7dc82ba2fa46be8a8fed0f09e474e9c22d1eb668afcff649229206b53318"), looks := false }, kinds := [], alts := [], laidByText := true, laidKinds := [.data, .data, .data], laidTests := true, laidLooks := .later }
def PosOfCardSaid : Prop := Claim7.holds Tryd.pinned (.plain (OpenSpec.ofChange posOfSpec)) posOfCard

/-- THE TIED CARD OF 'alfillaw08.PosTurns'. -/
def posTurnsCard : Claim7 := { stood := { row := posTurnsRow, standIns := [], harness := (true, "e8bc7dc82ba2fa46be8a8fed0f09e474e9c22d1eb668afcff649229206b53318"), looks := false }, kinds := [], alts := [], laidByText := true, laidKinds := [.data, .data, .data], laidTests := true, laidLooks := .later }
def PosTurnsCardSaid : Prop := Claim7.holds Tryd.pinned (.plain (OpenSpec.ofChange posTurnsSpec)) posTurnsCard

/-- THE TIED CARD OF 'alfillaw08.PosSame'. -/
def posSameCard : Claim7 := { stood := { row := posSameRow, standIns := [], harness := (true, "e8bc7dc82ba2fa46be8a8fed0f09e474e9c22d1eb668afcff649229206b53318"), looks := false }, kinds := [], alts := [], laidByText := true, laidKinds := [.data, .data, .data], laidTests := true, laidLooks := .later }
def PosSameCardSaid : Prop := Claim7.holds Tryd.pinned (.plain (OpenSpec.ofChange posSameSpec)) posSameCard

/-- THE SECOND FORM's CARD OF 'alfillaw08.PosWrong'. -/
def posWrongUptoCard : Claim7 := { stood := { row := posWrongUptoRow, standIns := [], harness := (true, "e8bc7dc82ba2fa46be8a8fed0f09e474e9c22d1eb668afcff649229206b53318"), looks := false }, kinds := [], alts := [], laidByText := true, laidKinds := [.data, .data, .data], laidTests := true, laidLooks := .later }
def PosWrongUptoCardSaid : Prop := Claim7.holds Tryd.pinned (.plain (OpenSpec.upto posWrongSpec)) posWrongUptoCard

/-- THE SECOND FORM's CARD OF 'alfillaw08.PosBacked'. -/
def posBackedUptoCard : Claim7 := { stood := { row := posBackedUptoRow, standIns := [], harness := (true, "e8bc7dc82ba2fa46be8a8fed0f09e474e9c22d1eb668afcff649229206b53318"), looks := false }, kinds := [], alts := [], laidByText := true, laidKinds := [.data, .data, .data], laidTests := true, laidLooks := .later }
def PosBackedUptoCardSaid : Prop := Claim7.holds Tryd.pinned (.plain (OpenSpec.upto posBackedSpec)) posBackedUptoCard

/-- THE SECOND FORM's CARD OF 'alfillaw08.PosOf'. -/
def posOfUptoCard : Claim7 := { stood := { row := posOfUptoRow, standIns := [], harness := (true, "e8bc7dc82ba2fa46be8a8fed0f09e474e9c22d1eb668afcff649229206b53318"), looks := false }, kinds := [], alts := [], laidByText := true, laidKinds := [.data, .data, .data], laidTests := true, laidLooks := .later }
def PosOfUptoCardSaid : Prop := Claim7.holds Tryd.pinned (.plain (OpenSpec.upto posOfSpec)) posOfUptoCard

/-- THE SECOND FORM's CARD OF 'alfillaw08.PosTurns'. -/
def posTurnsUptoCard : Claim7 := { stood := { row := posTurnsUptoRow, standIns := [], harness := (true, "e8bc7dc82ba2fa46be8a8fed0f09e474e9c22d1eb668afcff649229206b53318"), looks := false }, kinds := [], alts := [], laidByText := true, laidKinds := [.data, .data, .data], laidTests := true, laidLooks := .later }
def PosTurnsUptoCardSaid : Prop := Claim7.holds Tryd.pinned (.plain (OpenSpec.upto posTurnsSpec)) posTurnsUptoCard

/-- THE SECOND FORM's CARD OF 'alfillaw08.PosSame'. -/
def posSameUptoCard : Claim7 := { stood := { row := posSameUptoRow, standIns := [], harness := (true, "e8bc7dc82ba2fa46be8a8fed0f09e474e9c22d1eb668afcff649229206b53318"), looks := false }, kinds := [], alts := [], laidByText := true, laidKinds := [.data, .data, .data], laidTests := true, laidLooks := .later }
def PosSameUptoCardSaid : Prop := Claim7.holds Tryd.pinned (.plain (OpenSpec.upto posSameSpec)) posSameUptoCard
end Rows
end Go.Proofs.YthoknnckbllpnaaDoor
