/-
  DERIVED. GIVEN WITH THE SEED: THE CARDS: each row of YtkliefojegjhhaaDoorRows.lean that lists a variable, with what it lists TIED to the program's text (the seventh form; the later family's looks); each row that meets fmt, with fmt's text TOLD by the authors' own Lean function (tested against real Go, not proved from fmt's source: count such statements apart). THE CARD IS WHAT COUNTS. Prove the row's statement (the work); the ties are given (YtkliefojegjhhaaDoorTie.lean); close each card by the builder's one call (the guide's Derived/Test/ToyasCard.lean, 'card_holds'). Laid BY PROGRAM, IN A SANDBOX (cutbox-door.mjs). By AI agents, Wed Nov 11 2026. No macro, syntax, notation, axiom, sorry.
-/
import Derived.Test.YtkliefojegjhhaaDoorRows
import GoSem.ClaimSeven
namespace Go.Proofs.YtkliefojegjhhaaDoor
namespace Rows

/-- THE TIED CARD OF 'alfillaw06.RaysOf'. -/
def raysOfCard : Claim7 := { stood := { row := raysOfRow, standIns := [], harness := (true, "56058f5d0be77143d3fa43af4475eceb510f65d8e5f1ec3f8641f1e1f6411e72"), looks := false }, kinds := [], alts := [], laidByText := true, laidKinds := [.data], laidTests := true, laidLooks := .later }
def RaysOfCardSaid : Prop := Claim7.holds Tryd.pinned (.plain (OpenSpec.ofChange raysOfSpec)) raysOfCard

/-- THE TIED CARD OF 'alfillaw06.RaysRay'. -/
def raysRayCard : Claim7 := { stood := { row := raysRayRow, standIns := [], harness := (true, "56058f5d0be77143d3fa43af4475eceb510f65d8e5f1ec3f8641f1e1f6411e72"), looks := false }, kinds := [], alts := [], laidByText := true, laidKinds := [.data], laidTests := true, laidLooks := .later }
def RaysRayCardSaid : Prop := Claim7.holds Tryd.pinned (.plain (OpenSpec.ofChange raysRaySpec)) raysRayCard

/-- THE TIED CARD OF 'alfillaw06.RaysBack'. -/
def raysBackCard : Claim7 := { stood := { row := raysBackRow, standIns := [], harness := (true, "56058f5d0be77143d3fa43af4475eceb510f65d8e5f1ec3f8641f1e1f6411e72"), looks := false }, kinds := [], alts := [], laidByText := true, laidKinds := [.data], laidTests := true, laidLooks := .later }
def RaysBackCardSaid : Prop := Claim7.holds Tryd.pinned (.plain (OpenSpec.ofChange raysBackSpec)) raysBackCard

/-- THE TIED CARD OF 'alfillaw06.RaysNil'. -/
def raysNilCard : Claim7 := { stood := { row := raysNilRow, standIns := [], harness := (true, "56058f5d0be77143d3fa43af4475eceb510f65d8e5f1ec3f8641f1e1f6411e72"), looks := false }, kinds := [], alts := [], laidByText := true, laidKinds := [.data], laidTests := true, laidLooks := .later }
def RaysNilCardSaid : Prop := Claim7.holds Tryd.pinned (.plain (OpenSpec.ofChange raysNilSpec)) raysNilCard

/-- THE TIED CARD OF 'alfillaw07.AttackStrikes'. -/
def attackStrikesCard : Claim7 := { stood := { row := attackStrikesRow, standIns := [], harness := (true, "56058f5d0be77143d3fa43af4475eceb510f65d8e5f1ec3f8641f1e1f6411e72"), looks := false }, kinds := [], alts := [], laidByText := true, laidKinds := [.data], laidTests := true, laidLooks := .later }
def AttackStrikesCardSaid : Prop := Claim7.holds Tryd.pinned (.plain (OpenSpec.ofChange attackStrikesSpec)) attackStrikesCard

/-- THE TIED CARD OF 'alfillaw07.AttackCheck'. -/
def attackCheckCard : Claim7 := { stood := { row := attackCheckRow, standIns := [], harness := (true, "56058f5d0be77143d3fa43af4475eceb510f65d8e5f1ec3f8641f1e1f6411e72"), looks := false }, kinds := [], alts := [], laidByText := true, laidKinds := [.data], laidTests := true, laidLooks := .later }
def AttackCheckCardSaid : Prop := Claim7.holds Tryd.pinned (.plain (OpenSpec.ofChange attackCheckSpec)) attackCheckCard

/-- THE TIED CARD OF 'alfillaw07.AttackPinned'. -/
def attackPinnedCard : Claim7 := { stood := { row := attackPinnedRow, standIns := [], harness := (true, "56058f5d0be77143d3fa43af4475eceb510f65d8e5f1ec3f8641f1e1f6411e72"), looks := false }, kinds := [], alts := [], laidByText := true, laidKinds := [.data], laidTests := true, laidLooks := .later }
def AttackPinnedCardSaid : Prop := Claim7.holds Tryd.pinned (.plain (OpenSpec.ofChange attackPinnedSpec)) attackPinnedCard

/-- THE TIED CARD OF 'alfillaw07.AttackBoth'. -/
def attackBothCard : Claim7 := { stood := { row := attackBothRow, standIns := [], harness := (true, "56058f5d0be77143d3fa43af4475eceb510f65d8e5f1ec3f8641f1e1f6411e72"), looks := false }, kinds := [], alts := [], laidByText := true, laidKinds := [.data], laidTests := true, laidLooks := .later }
def AttackBothCardSaid : Prop := Claim7.holds Tryd.pinned (.plain (OpenSpec.ofChange attackBothSpec)) attackBothCard

/-- THE TIED CARD OF 'alfillaw07.AttackNil'. -/
def attackNilCard : Claim7 := { stood := { row := attackNilRow, standIns := [], harness := (true, "56058f5d0be77143d3fa43af4475eceb510f65d8e5f1ec3f8641f1e1f6411e72"), looks := false }, kinds := [], alts := [], laidByText := true, laidKinds := [.data], laidTests := true, laidLooks := .later }
def AttackNilCardSaid : Prop := Claim7.holds Tryd.pinned (.plain (OpenSpec.ofChange attackNilSpec)) attackNilCard

/-- THE SECOND FORM's CARD OF 'alfillaw06.RaysOf'. -/
def raysOfUptoCard : Claim7 := { stood := { row := raysOfUptoRow, standIns := [], harness := (true, "56058f5d0be77143d3fa43af4475eceb510f65d8e5f1ec3f8641f1e1f6411e72"), looks := false }, kinds := [], alts := [], laidByText := true, laidKinds := [.data], laidTests := true, laidLooks := .later }
def RaysOfUptoCardSaid : Prop := Claim7.holds Tryd.pinned (.plain (OpenSpec.upto raysOfSpec)) raysOfUptoCard

/-- THE SECOND FORM's CARD OF 'alfillaw06.RaysRay'. -/
def raysRayUptoCard : Claim7 := { stood := { row := raysRayUptoRow, standIns := [], harness := (true, "56058f5d0be77143d3fa43af4475eceb510f65d8e5f1ec3f8641f1e1f6411e72"), looks := false }, kinds := [], alts := [], laidByText := true, laidKinds := [.data], laidTests := true, laidLooks := .later }
def RaysRayUptoCardSaid : Prop := Claim7.holds Tryd.pinned (.plain (OpenSpec.upto raysRaySpec)) raysRayUptoCard

/-- THE SECOND FORM's CARD OF 'alfillaw06.RaysBack'. -/
def raysBackUptoCard : Claim7 := { stood := { row := raysBackUptoRow, standIns := [], harness := (true, "56058f5d0be77143d3fa43af4475eceb510f65d8e5f1ec3f8641f1e1f6411e72"), looks := false }, kinds := [], alts := [], laidByText := true, laidKinds := [.data], laidTests := true, laidLooks := .later }
def RaysBackUptoCardSaid : Prop := Claim7.holds Tryd.pinned (.plain (OpenSpec.upto raysBackSpec)) raysBackUptoCard

/-- THE SECOND FORM's CARD OF 'alfillaw06.RaysNil'. -/
def raysNilUptoCard : Claim7 := { stood := { row := raysNilUptoRow, standIns := [], harness := (true, "56058f5d0be77143d3fa43af4475eceb510f65d8e5f1ec3f8641f1e1f6411e72"), looks := false }, kinds := [], alts := [], laidByText := true, laidKinds := [.data], laidTests := true, laidLooks := .later }
def RaysNilUptoCardSaid : Prop := Claim7.holds Tryd.pinned (.plain (OpenSpec.upto raysNilSpec)) raysNilUptoCard

/-- THE SECOND FORM's CARD OF 'alfillaw07.AttackStrikes'. -/
def attackStrikesUptoCard : Claim7 := { stood := { row := attackStrikesUptoRow, standIns := [], harness := (true, "56058f5d0be77143d3fa43af4475eceb510f65d8e5f1ec3f8641f1e1f6411e72"), looks := false }, kinds := [], alts := [], laidByText := true, laidKinds := [.data], laidTests := true, laidLooks := .later }
def AttackStrikesUptoCardSaid : Prop := Claim7.holds Tryd.pinned (.plain (OpenSpec.upto attackStrikesSpec)) attackStrikesUptoCard

/-- THE SECOND FORM's CARD OF 'alfillaw07.AttackCheck'. -/
def attackCheckUptoCard : Claim7 := { stood := { row := attackCheckUptoRow, standIns := [], harness := (true, "56058f5d0be77143d3fa43af4475eceb510f65d8e5f1ec3f8641f1e1f6411e72"), looks := false }, kinds := [], alts := [], laidByText := true, laidKinds := [.data], laidTests := true, laidLooks := .later }
def AttackCheckUptoCardSaid : Prop := Claim7.holds Tryd.pinned (.plain (OpenSpec.upto attackCheckSpec)) attackCheckUptoCard

/-- THE SECOND FORM's CARD OF 'alfillaw07.AttackPinned'. -/
def attackPinnedUptoCard : Claim7 := { stood := { row := attackPinnedUptoRow, standIns := [], harness := (true, "56058f5d0be77143d3fa43af4475eceb510f65d8e5f1ec3f8641f1e1f6411e72"), looks := false }, kinds := [], alts := [], laidByText := true, laidKinds := [.data], laidTests := true, laidLooks := .later }
def AttackPinnedUptoCardSaid : Prop := Claim7.holds Tryd.pinned (.plain (OpenSpec.upto attackPinnedSpec)) attackPinnedUptoCard

/-- THE SECOND FORM's CARD OF 'alfillaw07.AttackBoth'. -/
def attackBothUptoCard : Claim7 := { stood := { row := attackBothUptoRow, standIns := [], harness := (true, "56058f5d0be77143d3fa43af4475eceb510f65d8e5f1ec3f8641f1e1f6411e72"), looks := false }, kinds := [], alts := [], laidByText := true, laidKinds := [.data], laidTests := true, laidLooks := .later }
def AttackBothUptoCardSaid : Prop := Claim7.holds Tryd.pinned (.plain (OpenSpec.upto attackBothSpec)) attackBothUptoCard

/-- THE SECOND FORM's CARD OF 'alfillaw07.AttackNil'. -/
def attackNilUptoCard : Claim7 := { stood := { row := attackNilUptoRow, standIns := [], harness := (true, "56058f5d0be77143d3fa43af4475eceb510f65d8e5f1ec3f8641f1e1f6411e72"), looks := false }, kinds := [], alts := [], laidByText := true, laidKinds := [.data], laidTests := true, laidLooks := .later }
def AttackNilUptoCardSaid : Prop := Claim7.holds Tryd.pinned (.plain (OpenSpec.upto attackNilSpec)) attackNilUptoCard
end Rows
end Go.Proofs.YtkliefojegjhhaaDoor
