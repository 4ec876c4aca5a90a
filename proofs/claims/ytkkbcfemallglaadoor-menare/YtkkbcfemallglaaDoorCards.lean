/-
  DERIVED. GIVEN WITH THE SEED: THE CARDS: each row of YtkkbcfemallglaaDoorRows.lean that lists a variable, with what it lists TIED to the program's text (the seventh form; the later family's looks); each row that meets fmt, with fmt's text TOLD by the authors' own Lean function (tested against real Go, not proved from fmt's source: count such statements apart). THE CARD IS WHAT COUNTS. Prove the row's statement (the work); the ties are given (YtkkbcfemallglaaDoorTie.lean); close each card by the builder's one call (the guide's Derived/Test/ToyasCard.lean, 'card_holds'). Laid BY PROGRAM, IN A SANDBOX (cutbox-door.mjs). By AI agents, Wed Nov 11 2026. No macro, syntax, notation, axiom, sorry.
-/
import Derived.Test.YtkkbcfemallglaaDoorRows
import GoSem.ClaimSeven
namespace Go.Proofs.YtkkbcfemallglaaDoor
namespace Rows

/-- THE TIED CARD OF 'alfillaw02.MenAre'. -/
def menAreCard : Claim7 := { stood := { row := menAreRow, standIns := [], harness := (true, "0085a12ed091e9703db16181d600b49fa99cd0a4bb8a19012158a96dff5edefd"), looks := false }, kinds := [], alts := [], laidByText := true, laidKinds := [.data], laidTests := true, laidLooks := .later }
def MenAreCardSaid : Prop := Claim7.holds Tryd.pinned (.plain (OpenSpec.ofChange menAreSpec)) menAreCard

/-- THE SECOND FORM's CARD OF 'alfillaw02.MenAre'. -/
def menAreUptoCard : Claim7 := { stood := { row := menAreUptoRow, standIns := [], harness := (true, "0085a12ed091e9703db16181d600b49fa99cd0a4bb8a19012158a96dff5edefd"), looks := false }, kinds := [], alts := [], laidByText := true, laidKinds := [.data], laidTests := true, laidLooks := .later }
def MenAreUptoCardSaid : Prop := Claim7.holds Tryd.pinned (.plain (OpenSpec.upto menAreSpec)) menAreUptoCard
end Rows
end Go.Proofs.YtkkbcfemallglaaDoor
