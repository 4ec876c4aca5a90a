/-
  DERIVED. GIVEN WITH THE SEED: THE CARDS: each row of YtnlgjakohoimhaaDoorRows.lean that lists a variable, with what it lists TIED to the program's text (the seventh form; the later family's looks); each row that meets fmt, with fmt's text TOLD by the authors' own Lean function (tested against real Go, not proved from fmt's source: count such statements apart). THE CARD IS WHAT COUNTS. Prove the row's statement (the work); the ties are given (YtnlgjakohoimhaaDoorTie.lean); close each card by the builder's one call (the guide's Derived/Test/ToyasCard.lean, 'card_holds'). Laid BY PROGRAM, IN A SANDBOX (cutbox-door.mjs). By AI agents, Wed Nov 11 2026. No macro, syntax, notation, axiom, sorry.
-/
import Derived.Test.YtnlgjakohoimhaaDoorRows
import GoSem.ClaimSeven
namespace Go.Proofs.YtnlgjakohoimhaaDoor
namespace Rows

/-- THE TIED CARD OF 'alfillaw15.StipReads'. -/
def stipReadsCard : Claim7 := { stood := { row := stipReadsRow, standIns := [], harness := (true, "362c85388a231f3b7a608bc83b8031582f01ecdae91b752e9b0d9faf0fa446c6"), looks := false }, kinds := [], alts := [], laidByText := true, laidKinds := [.data, .data], laidTests := true, laidLooks := .later }
def StipReadsCardSaid : Prop := Claim7.holds Tryd.pinned (.plain (OpenSpec.ofChange stipReadsSpec)) stipReadsCard

/-- THE TIED CARD OF 'alfillaw15.StipWrites'. -/
def stipWritesCard : Claim7 := { stood := { row := stipWritesRow, standIns := [], harness := (true, "362c85388a231f3b7a608bc83b8031582f01ecdae91b752e9b0d9faf0fa446c6"), looks := false }, kinds := [], alts := [], laidByText := true, laidKinds := [.data, .data, .data, .data, .data], laidTests := true, laidLooks := .later }
def StipWritesCardSaid : Prop := Claim7.holds Tryd.pinned (.plain (OpenSpec.ofChange stipWritesSpec)) stipWritesCard

/-- THE TIED CARD OF 'alfillaw15.StipMovers'. -/
def stipMoversCard : Claim7 := { stood := { row := stipMoversRow, standIns := [], harness := (true, "362c85388a231f3b7a608bc83b8031582f01ecdae91b752e9b0d9faf0fa446c6"), looks := false }, kinds := [], alts := [], laidByText := true, laidKinds := [.data, .data], laidTests := true, laidLooks := .later }
def StipMoversCardSaid : Prop := Claim7.holds Tryd.pinned (.plain (OpenSpec.ofChange stipMoversSpec)) stipMoversCard

/-- THE TIED CARD OF 'alfillaw15.StipCut'. -/
def stipCutCard : Claim7 := { stood := { row := stipCutRow, standIns := [], harness := (true, "362c85388a231f3b7a608bc83b8031582f01ecdae91b752e9b0d9faf0fa446c6"), looks := false }, kinds := [], alts := [], laidByText := true, laidKinds := [.data, .data, .data, .data, .data], laidTests := true, laidLooks := .later }
def StipCutCardSaid : Prop := Claim7.holds Tryd.pinned (.plain (OpenSpec.ofChange stipCutSpec)) stipCutCard

/-- THE SECOND FORM's CARD OF 'alfillaw15.StipReads'. -/
def stipReadsUptoCard : Claim7 := { stood := { row := stipReadsUptoRow, standIns := [], harness := (true, "362c85388a231f3b7a608bc83b8031582f01ecdae91b752e9b0d9faf0fa446c6"), looks := false }, kinds := [], alts := [], laidByText := true, laidKinds := [.data, .data], laidTests := true, laidLooks := .later }
def StipReadsUptoCardSaid : Prop := Claim7.holds Tryd.pinned (.plain (OpenSpec.upto stipReadsSpec)) stipReadsUptoCard

/-- THE SECOND FORM's CARD OF 'alfillaw15.StipWrites'. -/
def stipWritesUptoCard : Claim7 := { stood := { row := stipWritesUptoRow, standIns := [], harness := (true, "362c85388a231f3b7a608bc83b8031582f01ecdae91b752e9b0d9faf0fa446c6"), looks := false }, kinds := [], alts := [], laidByText := true, laidKinds := [.data, .data, .data, .data, .data], laidTests := true, laidLooks := .later }
def StipWritesUptoCardSaid : Prop := Claim7.holds Tryd.pinned (.plain (OpenSpec.upto stipWritesSpec)) stipWritesUptoCard

/-- THE SECOND FORM's CARD OF 'alfillaw15.StipMovers'. -/
def stipMoversUptoCard : Claim7 := { stood := { row := stipMoversUptoRow, standIns := [], harness := (true, "362c85388a231f3b7a608bc83b8031582f01ecdae91b752e9b0d9faf0fa446c6"), looks := false }, kinds := [], alts := [], laidByText := true, laidKinds := [.data, .data], laidTests := true, laidLooks := .later }
def StipMoversUptoCardSaid : Prop := Claim7.holds Tryd.pinned (.plain (OpenSpec.upto stipMoversSpec)) stipMoversUptoCard

/-- THE SECOND FORM's CARD OF 'alfillaw15.StipCut'. -/
def stipCutUptoCard : Claim7 := { stood := { row := stipCutUptoRow, standIns := [], harness := (true, "362c85388a231f3b7a608bc83b8031582f01ecdae91b752e9b0d9faf0fa446c6"), looks := false }, kinds := [], alts := [], laidByText := true, laidKinds := [.data, .data, .data, .data, .data], laidTests := true, laidLooks := .later }
def StipCutUptoCardSaid : Prop := Claim7.holds Tryd.pinned (.plain (OpenSpec.upto stipCutSpec)) stipCutUptoCard
end Rows
end Go.Proofs.YtnlgjakohoimhaaDoor
