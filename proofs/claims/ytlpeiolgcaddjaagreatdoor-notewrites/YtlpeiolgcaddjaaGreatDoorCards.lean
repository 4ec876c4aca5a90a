/-
  DERIVED. GIVEN WITH THE SEED: THE CARDS: each row of YtlpeiolgcaddjaaGreatDoorRows.lean that lists a variable, with what it lists TIED to the program's text (the seventh form; the later family's looks); each row that meets fmt, with fmt's text TOLD by the authors' own Lean function (tested against real Go, not proved from fmt's source: count such statements apart). THE CARD IS WHAT COUNTS. Prove the row's statement (the work); the ties are given (YtlpeiolgcaddjaaGreatDoorTie.lean); close each card by the builder's one call (the guide's Derived/Test/ToyasCard.lean, 'card_holds'). Laid BY PROGRAM, IN A SANDBOX (cutbox-door.mjs). By AI agents, Wed Nov 11 2026. No macro, syntax, notation, axiom, sorry.
-/
import Derived.Test.YtlpeiolgcaddjaaGreatDoorRows
import GoSem.ClaimSeven
namespace Go.Proofs.YtlpeiolgcaddjaaGreatDoor
namespace Rows

/-- THE TIED CARD OF 'alfillaw13.NoteWrites'. -/
def noteWritesCard : Claim7 := { stood := { row := noteWritesRow, standIns := [], harness := (true, "40586a89993790d089ca0a1e99996214f6e8b56aefffbca551012d6b55a592ae"), looks := false }, kinds := [], alts := [], laidByText := true, laidKinds := [.data, .data, .data, .data, .data, .data, .data, .data, .data], laidTests := true, laidLooks := .later }
def NoteWritesCardSaid : Prop := Claim7.holds Tryz.pinned (.plain (OpenSpec.ofChange noteWritesSpec)) noteWritesCard

/-- THE TIED CARD OF 'alfillaw13.NoteReads'. -/
def noteReadsCard : Claim7 := { stood := { row := noteReadsRow, standIns := [], harness := (true, "40586a89993790d089ca0a1e99996214f6e8b56aefffbca551012d6b55a592ae"), looks := false }, kinds := [], alts := [], laidByText := true, laidKinds := [.data, .data, .data, .data, .data, .data, .data, .data, .data], laidTests := true, laidLooks := .later }
def NoteReadsCardSaid : Prop := Claim7.holds Tryz.pinned (.plain (OpenSpec.ofChange noteReadsSpec)) noteReadsCard

/-- THE TIED CARD OF 'alfillaw13.NoteBack'. -/
def noteBackCard : Claim7 := { stood := { row := noteBackRow, standIns := [], harness := (true, "40586a89993790d089ca0a1e99996214f6e8b56aefffbca551012d6b55a592ae"), looks := false }, kinds := [], alts := [], laidByText := true, laidKinds := [.data, .data, .data, .data, .data, .data, .data, .data, .data], laidTests := true, laidLooks := .later }
def NoteBackCardSaid : Prop := Claim7.holds Tryz.pinned (.plain (OpenSpec.ofChange noteBackSpec)) noteBackCard

/-- THE TIED CARD OF 'alfillaw13.NoteLine'. -/
def noteLineCard : Claim7 := { stood := { row := noteLineRow, standIns := [], harness := (true, "40586a89993790d089ca0a1e99996214f6e8b56aefffbca551012d6b55a592ae"), looks := false }, kinds := [], alts := [], laidByText := true, laidKinds := [.data, .data, .data, .data, .data, .data, .data, .data, .data], laidTests := true, laidLooks := .later }
def NoteLineCardSaid : Prop := Claim7.holds Tryz.pinned (.plain (OpenSpec.ofChange noteLineSpec)) noteLineCard

/-- THE TIED CARD OF 'alfillaw13.NoteLong'. -/
def noteLongCard : Claim7 := { stood := { row := noteLongRow, standIns := [], harness := (true, "40586a89993790d089ca0a1e99996214f6e8b56aefffbca551012d6b55a592ae"), looks := false }, kinds := [], alts := [], laidByText := true, laidKinds := [.data, .data, .data, .data, .data, .data, .data, .data, .data], laidTests := true, laidLooks := .later }
def NoteLongCardSaid : Prop := Claim7.holds Tryz.pinned (.plain (OpenSpec.ofChange noteLongSpec)) noteLongCard

/-- THE SECOND FORM's CARD OF 'alfillaw13.NoteWrites'. -/
def noteWritesUptoCard : Claim7 := { stood := { row := noteWritesUptoRow, standIns := [], harness := (true, "40586a89993790d089ca0a1e99996214f6e8b56aefffbca551012d6b55a592ae"), looks := false }, kinds := [], alts := [], laidByText := true, laidKinds := [.data, .data, .data, .data, .data, .data, .data, .data, .data], laidTests := true, laidLooks := .later }
def NoteWritesUptoCardSaid : Prop := Claim7.holds Tryz.pinned (.plain (OpenSpec.upto noteWritesSpec)) noteWritesUptoCard

/-- THE SECOND FORM's CARD OF 'alfillaw13.NoteReads'. -/
def noteReadsUptoCard : Claim7 := { stood := { row := noteReadsUptoRow, standIns := [], harness := (true, "40586a89993790d089ca0a1e99996214f6e8b56aefffbca551012d6b55a592ae"), looks := false }, kinds := [], alts := [], laidByText := true, laidKinds := [.data, .data, .data, .data, .data, .data, .data, .data, .data], laidTests := true, laidLooks := .later }
def NoteReadsUptoCardSaid : Prop := Claim7.holds Tryz.pinned (.plain (OpenSpec.upto noteReadsSpec)) noteReadsUptoCard

/-- THE SECOND FORM's CARD OF 'alfillaw13.NoteBack'. -/
def noteBackUptoCard : Claim7 := { stood := { row := noteBackUptoRow, standIns := [], harness := (true, "40586a89993790d089ca0a1e99996214f6e8b56aefffbca551012d6b55a592ae"), looks := false }, kinds := [], alts := [], laidByText := true, laidKinds := [.data, .data, .data, .data, .data, .data, .data, .data, .data], laidTests := true, laidLooks := .later }
def NoteBackUptoCardSaid : Prop := Claim7.holds Tryz.pinned (.plain (OpenSpec.upto noteBackSpec)) noteBackUptoCard

/-- THE SECOND FORM's CARD OF 'alfillaw13.NoteLine'. -/
def noteLineUptoCard : Claim7 := { stood := { row := noteLineUptoRow, standIns := [], harness := (true, "40586a89993790d089ca0a1e99996214f6e8b56aefffbca551012d6b55a592ae"), looks := false }, kinds := [], alts := [], laidByText := true, laidKinds := [.data, .data, .data, .data, .data, .data, .data, .data, .data], laidTests := true, laidLooks := .later }
def NoteLineUptoCardSaid : Prop := Claim7.holds Tryz.pinned (.plain (OpenSpec.upto noteLineSpec)) noteLineUptoCard

/-- THE SECOND FORM's CARD OF 'alfillaw13.NoteLong'. -/
def noteLongUptoCard : Claim7 := { stood := { row := noteLongUptoRow, standIns := [], harness := (true, "40586a89993790d089ca0a1e99996214f6e8b56aefffbca551012d6b55a592ae"), looks := false }, kinds := [], alts := [], laidByText := true, laidKinds := [.data, .data, .data, .data, .data, .data, .data, .data, .data], laidTests := true, laidLooks := .later }
def NoteLongUptoCardSaid : Prop := Claim7.holds Tryz.pinned (.plain (OpenSpec.upto noteLongSpec)) noteLongUptoCard
end Rows
end Go.Proofs.YtlpeiolgcaddjaaGreatDoor
