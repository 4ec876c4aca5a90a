/-
  NARROWER THAN 'FOR EVERY INPUT', by the rows' own cells (each row's printed sentence says how): NoteWrites: laid · NoteReads: laid · NoteBack: laid · NoteLine: laid · NoteLong: laid.
  DERIVED. THE GIVEN ROWS OF THIS SEAT. 5 by the template 'for every input the law returns true; each argument reads behind the call as it read before'; 0 by the template 'total and deterministic' (their statements: YtlpeiolgcaddjaaGreatDoorTotals.lean).
  GIVEN WITH THE SEED: the statements are not yours to turn. If you find one false, say at which input.
  Laid BY PROGRAM, IN A SANDBOX (cutbox-rows.mjs): the forced cells as the released guide's own fill.sh prints them over the translation 756ad3e3424051c3… (all of the seat's roots in one cut). By AI agents, Wed Nov 11 2026. No macro, syntax, notation, axiom, sorry.
-/
import Derived.Test.YtlpeiolgcaddjaaGreatDoorChecked
import GoSem.Claim
import GoSem.ClaimJoined
import GoSem.ClaimMapViews
import Derived.JoinedTies
import Derived.KernelRfl
namespace Go.Proofs.YtlpeiolgcaddjaaGreatDoor
/- THE CELL 'sum', in the pinned program and in every row, IS THE sha256 OF THE DUMP (.gsa) THAT YtlpeiolgcaddjaaGreatDoorProg.lean LOADS. Nothing in Lean hashes anything: it is a label: what it is worth is what the hold of that sum in a sandbox is worth. -/
noncomputable def Tryz.pinned : Pinned := { name := "ytlpeiolgcaddjaagreatdoor", sum := "756ad3e3424051c3d2442acfd8f8e160555cd2d1083c823aee6a8fe94a4dde75", checked := Tryz.checked }
namespace Rows
def none {H : Type} : Left H := { results := [], args := [] }

/- WHAT THE LISTED PACKAGE-LEVEL VARIABLES READ AS WHEN THE CALL BEGINS. Each datum BY PROGRAM (the guide's laid-datum.mjs) off the statement by which the dump's own 'gosem.cut.vars' lays the variable. In a bare row this is a premise. The card (YtlpeiolgcaddjaaGreatDoorCards.lean) ties it to the program's text. -/
def laid_alfil_ways_steps {H : Type} : DataW H := .agg [.agg [.lit (.int .i64 0), .lit (.int .i64 1)], .agg [.lit (.int .i64 1), .lit (.int .i64 0)], .agg [.lit (.int .i64 0), .lit (.int .i64 (-1))], .agg [.lit (.int .i64 (-1)), .lit (.int .i64 0)], .agg [.lit (.int .i64 1), .lit (.int .i64 1)], .agg [.lit (.int .i64 1), .lit (.int .i64 (-1))], .agg [.lit (.int .i64 (-1)), .lit (.int .i64 (-1))], .agg [.lit (.int .i64 (-1)), .lit (.int .i64 1)], .agg [.lit (.int .i64 1), .lit (.int .i64 2)], .agg [.lit (.int .i64 2), .lit (.int .i64 1)], .agg [.lit (.int .i64 2), .lit (.int .i64 (-1))], .agg [.lit (.int .i64 1), .lit (.int .i64 (-2))], .agg [.lit (.int .i64 (-1)), .lit (.int .i64 (-2))], .agg [.lit (.int .i64 (-2)), .lit (.int .i64 (-1))], .agg [.lit (.int .i64 (-2)), .lit (.int .i64 1)], .agg [.lit (.int .i64 (-1)), .lit (.int .i64 2)]]
def laid_alfil_pos_homes {H : Type} : DataW H := .agg [.agg [.lit (.int .i64 1), .lit (.int .i64 0), .lit (.int .i64 4), .lit (.int .i64 7)], .agg [.lit (.int .i64 2), .lit (.int .i64 0), .lit (.int .i64 4), .lit (.int .i64 0)], .agg [.lit (.int .i64 4), .lit (.int .i64 1), .lit (.int .i64 60), .lit (.int .i64 63)], .agg [.lit (.int .i64 8), .lit (.int .i64 1), .lit (.int .i64 60), .lit (.int .i64 56)]]
def laid_alfil_pos_views {H : Type} : DataW H := .agg [.agg [.lit (.int .i64 5), .lit (.int .i64 1)], .agg [.lit (.int .i64 2), .lit (.int .i64 (-1))]]
def laid_alfil_move_promos {H : Type} : DataW H := .agg [.lit (.int .i64 0), .lit (.int .i64 2), .lit (.int .i64 3), .lit (.int .i64 4), .lit (.int .i64 5)]
def laid_alfil_move_lastRanks {H : Type} : DataW H := .agg [.lit (.int .i64 7), .lit (.int .i64 0)]
def laid_alfil_move_wings {H : Type} : DataW H := .agg [.agg [.lit (.int .i64 1), .lit (.int .i64 4), .lit (.int .i64 7), .lit (.int .i64 6)], .agg [.lit (.int .i64 2), .lit (.int .i64 4), .lit (.int .i64 0), .lit (.int .i64 2)], .agg [.lit (.int .i64 4), .lit (.int .i64 60), .lit (.int .i64 63), .lit (.int .i64 62)], .agg [.lit (.int .i64 8), .lit (.int .i64 60), .lit (.int .i64 56), .lit (.int .i64 58)]]
def laid_alfil_gen_promos {H : Type} : DataW H := .agg [.lit (.int .i64 5), .lit (.int .i64 4), .lit (.int .i64 3), .lit (.int .i64 2)]
def laid_alfil_gen_marches {H : Type} : DataW H := .agg [.agg [.lit (.int .i64 1), .lit (.int .i64 1), .lit (.int .i64 7)], .agg [.lit (.int .i64 (-1)), .lit (.int .i64 6), .lit (.int .i64 0)]]
def laid_alfil_gen_sideways {H : Type} : DataW H := .agg [.lit (.int .i64 (-2)), .lit (.int .i64 2)]

/-- 'alfillaw13.NoteWrites': WHATEVER THE INPUT: true; the input reads as it did. -/
def noteWritesSpec : ChangeSpec := { name := "noteWrites", fn := fun _ => fun
  | [d1, d2] => { results := [.lit (.bool true)], args := [d1, d2] }
  | _ => none }
def noteWritesRow : OpenClaim := { program := "ytlpeiolgcaddjaagreatdoor", sum := "756ad3e3424051c3d2442acfd8f8e160555cd2d1083c823aee6a8fe94a4dde75", func := "alfil/alfillaw13.NoteWrites", spec := "noteWrites", inPlace := ["internal/abi.NoEscape", "internal/bytealg.MakeNoZero"], unfollowed := true, recurses := true, named := ["alfil/ways.steps", "alfil/pos.homes", "alfil/pos.views", "alfil/gen.marches", "alfil/gen.promos", "alfil/gen.sideways", "alfil/move.lastRanks", "alfil/move.promos", "alfil/move.wings"], apart := false, laid := [("alfil/ways.steps", laid_alfil_ways_steps), ("alfil/pos.homes", laid_alfil_pos_homes), ("alfil/pos.views", laid_alfil_pos_views), ("alfil/move.promos", laid_alfil_move_promos), ("alfil/move.lastRanks", laid_alfil_move_lastRanks), ("alfil/move.wings", laid_alfil_move_wings), ("alfil/gen.promos", laid_alfil_gen_promos), ("alfil/gen.marches", laid_alfil_gen_marches), ("alfil/gen.sideways", laid_alfil_gen_sideways)] }
def NoteWritesSaid : Prop := noteWritesRow.holds Tryz.pinned (OpenSpec.ofChange noteWritesSpec)

/-- ITS FALSE NEIGHBOUR: 'it returns false'. Refute it at one input. -/
def noteWritesWrong : ChangeSpec := { name := "noteWrites", fn := fun _ => fun
  | [d1, d2] => { results := [.lit (.bool false)], args := [d1, d2] }
  | _ => none }
def NoteWritesWrongFalsely : Prop := noteWritesRow.holds Tryz.pinned (OpenSpec.ofChange noteWritesWrong)

/-- 'alfillaw13.NoteReads': WHATEVER THE INPUT: true; the input reads as it did. -/
def noteReadsSpec : ChangeSpec := { name := "noteReads", fn := fun _ => fun
  | [d1, d2] => { results := [.lit (.bool true)], args := [d1, d2] }
  | _ => none }
def noteReadsRow : OpenClaim := { program := "ytlpeiolgcaddjaagreatdoor", sum := "756ad3e3424051c3d2442acfd8f8e160555cd2d1083c823aee6a8fe94a4dde75", func := "alfil/alfillaw13.NoteReads", spec := "noteReads", inPlace := ["internal/abi.NoEscape", "internal/bytealg.MakeNoZero"], unfollowed := true, recurses := true, named := ["alfil/ways.steps", "alfil/pos.homes", "alfil/pos.views", "alfil/gen.marches", "alfil/gen.promos", "alfil/gen.sideways", "alfil/move.lastRanks", "alfil/move.promos", "alfil/move.wings"], apart := false, laid := [("alfil/ways.steps", laid_alfil_ways_steps), ("alfil/pos.homes", laid_alfil_pos_homes), ("alfil/pos.views", laid_alfil_pos_views), ("alfil/move.promos", laid_alfil_move_promos), ("alfil/move.lastRanks", laid_alfil_move_lastRanks), ("alfil/move.wings", laid_alfil_move_wings), ("alfil/gen.promos", laid_alfil_gen_promos), ("alfil/gen.marches", laid_alfil_gen_marches), ("alfil/gen.sideways", laid_alfil_gen_sideways)] }
def NoteReadsSaid : Prop := noteReadsRow.holds Tryz.pinned (OpenSpec.ofChange noteReadsSpec)

/-- ITS FALSE NEIGHBOUR: 'it returns false'. Refute it at one input. -/
def noteReadsWrong : ChangeSpec := { name := "noteReads", fn := fun _ => fun
  | [d1, d2] => { results := [.lit (.bool false)], args := [d1, d2] }
  | _ => none }
def NoteReadsWrongFalsely : Prop := noteReadsRow.holds Tryz.pinned (OpenSpec.ofChange noteReadsWrong)

/-- 'alfillaw13.NoteBack': WHATEVER THE INPUT: true; the input reads as it did. -/
def noteBackSpec : ChangeSpec := { name := "noteBack", fn := fun _ => fun
  | [d] => { results := [.lit (.bool true)], args := [d] }
  | _ => none }
def noteBackRow : OpenClaim := { program := "ytlpeiolgcaddjaagreatdoor", sum := "756ad3e3424051c3d2442acfd8f8e160555cd2d1083c823aee6a8fe94a4dde75", func := "alfil/alfillaw13.NoteBack", spec := "noteBack", inPlace := ["internal/abi.NoEscape", "internal/bytealg.MakeNoZero"], unfollowed := true, recurses := true, named := ["alfil/ways.steps", "alfil/pos.homes", "alfil/pos.views", "alfil/gen.marches", "alfil/gen.promos", "alfil/gen.sideways", "alfil/move.lastRanks", "alfil/move.promos", "alfil/move.wings"], apart := false, laid := [("alfil/ways.steps", laid_alfil_ways_steps), ("alfil/pos.homes", laid_alfil_pos_homes), ("alfil/pos.views", laid_alfil_pos_views), ("alfil/move.promos", laid_alfil_move_promos), ("alfil/move.lastRanks", laid_alfil_move_lastRanks), ("alfil/move.wings", laid_alfil_move_wings), ("alfil/gen.promos", laid_alfil_gen_promos), ("alfil/gen.marches", laid_alfil_gen_marches), ("alfil/gen.sideways", laid_alfil_gen_sideways)] }
def NoteBackSaid : Prop := noteBackRow.holds Tryz.pinned (OpenSpec.ofChange noteBackSpec)

/-- ITS FALSE NEIGHBOUR: 'it returns false'. Refute it at one input. -/
def noteBackWrong : ChangeSpec := { name := "noteBack", fn := fun _ => fun
  | [d] => { results := [.lit (.bool false)], args := [d] }
  | _ => none }
def NoteBackWrongFalsely : Prop := noteBackRow.holds Tryz.pinned (OpenSpec.ofChange noteBackWrong)

/-- 'alfillaw13.NoteLine': WHATEVER THE INPUT: true; the input reads as it did. -/
def noteLineSpec : ChangeSpec := { name := "noteLine", fn := fun _ => fun
  | [d1, d2] => { results := [.lit (.bool true)], args := [d1, d2] }
  | _ => none }
def noteLineRow : OpenClaim := { program := "ytlpeiolgcaddjaagreatdoor", sum := "756ad3e3424051c3d2442acfd8f8e160555cd2d1083c823aee6a8fe94a4dde75", func := "alfil/alfillaw13.NoteLine", spec := "noteLine", inPlace := ["internal/abi.NoEscape", "internal/bytealg.MakeNoZero"], unfollowed := true, recurses := true, named := ["alfil/ways.steps", "alfil/pos.homes", "alfil/pos.views", "alfil/gen.marches", "alfil/gen.promos", "alfil/gen.sideways", "alfil/move.lastRanks", "alfil/move.promos", "alfil/move.wings"], apart := false, laid := [("alfil/ways.steps", laid_alfil_ways_steps), ("alfil/pos.homes", laid_alfil_pos_homes), ("alfil/pos.views", laid_alfil_pos_views), ("alfil/move.promos", laid_alfil_move_promos), ("alfil/move.lastRanks", laid_alfil_move_lastRanks), ("alfil/move.wings", laid_alfil_move_wings), ("alfil/gen.promos", laid_alfil_gen_promos), ("alfil/gen.marches", laid_alfil_gen_marches), ("alfil/gen.sideways", laid_alfil_gen_sideways)] }
def NoteLineSaid : Prop := noteLineRow.holds Tryz.pinned (OpenSpec.ofChange noteLineSpec)

/-- ITS FALSE NEIGHBOUR: 'it returns false'. Refute it at one input. -/
def noteLineWrong : ChangeSpec := { name := "noteLine", fn := fun _ => fun
  | [d1, d2] => { results := [.lit (.bool false)], args := [d1, d2] }
  | _ => none }
def NoteLineWrongFalsely : Prop := noteLineRow.holds Tryz.pinned (OpenSpec.ofChange noteLineWrong)

/-- 'alfillaw13.NoteLong': WHATEVER THE INPUT: true; the input reads as it did. -/
def noteLongSpec : ChangeSpec := { name := "noteLong", fn := fun _ => fun
  | [d] => { results := [.lit (.bool true)], args := [d] }
  | _ => none }
def noteLongRow : OpenClaim := { program := "ytlpeiolgcaddjaagreatdoor", sum := "756ad3e3424051c3d2442acfd8f8e160555cd2d1083c823aee6a8fe94a4dde75", func := "alfil/alfillaw13.NoteLong", spec := "noteLong", inPlace := ["internal/abi.NoEscape", "internal/bytealg.MakeNoZero"], unfollowed := true, recurses := true, named := ["alfil/ways.steps", "alfil/pos.homes", "alfil/pos.views", "alfil/gen.marches", "alfil/gen.promos", "alfil/gen.sideways", "alfil/move.lastRanks", "alfil/move.promos", "alfil/move.wings"], apart := false, laid := [("alfil/ways.steps", laid_alfil_ways_steps), ("alfil/pos.homes", laid_alfil_pos_homes), ("alfil/pos.views", laid_alfil_pos_views), ("alfil/move.promos", laid_alfil_move_promos), ("alfil/move.lastRanks", laid_alfil_move_lastRanks), ("alfil/move.wings", laid_alfil_move_wings), ("alfil/gen.promos", laid_alfil_gen_promos), ("alfil/gen.marches", laid_alfil_gen_marches), ("alfil/gen.sideways", laid_alfil_gen_sideways)] }
def NoteLongSaid : Prop := noteLongRow.holds Tryz.pinned (OpenSpec.ofChange noteLongSpec)

/-- ITS FALSE NEIGHBOUR: 'it returns false'. Refute it at one input. -/
def noteLongWrong : ChangeSpec := { name := "noteLong", fn := fun _ => fun
  | [d] => { results := [.lit (.bool false)], args := [d] }
  | _ => none }
def NoteLongWrongFalsely : Prop := noteLongRow.holds Tryz.pinned (OpenSpec.ofChange noteLongWrong)

/- THE SECOND FORM. 'bulk': how many values and letters a reading holds, each counted each time it is reached (what is shared counts as often as it is met; a slice's spare places count too). A statement '..UptoSaid' is the law's where the arguments, and the package variables that the reading takes, are together of bulk at most 1048576: NARROWER than '..Said'. Prove '..Said' where nothing that the law and all that it calls make is longer than what came in: it says more and counts as full. Else prove '..UptoSaid'. A law counts once. -/
mutual
def uptoBulk {H : Type} : DataW H → Nat
  | .lit (.string bytes) => bytes.length + 1
  | .lit _ => 1
  | .nil => 1
  | .ptr d => uptoBulk d + 1
  | .slice elems spare => uptoBulkAll elems + uptoBulkAll spare + 1
  | .agg parts => uptoBulkAll parts + 1
  | .iface _ d => uptoBulk d + 1
  | .map entries => uptoBulkEntries entries + 1
  | .held _ => 1
def uptoBulkAll {H : Type} : List (DataW H) → Nat
  | [] => 0
  | d :: r => uptoBulk d + uptoBulkAll r
def uptoBulkEntries {H : Type} : List (Lit × DataW H) → Nat
  | [] => 0
  | x :: r => uptoBulkEntry x + uptoBulkEntries r
def uptoBulkEntry {H : Type} : Lit × DataW H → Nat
  | (.string bytes, d) => bytes.length + uptoBulk d + 1
  | (_, d) => uptoBulk d + 1
 end
def uptoSmall : (H : Type) → List (DataW H) → Bool := fun _ ds => decide (uptoBulkAll ds ≤ 1048576)
def OpenSpec.upto (s : _root_.Go.ChangeSpec) : _root_.Go.OpenSpec := { _root_.Go.OpenSpec.ofChange s with cond := some uptoSmall }

/-- 'alfillaw13.NoteWrites', WHERE WHAT IT READS IS OF BULK AT MOST 1048576: true; the input reads as it did. -/
def noteWritesUptoRow : OpenClaim := { program := "ytlpeiolgcaddjaagreatdoor", sum := "756ad3e3424051c3d2442acfd8f8e160555cd2d1083c823aee6a8fe94a4dde75", func := "alfil/alfillaw13.NoteWrites", spec := "noteWrites", inPlace := ["internal/abi.NoEscape", "internal/bytealg.MakeNoZero"], unfollowed := true, recurses := true, named := ["alfil/ways.steps", "alfil/pos.homes", "alfil/pos.views", "alfil/gen.marches", "alfil/gen.promos", "alfil/gen.sideways", "alfil/move.lastRanks", "alfil/move.promos", "alfil/move.wings"], apart := false, laid := [("alfil/ways.steps", laid_alfil_ways_steps), ("alfil/pos.homes", laid_alfil_pos_homes), ("alfil/pos.views", laid_alfil_pos_views), ("alfil/move.promos", laid_alfil_move_promos), ("alfil/move.lastRanks", laid_alfil_move_lastRanks), ("alfil/move.wings", laid_alfil_move_wings), ("alfil/gen.promos", laid_alfil_gen_promos), ("alfil/gen.marches", laid_alfil_gen_marches), ("alfil/gen.sideways", laid_alfil_gen_sideways)], narrowed := true }
def NoteWritesUptoSaid : Prop := noteWritesUptoRow.holds Tryz.pinned (OpenSpec.upto noteWritesSpec)

/-- 'alfillaw13.NoteReads', WHERE WHAT IT READS IS OF BULK AT MOST 1048576: true; the input reads as it did. -/
def noteReadsUptoRow : OpenClaim := { program := "ytlpeiolgcaddjaagreatdoor", sum := "756ad3e3424051c3d2442acfd8f8e160555cd2d1083c823aee6a8fe94a4dde75", func := "alfil/alfillaw13.NoteReads", spec := "noteReads", inPlace := ["internal/abi.NoEscape", "internal/bytealg.MakeNoZero"], unfollowed := true, recurses := true, named := ["alfil/ways.steps", "alfil/pos.homes", "alfil/pos.views", "alfil/gen.marches", "alfil/gen.promos", "alfil/gen.sideways", "alfil/move.lastRanks", "alfil/move.promos", "alfil/move.wings"], apart := false, laid := [("alfil/ways.steps", laid_alfil_ways_steps), ("alfil/pos.homes", laid_alfil_pos_homes), ("alfil/pos.views", laid_alfil_pos_views), ("alfil/move.promos", laid_alfil_move_promos), ("alfil/move.lastRanks", laid_alfil_move_lastRanks), ("alfil/move.wings", laid_alfil_move_wings), ("alfil/gen.promos", laid_alfil_gen_promos), ("alfil/gen.marches", laid_alfil_gen_marches), ("alfil/gen.sideways", laid_alfil_gen_sideways)], narrowed := true }
def NoteReadsUptoSaid : Prop := noteReadsUptoRow.holds Tryz.pinned (OpenSpec.upto noteReadsSpec)

/-- 'alfillaw13.NoteBack', WHERE WHAT IT READS IS OF BULK AT MOST 1048576: true; the input reads as it did. -/
def noteBackUptoRow : OpenClaim := { program := "ytlpeiolgcaddjaagreatdoor", sum := "756ad3e3424051c3d2442acfd8f8e160555cd2d1083c823aee6a8fe94a4dde75", func := "alfil/alfillaw13.NoteBack", spec := "noteBack", inPlace := ["internal/abi.NoEscape", "internal/bytealg.MakeNoZero"], unfollowed := true, recurses := true, named := ["alfil/ways.steps", "alfil/pos.homes", "alfil/pos.views", "alfil/gen.marches", "alfil/gen.promos", "alfil/gen.sideways", "alfil/move.lastRanks", "alfil/move.promos", "alfil/move.wings"], apart := false, laid := [("alfil/ways.steps", laid_alfil_ways_steps), ("alfil/pos.homes", laid_alfil_pos_homes), ("alfil/pos.views", laid_alfil_pos_views), ("alfil/move.promos", laid_alfil_move_promos), ("alfil/move.lastRanks", laid_alfil_move_lastRanks), ("alfil/move.wings", laid_alfil_move_wings), ("alfil/gen.promos", laid_alfil_gen_promos), ("alfil/gen.marches", laid_alfil_gen_marches), ("alfil/gen.sideways", laid_alfil_gen_sideways)], narrowed := true }
def NoteBackUptoSaid : Prop := noteBackUptoRow.holds Tryz.pinned (OpenSpec.upto noteBackSpec)

/-- 'alfillaw13.NoteLine', WHERE WHAT IT READS IS OF BULK AT MOST 1048576: true; the input reads as it did. -/
def noteLineUptoRow : OpenClaim := { program := "ytlpeiolgcaddjaagreatdoor", sum := "756ad3e3424051c3d2442acfd8f8e160555cd2d1083c823aee6a8fe94a4dde75", func := "alfil/alfillaw13.NoteLine", spec := "noteLine", inPlace := ["internal/abi.NoEscape", "internal/bytealg.MakeNoZero"], unfollowed := true, recurses := true, named := ["alfil/ways.steps", "alfil/pos.homes", "alfil/pos.views", "alfil/gen.marches", "alfil/gen.promos", "alfil/gen.sideways", "alfil/move.lastRanks", "alfil/move.promos", "alfil/move.wings"], apart := false, laid := [("alfil/ways.steps", laid_alfil_ways_steps), ("alfil/pos.homes", laid_alfil_pos_homes), ("alfil/pos.views", laid_alfil_pos_views), ("alfil/move.promos", laid_alfil_move_promos), ("alfil/move.lastRanks", laid_alfil_move_lastRanks), ("alfil/move.wings", laid_alfil_move_wings), ("alfil/gen.promos", laid_alfil_gen_promos), ("alfil/gen.marches", laid_alfil_gen_marches), ("alfil/gen.sideways", laid_alfil_gen_sideways)], narrowed := true }
def NoteLineUptoSaid : Prop := noteLineUptoRow.holds Tryz.pinned (OpenSpec.upto noteLineSpec)

/-- 'alfillaw13.NoteLong', WHERE WHAT IT READS IS OF BULK AT MOST 1048576: true; the input reads as it did. -/
def noteLongUptoRow : OpenClaim := { program := "ytlpeiolgcaddjaagreatdoor", sum := "756ad3e3424051c3d2442acfd8f8e160555cd2d1083c823aee6a8fe94a4dde75", func := "alfil/alfillaw13.NoteLong", spec := "noteLong", inPlace := ["internal/abi.NoEscape", "internal/bytealg.MakeNoZero"], unfollowed := true, recurses := true, named := ["alfil/ways.steps", "alfil/pos.homes", "alfil/pos.views", "alfil/gen.marches", "alfil/gen.promos", "alfil/gen.sideways", "alfil/move.lastRanks", "alfil/move.promos", "alfil/move.wings"], apart := false, laid := [("alfil/ways.steps", laid_alfil_ways_steps), ("alfil/pos.homes", laid_alfil_pos_homes), ("alfil/pos.views", laid_alfil_pos_views), ("alfil/move.promos", laid_alfil_move_promos), ("alfil/move.lastRanks", laid_alfil_move_lastRanks), ("alfil/move.wings", laid_alfil_move_wings), ("alfil/gen.promos", laid_alfil_gen_promos), ("alfil/gen.marches", laid_alfil_gen_marches), ("alfil/gen.sideways", laid_alfil_gen_sideways)], narrowed := true }
def NoteLongUptoSaid : Prop := noteLongUptoRow.holds Tryz.pinned (OpenSpec.upto noteLongSpec)

end Rows
end Go.Proofs.YtlpeiolgcaddjaaGreatDoor
