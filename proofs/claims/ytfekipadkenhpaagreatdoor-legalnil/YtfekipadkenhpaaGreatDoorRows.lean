/-
  NARROWER THAN 'FOR EVERY INPUT', by the rows' own cells (each row's printed sentence says how): LegalMoves: laid · LegalPlays: laid · LegalRight: laid · LegalFlights: laid · LegalTurned: laid · LegalNil: laid.
  DERIVED. THE GIVEN ROWS OF THIS SEAT. 6 by the template 'for every input the law returns true; each argument reads behind the call as it read before'; 0 by the template 'total and deterministic' (their statements: YtfekipadkenhpaaGreatDoorTotals.lean).
  GIVEN WITH THE SEED: the statements are not yours to turn. If you find one false, say at which input.
  Laid BY PROGRAM, IN A SANDBOX (cutbox-rows.mjs): the forced cells as the released guide's own fill.sh prints them over the translation a4a2d337fe7419f3… (all of the seat's roots in one cut). By AI agents, Wed Nov 11 2026. No macro, syntax, notation, axiom, sorry.
-/
import Derived.Test.YtfekipadkenhpaaGreatDoorChecked
import GoSem.Claim
import GoSem.ClaimJoined
import GoSem.ClaimMapViews
import Derived.JoinedTies
import Derived.KernelRfl
namespace Go.Proofs.YtfekipadkenhpaaGreatDoor
/- THE CELL 'sum', in the pinned program and in every row, IS THE sha256 OF THE DUMP (.gsa) THAT YtfekipadkenhpaaGreatDoorProg.lean LOADS. Nothing in Lean hashes anything: it is a label: what it is worth is what the hold of that sum in a sandbox is worth. -/
noncomputable def Tryz.pinned : Pinned := { name := "ytfekipadkenhpaagreatdoor", sum := "a4a2d337fe7419f38405121f540718878490f1d643f7c9408c557114a9555827", checked := Tryz.checked }
namespace Rows
def none {H : Type} : Left H := { results := [], args := [] }

/- WHAT THE LISTED PACKAGE-LEVEL VARIABLES READ AS WHEN THE CALL BEGINS. Each datum BY PROGRAM (the guide's laid-datum.mjs) off the statement by which the dump's own 'gosem.cut.vars' lays the variable. In a bare row this is a premise. The card (YtfekipadkenhpaaGreatDoorCards.lean) ties it to the program's text. -/
def laid_alfil_ways_steps {H : Type} : DataW H := .agg [.agg [.lit (.int .i64 0), .lit (.int .i64 1)], .agg [.lit (.int .i64 1), .lit (.int .i64 0)], .agg [.lit (.int .i64 0), .lit (.int .i64 (-1))], .agg [.lit (.int .i64 (-1)), .lit (.int .i64 0)], .agg [.lit (.int .i64 1), .lit (.int .i64 1)], .agg [.lit (.int .i64 1), .lit (.int .i64 (-1))], .agg [.lit (.int .i64 (-1)), .lit (.int .i64 (-1))], .agg [.lit (.int .i64 (-1)), .lit (.int .i64 1)], .agg [.lit (.int .i64 1), .lit (.int .i64 2)], .agg [.lit (.int .i64 2), .lit (.int .i64 1)], .agg [.lit (.int .i64 2), .lit (.int .i64 (-1))], .agg [.lit (.int .i64 1), .lit (.int .i64 (-2))], .agg [.lit (.int .i64 (-1)), .lit (.int .i64 (-2))], .agg [.lit (.int .i64 (-2)), .lit (.int .i64 (-1))], .agg [.lit (.int .i64 (-2)), .lit (.int .i64 1)], .agg [.lit (.int .i64 (-1)), .lit (.int .i64 2)]]
def laid_alfil_pos_homes {H : Type} : DataW H := .agg [.agg [.lit (.int .i64 1), .lit (.int .i64 0), .lit (.int .i64 4), .lit (.int .i64 7)], .agg [.lit (.int .i64 2), .lit (.int .i64 0), .lit (.int .i64 4), .lit (.int .i64 0)], .agg [.lit (.int .i64 4), .lit (.int .i64 1), .lit (.int .i64 60), .lit (.int .i64 63)], .agg [.lit (.int .i64 8), .lit (.int .i64 1), .lit (.int .i64 60), .lit (.int .i64 56)]]
def laid_alfil_pos_views {H : Type} : DataW H := .agg [.agg [.lit (.int .i64 5), .lit (.int .i64 1)], .agg [.lit (.int .i64 2), .lit (.int .i64 (-1))]]
def laid_alfil_move_promos {H : Type} : DataW H := .agg [.lit (.int .i64 0), .lit (.int .i64 2), .lit (.int .i64 3), .lit (.int .i64 4), .lit (.int .i64 5)]
def laid_alfil_move_lastRanks {H : Type} : DataW H := .agg [.lit (.int .i64 7), .lit (.int .i64 0)]
def laid_alfil_move_wings {H : Type} : DataW H := .agg [.agg [.lit (.int .i64 1), .lit (.int .i64 4), .lit (.int .i64 7), .lit (.int .i64 6)], .agg [.lit (.int .i64 2), .lit (.int .i64 4), .lit (.int .i64 0), .lit (.int .i64 2)], .agg [.lit (.int .i64 4), .lit (.int .i64 60), .lit (.int .i64 63), .lit (.int .i64 62)], .agg [.lit (.int .i64 8), .lit (.int .i64 60), .lit (.int .i64 56), .lit (.int .i64 58)]]
def laid_alfil_gen_promos {H : Type} : DataW H := .agg [.lit (.int .i64 5), .lit (.int .i64 4), .lit (.int .i64 3), .lit (.int .i64 2)]
def laid_alfil_gen_marches {H : Type} : DataW H := .agg [.agg [.lit (.int .i64 1), .lit (.int .i64 1), .lit (.int .i64 7)], .agg [.lit (.int .i64 (-1)), .lit (.int .i64 6), .lit (.int .i64 0)]]
def laid_alfil_gen_sideways {H : Type} : DataW H := .agg [.lit (.int .i64 (-2)), .lit (.int .i64 2)]

/-- 'alfillaw11.LegalMoves': WHATEVER THE INPUT: true; the input reads as it did. -/
def legalMovesSpec : ChangeSpec := { name := "legalMoves", fn := fun _ => fun
  | [d] => { results := [.lit (.bool true)], args := [d] }
  | _ => none }
def legalMovesRow : OpenClaim := { program := "ytfekipadkenhpaagreatdoor", sum := "a4a2d337fe7419f38405121f540718878490f1d643f7c9408c557114a9555827", func := "alfil/alfillaw11.LegalMoves", spec := "legalMoves", unfollowed := true, recurses := true, named := ["alfil/ways.steps", "alfil/pos.homes", "alfil/pos.views", "alfil/gen.marches", "alfil/gen.promos", "alfil/gen.sideways", "alfil/move.lastRanks", "alfil/move.promos", "alfil/move.wings"], apart := false, laid := [("alfil/ways.steps", laid_alfil_ways_steps), ("alfil/pos.homes", laid_alfil_pos_homes), ("alfil/pos.views", laid_alfil_pos_views), ("alfil/move.promos", laid_alfil_move_promos), ("alfil/move.lastRanks", laid_alfil_move_lastRanks), ("alfil/move.wings", laid_alfil_move_wings), ("alfil/gen.promos", laid_alfil_gen_promos), ("alfil/gen.marches", laid_alfil_gen_marches), ("alfil/gen.sideways", laid_alfil_gen_sideways)] }
def LegalMovesSaid : Prop := legalMovesRow.holds Tryz.pinned (OpenSpec.ofChange legalMovesSpec)

/-- ITS FALSE NEIGHBOUR: 'it returns false'. Refute it at one input. -/
def legalMovesWrong : ChangeSpec := { name := "legalMoves", fn := fun _ => fun
  | [d] => { results := [.lit (.bool false)], args := [d] }
  | _ => none }
def LegalMovesWrongFalsely : Prop := legalMovesRow.holds Tryz.pinned (OpenSpec.ofChange legalMovesWrong)

/-- 'alfillaw11.LegalPlays': WHATEVER THE INPUT: true; the input reads as it did. -/
def legalPlaysSpec : ChangeSpec := { name := "legalPlays", fn := fun _ => fun
  | [d1, d2] => { results := [.lit (.bool true)], args := [d1, d2] }
  | _ => none }
def legalPlaysRow : OpenClaim := { program := "ytfekipadkenhpaagreatdoor", sum := "a4a2d337fe7419f38405121f540718878490f1d643f7c9408c557114a9555827", func := "alfil/alfillaw11.LegalPlays", spec := "legalPlays", unfollowed := true, recurses := true, named := ["alfil/ways.steps", "alfil/pos.homes", "alfil/pos.views", "alfil/gen.marches", "alfil/gen.promos", "alfil/gen.sideways", "alfil/move.lastRanks", "alfil/move.promos", "alfil/move.wings"], apart := false, laid := [("alfil/ways.steps", laid_alfil_ways_steps), ("alfil/pos.homes", laid_alfil_pos_homes), ("alfil/pos.views", laid_alfil_pos_views), ("alfil/move.promos", laid_alfil_move_promos), ("alfil/move.lastRanks", laid_alfil_move_lastRanks), ("alfil/move.wings", laid_alfil_move_wings), ("alfil/gen.promos", laid_alfil_gen_promos), ("alfil/gen.marches", laid_alfil_gen_marches), ("alfil/gen.sideways", laid_alfil_gen_sideways)] }
def LegalPlaysSaid : Prop := legalPlaysRow.holds Tryz.pinned (OpenSpec.ofChange legalPlaysSpec)

/-- ITS FALSE NEIGHBOUR: 'it returns false'. Refute it at one input. -/
def legalPlaysWrong : ChangeSpec := { name := "legalPlays", fn := fun _ => fun
  | [d1, d2] => { results := [.lit (.bool false)], args := [d1, d2] }
  | _ => none }
def LegalPlaysWrongFalsely : Prop := legalPlaysRow.holds Tryz.pinned (OpenSpec.ofChange legalPlaysWrong)

/-- 'alfillaw11.LegalRight': WHATEVER THE INPUT: true; the input reads as it did. -/
def legalRightSpec : ChangeSpec := { name := "legalRight", fn := fun _ => fun
  | [d] => { results := [.lit (.bool true)], args := [d] }
  | _ => none }
def legalRightRow : OpenClaim := { program := "ytfekipadkenhpaagreatdoor", sum := "a4a2d337fe7419f38405121f540718878490f1d643f7c9408c557114a9555827", func := "alfil/alfillaw11.LegalRight", spec := "legalRight", unfollowed := true, recurses := true, named := ["alfil/ways.steps", "alfil/pos.homes", "alfil/pos.views", "alfil/gen.marches", "alfil/gen.promos", "alfil/gen.sideways", "alfil/move.lastRanks", "alfil/move.promos", "alfil/move.wings"], apart := false, laid := [("alfil/ways.steps", laid_alfil_ways_steps), ("alfil/pos.homes", laid_alfil_pos_homes), ("alfil/pos.views", laid_alfil_pos_views), ("alfil/move.promos", laid_alfil_move_promos), ("alfil/move.lastRanks", laid_alfil_move_lastRanks), ("alfil/move.wings", laid_alfil_move_wings), ("alfil/gen.promos", laid_alfil_gen_promos), ("alfil/gen.marches", laid_alfil_gen_marches), ("alfil/gen.sideways", laid_alfil_gen_sideways)] }
def LegalRightSaid : Prop := legalRightRow.holds Tryz.pinned (OpenSpec.ofChange legalRightSpec)

/-- ITS FALSE NEIGHBOUR: 'it returns false'. Refute it at one input. -/
def legalRightWrong : ChangeSpec := { name := "legalRight", fn := fun _ => fun
  | [d] => { results := [.lit (.bool false)], args := [d] }
  | _ => none }
def LegalRightWrongFalsely : Prop := legalRightRow.holds Tryz.pinned (OpenSpec.ofChange legalRightWrong)

/-- 'alfillaw11.LegalFlights': WHATEVER THE INPUT: true; the input reads as it did. -/
def legalFlightsSpec : ChangeSpec := { name := "legalFlights", fn := fun _ => fun
  | [d] => { results := [.lit (.bool true)], args := [d] }
  | _ => none }
def legalFlightsRow : OpenClaim := { program := "ytfekipadkenhpaagreatdoor", sum := "a4a2d337fe7419f38405121f540718878490f1d643f7c9408c557114a9555827", func := "alfil/alfillaw11.LegalFlights", spec := "legalFlights", unfollowed := true, recurses := true, named := ["alfil/ways.steps", "alfil/pos.homes", "alfil/pos.views", "alfil/gen.marches", "alfil/gen.promos", "alfil/gen.sideways", "alfil/move.lastRanks", "alfil/move.promos", "alfil/move.wings"], apart := false, laid := [("alfil/ways.steps", laid_alfil_ways_steps), ("alfil/pos.homes", laid_alfil_pos_homes), ("alfil/pos.views", laid_alfil_pos_views), ("alfil/move.promos", laid_alfil_move_promos), ("alfil/move.lastRanks", laid_alfil_move_lastRanks), ("alfil/move.wings", laid_alfil_move_wings), ("alfil/gen.promos", laid_alfil_gen_promos), ("alfil/gen.marches", laid_alfil_gen_marches), ("alfil/gen.sideways", laid_alfil_gen_sideways)] }
def LegalFlightsSaid : Prop := legalFlightsRow.holds Tryz.pinned (OpenSpec.ofChange legalFlightsSpec)

/-- ITS FALSE NEIGHBOUR: 'it returns false'. Refute it at one input. -/
def legalFlightsWrong : ChangeSpec := { name := "legalFlights", fn := fun _ => fun
  | [d] => { results := [.lit (.bool false)], args := [d] }
  | _ => none }
def LegalFlightsWrongFalsely : Prop := legalFlightsRow.holds Tryz.pinned (OpenSpec.ofChange legalFlightsWrong)

/-- 'alfillaw11.LegalTurned': WHATEVER THE INPUT: true; the input reads as it did. -/
def legalTurnedSpec : ChangeSpec := { name := "legalTurned", fn := fun _ => fun
  | [d] => { results := [.lit (.bool true)], args := [d] }
  | _ => none }
def legalTurnedRow : OpenClaim := { program := "ytfekipadkenhpaagreatdoor", sum := "a4a2d337fe7419f38405121f540718878490f1d643f7c9408c557114a9555827", func := "alfil/alfillaw11.LegalTurned", spec := "legalTurned", unfollowed := true, recurses := true, named := ["alfil/ways.steps", "alfil/pos.homes", "alfil/pos.views", "alfil/gen.marches", "alfil/gen.promos", "alfil/gen.sideways", "alfil/move.lastRanks", "alfil/move.promos", "alfil/move.wings"], apart := false, laid := [("alfil/ways.steps", laid_alfil_ways_steps), ("alfil/pos.homes", laid_alfil_pos_homes), ("alfil/pos.views", laid_alfil_pos_views), ("alfil/move.promos", laid_alfil_move_promos), ("alfil/move.lastRanks", laid_alfil_move_lastRanks), ("alfil/move.wings", laid_alfil_move_wings), ("alfil/gen.promos", laid_alfil_gen_promos), ("alfil/gen.marches", laid_alfil_gen_marches), ("alfil/gen.sideways", laid_alfil_gen_sideways)] }
def LegalTurnedSaid : Prop := legalTurnedRow.holds Tryz.pinned (OpenSpec.ofChange legalTurnedSpec)

/-- ITS FALSE NEIGHBOUR: 'it returns false'. Refute it at one input. -/
def legalTurnedWrong : ChangeSpec := { name := "legalTurned", fn := fun _ => fun
  | [d] => { results := [.lit (.bool false)], args := [d] }
  | _ => none }
def LegalTurnedWrongFalsely : Prop := legalTurnedRow.holds Tryz.pinned (OpenSpec.ofChange legalTurnedWrong)

/-- 'alfillaw11.LegalNil': WHATEVER THE INPUT: true; the input reads as it did. -/
def legalNilSpec : ChangeSpec := { name := "legalNil", fn := fun _ => fun
  | [d1, d2] => { results := [.lit (.bool true)], args := [d1, d2] }
  | _ => none }
def legalNilRow : OpenClaim := { program := "ytfekipadkenhpaagreatdoor", sum := "a4a2d337fe7419f38405121f540718878490f1d643f7c9408c557114a9555827", func := "alfil/alfillaw11.LegalNil", spec := "legalNil", unfollowed := true, recurses := true, named := ["alfil/ways.steps", "alfil/pos.homes", "alfil/pos.views", "alfil/gen.marches", "alfil/gen.promos", "alfil/gen.sideways", "alfil/move.lastRanks", "alfil/move.promos", "alfil/move.wings"], apart := false, laid := [("alfil/ways.steps", laid_alfil_ways_steps), ("alfil/pos.homes", laid_alfil_pos_homes), ("alfil/pos.views", laid_alfil_pos_views), ("alfil/move.promos", laid_alfil_move_promos), ("alfil/move.lastRanks", laid_alfil_move_lastRanks), ("alfil/move.wings", laid_alfil_move_wings), ("alfil/gen.promos", laid_alfil_gen_promos), ("alfil/gen.marches", laid_alfil_gen_marches), ("alfil/gen.sideways", laid_alfil_gen_sideways)] }
def LegalNilSaid : Prop := legalNilRow.holds Tryz.pinned (OpenSpec.ofChange legalNilSpec)

/-- ITS FALSE NEIGHBOUR: 'it returns false'. Refute it at one input. -/
def legalNilWrong : ChangeSpec := { name := "legalNil", fn := fun _ => fun
  | [d1, d2] => { results := [.lit (.bool false)], args := [d1, d2] }
  | _ => none }
def LegalNilWrongFalsely : Prop := legalNilRow.holds Tryz.pinned (OpenSpec.ofChange legalNilWrong)

/- THE SECOND FORM. 'bulk': how many values and letters a reading holds, each counted each time it is reached (what is shared counts as often as it is met; a slice's spare places count too). A statement '..UptoSaid' is the law's where the arguments, and the package variables that the reading takes, are together of bulk at most 1048576: NARROWER than '..Said'. Prove '..Said' where nothing that the law and all that it calls make is longer than what came in: it says more and counts as full. Else prove '..UptoSaid'. A law counts once. -/
mutual
def uptoBulk {H : Type} : DataW H → Nat
  | .lit (.string bytes) => bytes.length + 1
  | .lit _ => 1
  | .nil => 1
  | .ptr d => uptoBulk d + 1
  | .slice elems spare => uptoBulkAll elems + uptoBulkAll spare + 1
  | .agg parts => uptoBulkAll parts + 1
  | .iface _ d => uptoBulk d + 1
  | .map entries => uptoBulkEntries entries + 1
  | .held _ => 1
def uptoBulkAll {H : Type} : List (DataW H) → Nat
  | [] => 0
  | d :: r => uptoBulk d + uptoBulkAll r
def uptoBulkEntries {H : Type} : List (Lit × DataW H) → Nat
  | [] => 0
  | x :: r => uptoBulkEntry x + uptoBulkEntries r
def uptoBulkEntry {H : Type} : Lit × DataW H → Nat
  | (.string bytes, d) => bytes.length + uptoBulk d + 1
  | (_, d) => uptoBulk d + 1
 end
def uptoSmall : (H : Type) → List (DataW H) → Bool := fun _ ds => decide (uptoBulkAll ds ≤ 1048576)
def OpenSpec.upto (s : _root_.Go.ChangeSpec) : _root_.Go.OpenSpec := { _root_.Go.OpenSpec.ofChange s with cond := some uptoSmall }

/-- 'alfillaw11.LegalMoves', WHERE WHAT IT READS IS OF BULK AT MOST 1048576: true; the input reads as it did. -/
def legalMovesUptoRow : OpenClaim := { program := "ytfekipadkenhpaagreatdoor", sum := "a4a2d337fe7419f38405121f540718878490f1d643f7c9408c557114a9555827", func := "alfil/alfillaw11.LegalMoves", spec := "legalMoves", unfollowed := true, recurses := true, named := ["alfil/ways.steps", "alfil/pos.homes", "alfil/pos.views", "alfil/gen.marches", "alfil/gen.promos", "alfil/gen.sideways", "alfil/move.lastRanks", "alfil/move.promos", "alfil/move.wings"], apart := false, laid := [("alfil/ways.steps", laid_alfil_ways_steps), ("alfil/pos.homes", laid_alfil_pos_homes), ("alfil/pos.views", laid_alfil_pos_views), ("alfil/move.promos", laid_alfil_move_promos), ("alfil/move.lastRanks", laid_alfil_move_lastRanks), ("alfil/move.wings", laid_alfil_move_wings), ("alfil/gen.promos", laid_alfil_gen_promos), ("alfil/gen.marches", laid_alfil_gen_marches), ("alfil/gen.sideways", laid_alfil_gen_sideways)], narrowed := true }
def LegalMovesUptoSaid : Prop := legalMovesUptoRow.holds Tryz.pinned (OpenSpec.upto legalMovesSpec)

/-- 'alfillaw11.LegalPlays', WHERE WHAT IT READS IS OF BULK AT MOST 1048576: true; the input reads as it did. -/
def legalPlaysUptoRow : OpenClaim := { program := "ytfekipadkenhpaagreatdoor", sum := "a4a2d337fe7419f38405121f540718878490f1d643f7c9408c557114a9555827", func := "alfil/alfillaw11.LegalPlays", spec := "legalPlays", unfollowed := true, recurses := true, named := ["alfil/ways.steps", "alfil/pos.homes", "alfil/pos.views", "alfil/gen.marches", "alfil/gen.promos", "alfil/gen.sideways", "alfil/move.lastRanks", "alfil/move.promos", "alfil/move.wings"], apart := false, laid := [("alfil/ways.steps", laid_alfil_ways_steps), ("alfil/pos.homes", laid_alfil_pos_homes), ("alfil/pos.views", laid_alfil_pos_views), ("alfil/move.promos", laid_alfil_move_promos), ("alfil/move.lastRanks", laid_alfil_move_lastRanks), ("alfil/move.wings", laid_alfil_move_wings), ("alfil/gen.promos", laid_alfil_gen_promos), ("alfil/gen.marches", laid_alfil_gen_marches), ("alfil/gen.sideways", laid_alfil_gen_sideways)], narrowed := true }
def LegalPlaysUptoSaid : Prop := legalPlaysUptoRow.holds Tryz.pinned (OpenSpec.upto legalPlaysSpec)

/-- 'alfillaw11.LegalRight', WHERE WHAT IT READS IS OF BULK AT MOST 1048576: true; the input reads as it did. -/
def legalRightUptoRow : OpenClaim := { program := "ytfekipadkenhpaagreatdoor", sum := "a4a2d337fe7419f38405121f540718878490f1d643f7c9408c557114a9555827", func := "alfil/alfillaw11.LegalRight", spec := "legalRight", unfollowed := true, recurses := true, named := ["alfil/ways.steps", "alfil/pos.homes", "alfil/pos.views", "alfil/gen.marches", "alfil/gen.promos", "alfil/gen.sideways", "alfil/move.lastRanks", "alfil/move.promos", "alfil/move.wings"], apart := false, laid := [("alfil/ways.steps", laid_alfil_ways_steps), ("alfil/pos.homes", laid_alfil_pos_homes), ("alfil/pos.views", laid_alfil_pos_views), ("alfil/move.promos", laid_alfil_move_promos), ("alfil/move.lastRanks", laid_alfil_move_lastRanks), ("alfil/move.wings", laid_alfil_move_wings), ("alfil/gen.promos", laid_alfil_gen_promos), ("alfil/gen.marches", laid_alfil_gen_marches), ("alfil/gen.sideways", laid_alfil_gen_sideways)], narrowed := true }
def LegalRightUptoSaid : Prop := legalRightUptoRow.holds Tryz.pinned (OpenSpec.upto legalRightSpec)

/-- 'alfillaw11.LegalFlights', WHERE WHAT IT READS IS OF BULK AT MOST 1048576: true; the input reads as it did. -/
def legalFlightsUptoRow : OpenClaim := { program := "ytfekipadkenhpaagreatdoor", sum := "a4a2d337fe7419f38405121f540718878490f1d643f7c9408c557114a9555827", func := "alfil/alfillaw11.LegalFlights", spec := "legalFlights", unfollowed := true, recurses := true, named := ["alfil/ways.steps", "alfil/pos.homes", "alfil/pos.views", "alfil/gen.marches", "alfil/gen.promos", "alfil/gen.sideways", "alfil/move.lastRanks", "alfil/move.promos", "alfil/move.wings"], apart := false, laid := [("alfil/ways.steps", laid_alfil_ways_steps), ("alfil/pos.homes", laid_alfil_pos_homes), ("alfil/pos.views", laid_alfil_pos_views), ("alfil/move.promos", laid_alfil_move_promos), ("alfil/move.lastRanks", laid_alfil_move_lastRanks), ("alfil/move.wings", laid_alfil_move_wings), ("alfil/gen.promos", laid_alfil_gen_promos), ("alfil/gen.marches", laid_alfil_gen_marches), ("alfil/gen.sideways", laid_alfil_gen_sideways)], narrowed := true }
def LegalFlightsUptoSaid : Prop := legalFlightsUptoRow.holds Tryz.pinned (OpenSpec.upto legalFlightsSpec)

/-- 'alfillaw11.LegalTurned', WHERE WHAT IT READS IS OF BULK AT MOST 1048576: true; the input reads as it did. -/
def legalTurnedUptoRow : OpenClaim := { program := "ytfekipadkenhpaagreatdoor", sum := "a4a2d337fe7419f38405121f540718878490f1d643f7c9408c557114a9555827", func := "alfil/alfillaw11.LegalTurned", spec := "legalTurned", unfollowed := true, recurses := true, named := ["alfil/ways.steps", "alfil/pos.homes", "alfil/pos.views", "alfil/gen.marches", "alfil/gen.promos", "alfil/gen.sideways", "alfil/move.lastRanks", "alfil/move.promos", "alfil/move.wings"], apart := false, laid := [("alfil/ways.steps", laid_alfil_ways_steps), ("alfil/pos.homes", laid_alfil_pos_homes), ("alfil/pos.views", laid_alfil_pos_views), ("alfil/move.promos", laid_alfil_move_promos), ("alfil/move.lastRanks", laid_alfil_move_lastRanks), ("alfil/move.wings", laid_alfil_move_wings), ("alfil/gen.promos", laid_alfil_gen_promos), ("alfil/gen.marches", laid_alfil_gen_marches), ("alfil/gen.sideways", laid_alfil_gen_sideways)], narrowed := true }
def LegalTurnedUptoSaid : Prop := legalTurnedUptoRow.holds Tryz.pinned (OpenSpec.upto legalTurnedSpec)

/-- 'alfillaw11.LegalNil', WHERE WHAT IT READS IS OF BULK AT MOST 1048576: true; the input reads as it did. -/
def legalNilUptoRow : OpenClaim := { program := "ytfekipadkenhpaagreatdoor", sum := "a4a2d337fe7419f38405121f540718878490f1d643f7c9408c557114a9555827", func := "alfil/alfillaw11.LegalNil", spec := "legalNil", unfollowed := true, recurses := true, named := ["alfil/ways.steps", "alfil/pos.homes", "alfil/pos.views", "alfil/gen.marches", "alfil/gen.promos", "alfil/gen.sideways", "alfil/move.lastRanks", "alfil/move.promos", "alfil/move.wings"], apart := false, laid := [("alfil/ways.steps", laid_alfil_ways_steps), ("alfil/pos.homes", laid_alfil_pos_homes), ("alfil/pos.views", laid_alfil_pos_views), ("alfil/move.promos", laid_alfil_move_promos), ("alfil/move.lastRanks", laid_alfil_move_lastRanks), ("alfil/move.wings", laid_alfil_move_wings), ("alfil/gen.promos", laid_alfil_gen_promos), ("alfil/gen.marches", laid_alfil_gen_marches), ("alfil/gen.sideways", laid_alfil_gen_sideways)], narrowed := true }
def LegalNilUptoSaid : Prop := legalNilUptoRow.holds Tryz.pinned (OpenSpec.upto legalNilSpec)

end Rows
end Go.Proofs.YtfekipadkenhpaaGreatDoor
