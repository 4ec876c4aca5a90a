/-
  NARROWER THAN 'FOR EVERY INPUT', by the rows' own cells (each row's printed sentence says how): KeyMoves: laid.
  DERIVED. THE GIVEN ROWS OF THIS SEAT. 1 by the template 'for every input the law returns true; each argument reads behind the call as it read before'; 0 by the template 'total and deterministic' (their statements: YtkebpchhpidogaaGreatDoorTotals.lean).
  GIVEN WITH THE SEED: the statements are not yours to turn. If you find one false, say at which input.
  Laid BY PROGRAM, IN A SANDBOX (cutbox-rows.mjs): the forced cells as the released guide's own fill.sh prints them over the translation 044ab76b8775f874… (all of the seat's roots in one cut). By AI agents, Wed Nov 11 2026. No macro, syntax, notation, axiom, sorry.
-/
import Derived.Test.YtkebpchhpidogaaGreatDoorChecked
import GoSem.Claim
import GoSem.ClaimJoined
import GoSem.ClaimMapViews
import Derived.JoinedTies
import Derived.KernelRfl
namespace Go.Proofs.YtkebpchhpidogaaGreatDoor
/- THE CELL 'sum', in the pinned program and in every row, IS THE sha256 OF THE DUMP (.gsa) THAT YtkebpchhpidogaaGreatDoorProg.lean LOADS. Nothing in Lean hashes anything: it is a label: what it is worth is what the hold of that sum in a sandbox is worth. -/
noncomputable def Tryz.pinned : Pinned := { name := "ytkebpchhpidogaagreatdoor", sum := "044ab76b8775f87454c7573c861f09c533add9d52949f532b4b496c0a4b9e24a", checked := Tryz.checked }
namespace Rows
def none {H : Type} : Left H := { results := [], args := [] }

/- WHAT THE LISTED PACKAGE-LEVEL VARIABLES READ AS WHEN THE CALL BEGINS. Each datum BY PROGRAM (the guide's laid-datum.mjs) off the statement by which the dump's own 'gosem.cut.vars' lays the variable. In a bare row this is a premise. The card (YtkebpchhpidogaaGreatDoorCards.lean) ties it to the program's text. -/
def laid_alfil_ways_steps {H : Type} : DataW H := .agg [.agg [.lit (.int .i64 0), .lit (.int .i64 1)], .agg [.lit (.int .i64 1), .lit (.int .i64 0)], .agg [.lit (.int .i64 0), .lit (.int .i64 (-1))], .agg [.lit (.int .i64 (-1)), .lit (.int .i64 0)], .agg [.lit (.int .i64 1), .lit (.int .i64 1)], .agg [.lit (.int .i64 1), .lit (.int .i64 (-1))], .agg [.lit (.int .i64 (-1)), .lit (.int .i64 (-1))], .agg [.lit (.int .i64 (-1)), .lit (.int .i64 1)], .agg [.lit (.int .i64 1), .lit (.int .i64 2)], .agg [.lit (.int .i64 2), .lit (.int .i64 1)], .agg [.lit (.int .i64 2), .lit (.int .i64 (-1))], .agg [.lit (.int .i64 1), .lit (.int .i64 (-2))], .agg [.lit (.int .i64 (-1)), .lit (.int .i64 (-2))], .agg [.lit (.int .i64 (-2)), .lit (.int .i64 (-1))], .agg [.lit (.int .i64 (-2)), .lit (.int .i64 1)], .agg [.lit (.int .i64 (-1)), .lit (.int .i64 2)]]
def laid_alfil_pos_homes {H : Type} : DataW H := .agg [.agg [.lit (.int .i64 1), .lit (.int .i64 0), .lit (.int .i64 4), .lit (.int .i64 7)], .agg [.lit (.int .i64 2), .lit (.int .i64 0), .lit (.int .i64 4), .lit (.int .i64 0)], .agg [.lit (.int .i64 4), .lit (.int .i64 1), .lit (.int .i64 60), .lit (.int .i64 63)], .agg [.lit (.int .i64 8), .lit (.int .i64 1), .lit (.int .i64 60), .lit (.int .i64 56)]]
def laid_alfil_pos_views {H : Type} : DataW H := .agg [.agg [.lit (.int .i64 5), .lit (.int .i64 1)], .agg [.lit (.int .i64 2), .lit (.int .i64 (-1))]]
def laid_alfil_move_promos {H : Type} : DataW H := .agg [.lit (.int .i64 0), .lit (.int .i64 2), .lit (.int .i64 3), .lit (.int .i64 4), .lit (.int .i64 5)]
def laid_alfil_move_lastRanks {H : Type} : DataW H := .agg [.lit (.int .i64 7), .lit (.int .i64 0)]
def laid_alfil_move_wings {H : Type} : DataW H := .agg [.agg [.lit (.int .i64 1), .lit (.int .i64 4), .lit (.int .i64 7), .lit (.int .i64 6)], .agg [.lit (.int .i64 2), .lit (.int .i64 4), .lit (.int .i64 0), .lit (.int .i64 2)], .agg [.lit (.int .i64 4), .lit (.int .i64 60), .lit (.int .i64 63), .lit (.int .i64 62)], .agg [.lit (.int .i64 8), .lit (.int .i64 60), .lit (.int .i64 56), .lit (.int .i64 58)]]
def laid_alfil_gen_promos {H : Type} : DataW H := .agg [.lit (.int .i64 5), .lit (.int .i64 4), .lit (.int .i64 3), .lit (.int .i64 2)]
def laid_alfil_gen_marches {H : Type} : DataW H := .agg [.agg [.lit (.int .i64 1), .lit (.int .i64 1), .lit (.int .i64 7)], .agg [.lit (.int .i64 (-1)), .lit (.int .i64 6), .lit (.int .i64 0)]]
def laid_alfil_gen_sideways {H : Type} : DataW H := .agg [.lit (.int .i64 (-2)), .lit (.int .i64 2)]

/-- 'alfillaw17.KeyMoves': WHATEVER THE INPUT: true; the input reads as it did. -/
def keyMovesSpec : ChangeSpec := { name := "keyMoves", fn := fun _ => fun
  | [d] => { results := [.lit (.bool true)], args := [d] }
  | _ => none }
def keyMovesRow : OpenClaim := { program := "ytkebpchhpidogaagreatdoor", sum := "044ab76b8775f87454c7573c861f09c533add9d52949f532b4b496c0a4b9e24a", func := "alfil/alfillaw17.KeyMoves", spec := "keyMoves", unfollowed := true, recurses := true, named := ["alfil/ways.steps", "alfil/pos.homes", "alfil/pos.views", "alfil/gen.marches", "alfil/gen.promos", "alfil/gen.sideways", "alfil/move.lastRanks", "alfil/move.promos", "alfil/move.wings"], apart := false, laid := [("alfil/ways.steps", laid_alfil_ways_steps), ("alfil/pos.homes", laid_alfil_pos_homes), ("alfil/pos.views", laid_alfil_pos_views), ("alfil/move.promos", laid_alfil_move_promos), ("alfil/move.lastRanks", laid_alfil_move_lastRanks), ("alfil/move.wings", laid_alfil_move_wings), ("alfil/gen.promos", laid_alfil_gen_promos), ("alfil/gen.marches", laid_alfil_gen_marches), ("alfil/gen.sideways", laid_alfil_gen_sideways)] }
def KeyMovesSaid : Prop := keyMovesRow.holds Tryz.pinned (OpenSpec.ofChange keyMovesSpec)

/-- ITS FALSE NEIGHBOUR: 'it returns false'. Refute it at one input. -/
def keyMovesWrong : ChangeSpec := { name := "keyMoves", fn := fun _ => fun
  | [d] => { results := [.lit (.bool false)], args := [d] }
  | _ => none }
def KeyMovesWrongFalsely : Prop := keyMovesRow.holds Tryz.pinned (OpenSpec.ofChange keyMovesWrong)

/- THE SECOND FORM. 'bulk': how many values and letters a reading holds, each counted each time it is reached (what is shared counts as often as it is met; a slice's spare places count too). A statement '..UptoSaid' is the law's where the arguments, and the package variables that the reading takes, are together of bulk at most 1048576: NARROWER than '..Said'. Prove '..Said' where nothing that the law and all that it calls make is longer than what came in: it says more and counts as full. Else prove '..UptoSaid'. A law counts once. -/
mutual
def uptoBulk {H : Type} : DataW H → Nat
  | .lit (.string bytes) => bytes.length + 1
  | .lit _ => 1
  | .nil => 1
  | .ptr d => uptoBulk d + 1
  | .slice elems spare => uptoBulkAll elems + uptoBulkAll spare + 1
  | .agg parts => uptoBulkAll parts + 1
  | .iface _ d => uptoBulk d + 1
  | .map entries => uptoBulkEntries entries + 1
  | .held _ => 1
def uptoBulkAll {H : Type} : List (DataW H) → Nat
  | [] => 0
  | d :: r => uptoBulk d + uptoBulkAll r
def uptoBulkEntries {H : Type} : List (Lit × DataW H) → Nat
  | [] => 0
  | x :: r => uptoBulkEntry x + uptoBulkEntries r
def uptoBulkEntry {H : Type} : Lit × DataW H → Nat
  | (.string bytes, d) => bytes.length + uptoBulk d + 1
  | (_, d) => uptoBulk d + 1
 end
def uptoSmall : (H : Type) → List (DataW H) → Bool := fun _ ds => decide (uptoBulkAll ds ≤ 1048576)
def OpenSpec.upto (s : _root_.Go.ChangeSpec) : _root_.Go.OpenSpec := { _root_.Go.OpenSpec.ofChange s with cond := some uptoSmall }

/-- 'alfillaw17.KeyMoves', WHERE WHAT IT READS IS OF BULK AT MOST 1048576: true; the input reads as it did. -/
def keyMovesUptoRow : OpenClaim := { program := "ytkebpchhpidogaagreatdoor", sum := "044ab76b8775f87454c7573c861f09c533add9d52949f532b4b496c0a4b9e24a", func := "alfil/alfillaw17.KeyMoves", spec := "keyMoves", unfollowed := true, recurses := true, named := ["alfil/ways.steps", "alfil/pos.homes", "alfil/pos.views", "alfil/gen.marches", "alfil/gen.promos", "alfil/gen.sideways", "alfil/move.lastRanks", "alfil/move.promos", "alfil/move.wings"], apart := false, laid := [("alfil/ways.steps", laid_alfil_ways_steps), ("alfil/pos.homes", laid_alfil_pos_homes), ("alfil/pos.views", laid_alfil_pos_views), ("alfil/move.promos", laid_alfil_move_promos), ("alfil/move.lastRanks", laid_alfil_move_lastRanks), ("alfil/move.wings", laid_alfil_move_wings), ("alfil/gen.promos", laid_alfil_gen_promos), ("alfil/gen.marches", laid_alfil_gen_marches), ("alfil/gen.sideways", laid_alfil_gen_sideways)], narrowed := true }
def KeyMovesUptoSaid : Prop := keyMovesUptoRow.holds Tryz.pinned (OpenSpec.upto keyMovesSpec)

end Rows
end Go.Proofs.YtkebpchhpidogaaGreatDoor
