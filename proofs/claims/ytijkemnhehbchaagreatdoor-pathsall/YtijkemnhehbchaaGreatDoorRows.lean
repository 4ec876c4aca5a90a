/-
  NARROWER THAN 'FOR EVERY INPUT', by the rows' own cells (each row's printed sentence says how): PathsAll: laid · PathsEnd: laid · PathsOrder: laid.
  DERIVED. THE GIVEN ROWS OF THIS SEAT. 3 by the template 'for every input the law returns true; each argument reads behind the call as it read before'; 0 by the template 'total and deterministic' (their statements: YtijkemnhehbchaaGreatDoorTotals.lean).
  GIVEN WITH THE SEED: the statements are not yours to turn. If you find one false, say at which input.
  Laid BY PROGRAM, IN A SANDBOX (cutbox-rows.mjs): the forced cells as the released guide's own fill.sh prints them over the translation 8deea63458ae37fb… (all of the seat's roots in one cut). By AI agents, Wed Nov 11 2026. No macro, syntax, notation, axiom, sorry.
-/
import Derived.Test.YtijkemnhehbchaaGreatDoorChecked
import GoSem.Claim
import GoSem.ClaimJoined
import GoSem.ClaimMapViews
import Derived.JoinedTies
import Derived.KernelRfl
namespace Go.Proofs.YtijkemnhehbchaaGreatDoor
/- THE CELL 'sum', in the pinned program and in every row, IS THE sha256 OF THE DUMP (.gsa) THAT YtijkemnhehbchaaGreatDoorProg.lean LOADS. Nothing in Lean hashes anything: it is a label: what it is worth is what the hold of that sum in a sandbox is worth. -/
noncomputable def Tryz.pinned : Pinned := { name := "ytijkemnhehbchaagreatdoor", sum := "8deea63458ae37fbb18cbf9e1377e1ad83bdf5a48a3f18c4ab6e38a21fca00f6", checked := Tryz.checked }
namespace Rows
def none {H : Type} : Left H := { results := [], args := [] }

/- WHAT THE LISTED PACKAGE-LEVEL VARIABLES READ AS WHEN THE CALL BEGINS. Each datum BY PROGRAM (the guide's laid-datum.mjs) off the statement by which the dump's own 'gosem.cut.vars' lays the variable. In a bare row this is a premise. The card (YtijkemnhehbchaaGreatDoorCards.lean) ties it to the program's text. -/
def laid_alfil_ways_steps {H : Type} : DataW H := .agg [.agg [.lit (.int .i64 0), .lit (.int .i64 1)], .agg [.lit (.int .i64 1), .lit (.int .i64 0)], .agg [.lit (.int .i64 0), .lit (.int .i64 (-1))], .agg [.lit (.int .i64 (-1)), .lit (.int .i64 0)], .agg [.lit (.int .i64 1), .lit (.int .i64 1)], .agg [.lit (.int .i64 1), .lit (.int .i64 (-1))], .agg [.lit (.int .i64 (-1)), .lit (.int .i64 (-1))], .agg [.lit (.int .i64 (-1)), .lit (.int .i64 1)], .agg [.lit (.int .i64 1), .lit (.int .i64 2)], .agg [.lit (.int .i64 2), .lit (.int .i64 1)], .agg [.lit (.int .i64 2), .lit (.int .i64 (-1))], .agg [.lit (.int .i64 1), .lit (.int .i64 (-2))], .agg [.lit (.int .i64 (-1)), .lit (.int .i64 (-2))], .agg [.lit (.int .i64 (-2)), .lit (.int .i64 (-1))], .agg [.lit (.int .i64 (-2)), .lit (.int .i64 1)], .agg [.lit (.int .i64 (-1)), .lit (.int .i64 2)]]
def laid_alfil_pos_homes {H : Type} : DataW H := .agg [.agg [.lit (.int .i64 1), .lit (.int .i64 0), .lit (.int .i64 4), .lit (.int .i64 7)], .agg [.lit (.int .i64 2), .lit (.int .i64 0), .lit (.int .i64 4), .lit (.int .i64 0)], .agg [.lit (.int .i64 4), .lit (.int .i64 1), .lit (.int .i64 60), .lit (.int .i64 63)], .agg [.lit (.int .i64 8), .lit (.int .i64 1), .lit (.int .i64 60), .lit (.int .i64 56)]]
def laid_alfil_pos_views {H : Type} : DataW H := .agg [.agg [.lit (.int .i64 5), .lit (.int .i64 1)], .agg [.lit (.int .i64 2), .lit (.int .i64 (-1))]]
def laid_alfil_move_promos {H : Type} : DataW H := .agg [.lit (.int .i64 0), .lit (.int .i64 2), .lit (.int .i64 3), .lit (.int .i64 4), .lit (.int .i64 5)]
def laid_alfil_move_lastRanks {H : Type} : DataW H := .agg [.lit (.int .i64 7), .lit (.int .i64 0)]
def laid_alfil_move_wings {H : Type} : DataW H := .agg [.agg [.lit (.int .i64 1), .lit (.int .i64 4), .lit (.int .i64 7), .lit (.int .i64 6)], .agg [.lit (.int .i64 2), .lit (.int .i64 4), .lit (.int .i64 0), .lit (.int .i64 2)], .agg [.lit (.int .i64 4), .lit (.int .i64 60), .lit (.int .i64 63), .lit (.int .i64 62)], .agg [.lit (.int .i64 8), .lit (.int .i64 60), .lit (.int .i64 56), .lit (.int .i64 58)]]
def laid_alfil_gen_promos {H : Type} : DataW H := .agg [.lit (.int .i64 5), .lit (.int .i64 4), .lit (.int .i64 3), .lit (.int .i64 2)]
def laid_alfil_gen_marches {H : Type} : DataW H := .agg [.agg [.lit (.int .i64 1), .lit (.int .i64 1), .lit (.int .i64 7)], .agg [.lit (.int .i64 (-1)), .lit (.int .i64 6), .lit (.int .i64 0)]]
def laid_alfil_gen_sideways {H : Type} : DataW H := .agg [.lit (.int .i64 (-2)), .lit (.int .i64 2)]

/-- 'alfillaw12.PathsAll': WHATEVER THE INPUT: true; the input reads as it did. -/
def pathsAllSpec : ChangeSpec := { name := "pathsAll", fn := fun _ => fun
  | [d1, d2, d3] => { results := [.lit (.bool true)], args := [d1, d2, d3] }
  | _ => none }
def pathsAllRow : OpenClaim := { program := "ytijkemnhehbchaagreatdoor", sum := "8deea63458ae37fbb18cbf9e1377e1ad83bdf5a48a3f18c4ab6e38a21fca00f6", func := "alfil/alfillaw12.PathsAll", spec := "pathsAll", unfollowed := true, recurses := true, named := ["alfil/ways.steps", "alfil/pos.homes", "alfil/pos.views", "alfil/gen.marches", "alfil/gen.promos", "alfil/gen.sideways", "alfil/move.lastRanks", "alfil/move.promos", "alfil/move.wings"], apart := false, laid := [("alfil/ways.steps", laid_alfil_ways_steps), ("alfil/pos.homes", laid_alfil_pos_homes), ("alfil/pos.views", laid_alfil_pos_views), ("alfil/move.promos", laid_alfil_move_promos), ("alfil/move.lastRanks", laid_alfil_move_lastRanks), ("alfil/move.wings", laid_alfil_move_wings), ("alfil/gen.promos", laid_alfil_gen_promos), ("alfil/gen.marches", laid_alfil_gen_marches), ("alfil/gen.sideways", laid_alfil_gen_sideways)] }
def PathsAllSaid : Prop := pathsAllRow.holds Tryz.pinned (OpenSpec.ofChange pathsAllSpec)

/-- ITS FALSE NEIGHBOUR: 'it returns false'. Refute it at one input. -/
def pathsAllWrong : ChangeSpec := { name := "pathsAll", fn := fun _ => fun
  | [d1, d2, d3] => { results := [.lit (.bool false)], args := [d1, d2, d3] }
  | _ => none }
def PathsAllWrongFalsely : Prop := pathsAllRow.holds Tryz.pinned (OpenSpec.ofChange pathsAllWrong)

/-- 'alfillaw12.PathsEnd': WHATEVER THE INPUT: true; the input reads as it did. -/
def pathsEndSpec : ChangeSpec := { name := "pathsEnd", fn := fun _ => fun
  | [d1, d2] => { results := [.lit (.bool true)], args := [d1, d2] }
  | _ => none }
def pathsEndRow : OpenClaim := { program := "ytijkemnhehbchaagreatdoor", sum := "8deea63458ae37fbb18cbf9e1377e1ad83bdf5a48a3f18c4ab6e38a21fca00f6", func := "alfil/alfillaw12.PathsEnd", spec := "pathsEnd", unfollowed := true, recurses := true, named := ["alfil/ways.steps", "alfil/pos.homes", "alfil/pos.views", "alfil/gen.marches", "alfil/gen.promos", "alfil/gen.sideways", "alfil/move.lastRanks", "alfil/move.promos", "alfil/move.wings"], apart := false, laid := [("alfil/ways.steps", laid_alfil_ways_steps), ("alfil/pos.homes", laid_alfil_pos_homes), ("alfil/pos.views", laid_alfil_pos_views), ("alfil/move.promos", laid_alfil_move_promos), ("alfil/move.lastRanks", laid_alfil_move_lastRanks), ("alfil/move.wings", laid_alfil_move_wings), ("alfil/gen.promos", laid_alfil_gen_promos), ("alfil/gen.marches", laid_alfil_gen_marches), ("alfil/gen.sideways", laid_alfil_gen_sideways)] }
def PathsEndSaid : Prop := pathsEndRow.holds Tryz.pinned (OpenSpec.ofChange pathsEndSpec)

/-- ITS FALSE NEIGHBOUR: 'it returns false'. Refute it at one input. -/
def pathsEndWrong : ChangeSpec := { name := "pathsEnd", fn := fun _ => fun
  | [d1, d2] => { results := [.lit (.bool false)], args := [d1, d2] }
  | _ => none }
def PathsEndWrongFalsely : Prop := pathsEndRow.holds Tryz.pinned (OpenSpec.ofChange pathsEndWrong)

/-- 'alfillaw12.PathsOrder': WHATEVER THE INPUT: true; the input reads as it did. -/
def pathsOrderSpec : ChangeSpec := { name := "pathsOrder", fn := fun _ => fun
  | [d1, d2] => { results := [.lit (.bool true)], args := [d1, d2] }
  | _ => none }
def pathsOrderRow : OpenClaim := { program := "ytijkemnhehbchaagreatdoor", sum := "8deea63458ae37fbb18cbf9e1377e1ad83bdf5a48a3f18c4ab6e38a21fca00f6", func := "alfil/alfillaw12.PathsOrder", spec := "pathsOrder", unfollowed := true, recurses := true, named := ["alfil/ways.steps", "alfil/pos.homes", "alfil/pos.views", "alfil/gen.marches", "alfil/gen.promos", "alfil/gen.sideways", "alfil/move.lastRanks", "alfil/move.promos", "alfil/move.wings"], apart := false, laid := [("alfil/ways.steps", laid_alfil_ways_steps), ("alfil/pos.homes", laid_alfil_pos_homes), ("alfil/pos.views", laid_alfil_pos_views), ("alfil/move.promos", laid_alfil_move_promos), ("alfil/move.lastRanks", laid_alfil_move_lastRanks), ("alfil/move.wings", laid_alfil_move_wings), ("alfil/gen.promos", laid_alfil_gen_promos), ("alfil/gen.marches", laid_alfil_gen_marches), ("alfil/gen.sideways", laid_alfil_gen_sideways)] }
def PathsOrderSaid : Prop := pathsOrderRow.holds Tryz.pinned (OpenSpec.ofChange pathsOrderSpec)

/-- ITS FALSE NEIGHBOUR: 'it returns false'. Refute it at one input. -/
def pathsOrderWrong : ChangeSpec := { name := "pathsOrder", fn := fun _ => fun
  | [d1, d2] => { results := [.lit (.bool false)], args := [d1, d2] }
  | _ => none }
def PathsOrderWrongFalsely : Prop := pathsOrderRow.holds Tryz.pinned (OpenSpec.ofChange pathsOrderWrong)

/- THE SECOND FORM. 'bulk': how many values and letters a reading holds, each counted each time it is reached (what is shared counts as often as it is met; a slice's spare places count too). A statement '..UptoSaid' is the law's where the arguments, and the package variables that the reading takes, are together of bulk at most 1048576: NARROWER than '..Said'. Prove '..Said' where nothing that the law and all that it calls make is longer than what came in: it says more and counts as full. Else prove '..UptoSaid'. A law counts once. -/
mutual
def uptoBulk {H : Type} : DataW H → Nat
  | .lit (.string bytes) => bytes.length + 1
  | .lit _ => 1
  | .nil => 1
  | .ptr d => uptoBulk d + 1
  | .slice elems spare => uptoBulkAll elems + uptoBulkAll spare + 1
  | .agg parts => uptoBulkAll parts + 1
  | .iface _ d => uptoBulk d + 1
  | .map entries => uptoBulkEntries entries + 1
  | .held _ => 1
def uptoBulkAll {H : Type} : List (DataW H) → Nat
  | [] => 0
  | d :: r => uptoBulk d + uptoBulkAll r
def uptoBulkEntries {H : Type} : List (Lit × DataW H) → Nat
  | [] => 0
  | x :: r => uptoBulkEntry x + uptoBulkEntries r
def uptoBulkEntry {H : Type} : Lit × DataW H → Nat
  | (.string bytes, d) => bytes.length + uptoBulk d + 1
  | (_, d) => uptoBulk d + 1
 end
def uptoSmall : (H : Type) → List (DataW H) → Bool := fun _ ds => decide (uptoBulkAll ds ≤ 1048576)
def OpenSpec.upto (s : _root_.Go.ChangeSpec) : _root_.Go.OpenSpec := { _root_.Go.OpenSpec.ofChange s with cond := some uptoSmall }

/-- 'alfillaw12.PathsAll', WHERE WHAT IT READS IS OF BULK AT MOST 1048576: true; the input reads as it did. -/
def pathsAllUptoRow : OpenClaim := { program := "ytijkemnhehbchaagreatdoor", sum := "8deea63458ae37fbb18cbf9e1377e1ad83bdf5a48a3f18c4ab6e38a21fca00f6", func := "alfil/alfillaw12.PathsAll", spec := "pathsAll", unfollowed := true, recurses := true, named := ["alfil/ways.steps", "alfil/pos.homes", "alfil/pos.views", "alfil/gen.marches", "alfil/gen.promos", "alfil/gen.sideways", "alfil/move.lastRanks", "alfil/move.promos", "alfil/move.wings"], apart := false, laid := [("alfil/ways.steps", laid_alfil_ways_steps), ("alfil/pos.homes", laid_alfil_pos_homes), ("alfil/pos.views", laid_alfil_pos_views), ("alfil/move.promos", laid_alfil_move_promos), ("alfil/move.lastRanks", laid_alfil_move_lastRanks), ("alfil/move.wings", laid_alfil_move_wings), ("alfil/gen.promos", laid_alfil_gen_promos), ("alfil/gen.marches", laid_alfil_gen_marches), ("alfil/gen.sideways", laid_alfil_gen_sideways)], narrowed := true }
def PathsAllUptoSaid : Prop := pathsAllUptoRow.holds Tryz.pinned (OpenSpec.upto pathsAllSpec)

/-- 'alfillaw12.PathsEnd', WHERE WHAT IT READS IS OF BULK AT MOST 1048576: true; the input reads as it did. -/
def pathsEndUptoRow : OpenClaim := { program := "ytijkemnhehbchaagreatdoor", sum := "8deea63458ae37fbb18cbf9e1377e1ad83bdf5a48a3f18c4ab6e38a21fca00f6", func := "alfil/alfillaw12.PathsEnd", spec := "pathsEnd", unfollowed := true, recurses := true, named := ["alfil/ways.steps", "alfil/pos.homes", "alfil/pos.views", "alfil/gen.marches", "alfil/gen.promos", "alfil/gen.sideways", "alfil/move.lastRanks", "alfil/move.promos", "alfil/move.wings"], apart := false, laid := [("alfil/ways.steps", laid_alfil_ways_steps), ("alfil/pos.homes", laid_alfil_pos_homes), ("alfil/pos.views", laid_alfil_pos_views), ("alfil/move.promos", laid_alfil_move_promos), ("alfil/move.lastRanks", laid_alfil_move_lastRanks), ("alfil/move.wings", laid_alfil_move_wings), ("alfil/gen.promos", laid_alfil_gen_promos), ("alfil/gen.marches", laid_alfil_gen_marches), ("alfil/gen.sideways", laid_alfil_gen_sideways)], narrowed := true }
def PathsEndUptoSaid : Prop := pathsEndUptoRow.holds Tryz.pinned (OpenSpec.upto pathsEndSpec)

/-- 'alfillaw12.PathsOrder', WHERE WHAT IT READS IS OF BULK AT MOST 1048576: true; the input reads as it did. -/
def pathsOrderUptoRow : OpenClaim := { program := "ytijkemnhehbchaagreatdoor", sum := "8deea63458ae37fbb18cbf9e1377e1ad83bdf5a48a3f18c4ab6e38a21fca00f6", func := "alfil/alfillaw12.PathsOrder", spec := "pathsOrder", unfollowed := true, recurses := true, named := ["alfil/ways.steps", "alfil/pos.homes", "alfil/pos.views", "alfil/gen.marches", "alfil/gen.promos", "alfil/gen.sideways", "alfil/move.lastRanks", "alfil/move.promos", "alfil/move.wings"], apart := false, laid := [("alfil/ways.steps", laid_alfil_ways_steps), ("alfil/pos.homes", laid_alfil_pos_homes), ("alfil/pos.views", laid_alfil_pos_views), ("alfil/move.promos", laid_alfil_move_promos), ("alfil/move.lastRanks", laid_alfil_move_lastRanks), ("alfil/move.wings", laid_alfil_move_wings), ("alfil/gen.promos", laid_alfil_gen_promos), ("alfil/gen.marches", laid_alfil_gen_marches), ("alfil/gen.sideways", laid_alfil_gen_sideways)], narrowed := true }
def PathsOrderUptoSaid : Prop := pathsOrderUptoRow.holds Tryz.pinned (OpenSpec.upto pathsOrderSpec)

end Rows
end Go.Proofs.YtijkemnhehbchaaGreatDoor
