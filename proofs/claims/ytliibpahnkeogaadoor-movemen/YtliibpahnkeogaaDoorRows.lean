/-
  NARROWER THAN 'FOR EVERY INPUT', by the rows' own cells (each row's printed sentence says how): MoveMakes: laid · MoveMen: laid · MoveTurned: laid · MoveTexts: laid · MoveOrder: laid.
  DERIVED. THE GIVEN ROWS OF THIS SEAT. 5 by the template 'for every input the law returns true; each argument reads behind the call as it read before'; 0 by the template 'total and deterministic' (their statements: YtliibpahnkeogaaDoorTotals.lean).
  GIVEN WITH THE SEED: the statements are not yours to turn. If you find one false, say at which input.
  Laid BY PROGRAM, IN A SANDBOX (cutbox-rows.mjs): the forced cells as the released guide's own fill.sh prints them over the translation c2a4720eb9d27d5d… (all of the seat's roots in one cut). By AI agents, Wed Nov 11 2026. No macro, syntax, notation, axiom, sorry.
-/
import Derived.Test.YtliibpahnkeogaaDoorChecked
import GoSem.Claim
import GoSem.ClaimJoined
import GoSem.ClaimMapViews
import Derived.JoinedTies
import Derived.KernelRfl
namespace Go.Proofs.YtliibpahnkeogaaDoor
/- THE CELL 'sum', in the pinned program and in every row, IS THE sha256 OF THE DUMP (.gsa) THAT YtliibpahnkeogaaDoorProg.lean LOADS. Nothing in Lean hashes anything: it is a label: what it is worth is what the hold of that sum in a sandbox is worth. -/
noncomputable def Tryd.pinned : Pinned := { name := "ytliibpahnkeogaadoor", sum := "c2a4720eb9d27d5d161c0e87009ba11cc6a6e7f24a9c3e9f1d36ae6caedc3587", checked := Tryd.checked }
namespace Rows
def none {H : Type} : Left H := { results := [], args := [] }

/- WHAT THE LISTED PACKAGE-LEVEL VARIABLES READ AS WHEN THE CALL BEGINS. Each datum BY PROGRAM (the guide's laid-datum.mjs) off the statement by which the dump's own 'gosem.cut.vars' lays the variable. In a bare row this is a premise. The card (YtliibpahnkeogaaDoorCards.lean) ties it to the program's text. -/
def laid_alfil_ways_steps {H : Type} : DataW H := .agg [.agg [.lit (.int .i64 0), .lit (.int .i64 1)], .agg [.lit (.int .i64 1), .lit (.int .i64 0)], .agg [.lit (.int .i64 0), .lit (.int .i64 (-1))], .agg [.lit (.int .i64 (-1)), .lit (.int .i64 0)], .agg [.lit (.int .i64 1), .lit (.int .i64 1)], .agg [.lit (.int .i64 1), .lit (.int .i64 (-1))], .agg [.lit (.int .i64 (-1)), .lit (.int .i64 (-1))], .agg [.lit (.int .i64 (-1)), .lit (.int .i64 1)], .agg [.lit (.int .i64 1), .lit (.int .i64 2)], .agg [.lit (.int .i64 2), .lit (.int .i64 1)], .agg [.lit (.int .i64 2), .lit (.int .i64 (-1))], .agg [.lit (.int .i64 1), .lit (.int .i64 (-2))], .agg [.lit (.int .i64 (-1)), .lit (.int .i64 (-2))], .agg [.lit (.int .i64 (-2)), .lit (.int .i64 (-1))], .agg [.lit (.int .i64 (-2)), .lit (.int .i64 1)], .agg [.lit (.int .i64 (-1)), .lit (.int .i64 2)]]
def laid_alfil_pos_homes {H : Type} : DataW H := .agg [.agg [.lit (.int .i64 1), .lit (.int .i64 0), .lit (.int .i64 4), .lit (.int .i64 7)], .agg [.lit (.int .i64 2), .lit (.int .i64 0), .lit (.int .i64 4), .lit (.int .i64 0)], .agg [.lit (.int .i64 4), .lit (.int .i64 1), .lit (.int .i64 60), .lit (.int .i64 63)], .agg [.lit (.int .i64 8), .lit (.int .i64 1), .lit (.int .i64 60), .lit (.int .i64 56)]]
def laid_alfil_pos_views {H : Type} : DataW H := .agg [.agg [.lit (.int .i64 5), .lit (.int .i64 1)], .agg [.lit (.int .i64 2), .lit (.int .i64 (-1))]]
def laid_alfil_move_promos {H : Type} : DataW H := .agg [.lit (.int .i64 0), .lit (.int .i64 2), .lit (.int .i64 3), .lit (.int .i64 4), .lit (.int .i64 5)]
def laid_alfil_move_lastRanks {H : Type} : DataW H := .agg [.lit (.int .i64 7), .lit (.int .i64 0)]
def laid_alfil_move_wings {H : Type} : DataW H := .agg [.agg [.lit (.int .i64 1), .lit (.int .i64 4), .lit (.int .i64 7), .lit (.int .i64 6)], .agg [.lit (.int .i64 2), .lit (.int .i64 4), .lit (.int .i64 0), .lit (.int .i64 2)], .agg [.lit (.int .i64 4), .lit (.int .i64 60), .lit (.int .i64 63), .lit (.int .i64 62)], .agg [.lit (.int .i64 8), .lit (.int .i64 60), .lit (.int .i64 56), .lit (.int .i64 58)]]

/-- 'alfillaw09.MoveMakes': WHATEVER THE INPUT: true; the input reads as it did. -/
def moveMakesSpec : ChangeSpec := { name := "moveMakes", fn := fun _ => fun
  | [d1, d2] => { results := [.lit (.bool true)], args := [d1, d2] }
  | _ => none }
def moveMakesRow : OpenClaim := { program := "ytliibpahnkeogaadoor", sum := "c2a4720eb9d27d5d161c0e87009ba11cc6a6e7f24a9c3e9f1d36ae6caedc3587", func := "alfil/alfillaw09.MoveMakes", spec := "moveMakes", unfollowed := true, recurses := true, named := ["alfil/ways.steps", "alfil/pos.homes", "alfil/pos.views", "alfil/move.lastRanks", "alfil/move.promos", "alfil/move.wings"], apart := false, laid := [("alfil/ways.steps", laid_alfil_ways_steps), ("alfil/pos.homes", laid_alfil_pos_homes), ("alfil/pos.views", laid_alfil_pos_views), ("alfil/move.promos", laid_alfil_move_promos), ("alfil/move.lastRanks", laid_alfil_move_lastRanks), ("alfil/move.wings", laid_alfil_move_wings)] }
def MoveMakesSaid : Prop := moveMakesRow.holds Tryd.pinned (OpenSpec.ofChange moveMakesSpec)

/-- ITS FALSE NEIGHBOUR: 'it returns false'. Refute it at one input. -/
def moveMakesWrong : ChangeSpec := { name := "moveMakes", fn := fun _ => fun
  | [d1, d2] => { results := [.lit (.bool false)], args := [d1, d2] }
  | _ => none }
def MoveMakesWrongFalsely : Prop := moveMakesRow.holds Tryd.pinned (OpenSpec.ofChange moveMakesWrong)

/-- 'alfillaw09.MoveMen': WHATEVER THE INPUT: true; the input reads as it did. -/
def moveMenSpec : ChangeSpec := { name := "moveMen", fn := fun _ => fun
  | [d1, d2] => { results := [.lit (.bool true)], args := [d1, d2] }
  | _ => none }
def moveMenRow : OpenClaim := { program := "ytliibpahnkeogaadoor", sum := "c2a4720eb9d27d5d161c0e87009ba11cc6a6e7f24a9c3e9f1d36ae6caedc3587", func := "alfil/alfillaw09.MoveMen", spec := "moveMen", unfollowed := true, recurses := true, named := ["alfil/ways.steps", "alfil/pos.homes", "alfil/pos.views", "alfil/move.lastRanks", "alfil/move.promos", "alfil/move.wings"], apart := false, laid := [("alfil/ways.steps", laid_alfil_ways_steps), ("alfil/pos.homes", laid_alfil_pos_homes), ("alfil/pos.views", laid_alfil_pos_views), ("alfil/move.promos", laid_alfil_move_promos), ("alfil/move.lastRanks", laid_alfil_move_lastRanks), ("alfil/move.wings", laid_alfil_move_wings)] }
def MoveMenSaid : Prop := moveMenRow.holds Tryd.pinned (OpenSpec.ofChange moveMenSpec)

/-- ITS FALSE NEIGHBOUR: 'it returns false'. Refute it at one input. -/
def moveMenWrong : ChangeSpec := { name := "moveMen", fn := fun _ => fun
  | [d1, d2] => { results := [.lit (.bool false)], args := [d1, d2] }
  | _ => none }
def MoveMenWrongFalsely : Prop := moveMenRow.holds Tryd.pinned (OpenSpec.ofChange moveMenWrong)

/-- 'alfillaw09.MoveTurned': WHATEVER THE INPUT: true; the input reads as it did. -/
def moveTurnedSpec : ChangeSpec := { name := "moveTurned", fn := fun _ => fun
  | [d1, d2] => { results := [.lit (.bool true)], args := [d1, d2] }
  | _ => none }
def moveTurnedRow : OpenClaim := { program := "ytliibpahnkeogaadoor", sum := "c2a4720eb9d27d5d161c0e87009ba11cc6a6e7f24a9c3e9f1d36ae6caedc3587", func := "alfil/alfillaw09.MoveTurned", spec := "moveTurned", unfollowed := true, recurses := true, named := ["alfil/ways.steps", "alfil/pos.homes", "alfil/pos.views", "alfil/move.lastRanks", "alfil/move.promos", "alfil/move.wings"], apart := false, laid := [("alfil/ways.steps", laid_alfil_ways_steps), ("alfil/pos.homes", laid_alfil_pos_homes), ("alfil/pos.views", laid_alfil_pos_views), ("alfil/move.promos", laid_alfil_move_promos), ("alfil/move.lastRanks", laid_alfil_move_lastRanks), ("alfil/move.wings", laid_alfil_move_wings)] }
def MoveTurnedSaid : Prop := moveTurnedRow.holds Tryd.pinned (OpenSpec.ofChange moveTurnedSpec)

/-- ITS FALSE NEIGHBOUR: 'it returns false'. Refute it at one input. -/
def moveTurnedWrong : ChangeSpec := { name := "moveTurned", fn := fun _ => fun
  | [d1, d2] => { results := [.lit (.bool false)], args := [d1, d2] }
  | _ => none }
def MoveTurnedWrongFalsely : Prop := moveTurnedRow.holds Tryd.pinned (OpenSpec.ofChange moveTurnedWrong)

/-- 'alfillaw09.MoveTexts': WHATEVER THE INPUT: true; the input reads as it did. -/
def moveTextsSpec : ChangeSpec := { name := "moveTexts", fn := fun _ => fun
  | [d1, d2] => { results := [.lit (.bool true)], args := [d1, d2] }
  | _ => none }
def moveTextsRow : OpenClaim := { program := "ytliibpahnkeogaadoor", sum := "c2a4720eb9d27d5d161c0e87009ba11cc6a6e7f24a9c3e9f1d36ae6caedc3587", func := "alfil/alfillaw09.MoveTexts", spec := "moveTexts", unfollowed := true, recurses := true, named := ["alfil/ways.steps", "alfil/pos.homes", "alfil/pos.views", "alfil/move.lastRanks", "alfil/move.promos", "alfil/move.wings"], apart := false, laid := [("alfil/ways.steps", laid_alfil_ways_steps), ("alfil/pos.homes", laid_alfil_pos_homes), ("alfil/pos.views", laid_alfil_pos_views), ("alfil/move.promos", laid_alfil_move_promos), ("alfil/move.lastRanks", laid_alfil_move_lastRanks), ("alfil/move.wings", laid_alfil_move_wings)] }
def MoveTextsSaid : Prop := moveTextsRow.holds Tryd.pinned (OpenSpec.ofChange moveTextsSpec)

/-- ITS FALSE NEIGHBOUR: 'it returns false'. Refute it at one input. -/
def moveTextsWrong : ChangeSpec := { name := "moveTexts", fn := fun _ => fun
  | [d1, d2] => { results := [.lit (.bool false)], args := [d1, d2] }
  | _ => none }
def MoveTextsWrongFalsely : Prop := moveTextsRow.holds Tryd.pinned (OpenSpec.ofChange moveTextsWrong)

/-- 'alfillaw09.MoveOrder': WHATEVER THE INPUT: true; the input reads as it did. -/
def moveOrderSpec : ChangeSpec := { name := "moveOrder", fn := fun _ => fun
  | [d1, d2, d3] => { results := [.lit (.bool true)], args := [d1, d2, d3] }
  | _ => none }
def moveOrderRow : OpenClaim := { program := "ytliibpahnkeogaadoor", sum := "c2a4720eb9d27d5d161c0e87009ba11cc6a6e7f24a9c3e9f1d36ae6caedc3587", func := "alfil/alfillaw09.MoveOrder", spec := "moveOrder", unfollowed := true, recurses := true, named := ["alfil/ways.steps", "alfil/pos.homes", "alfil/pos.views", "alfil/move.lastRanks", "alfil/move.promos", "alfil/move.wings"], apart := false, laid := [("alfil/ways.steps", laid_alfil_ways_steps), ("alfil/pos.homes", laid_alfil_pos_homes), ("alfil/pos.views", laid_alfil_pos_views), ("alfil/move.promos", laid_alfil_move_promos), ("alfil/move.lastRanks", laid_alfil_move_lastRanks), ("alfil/move.wings", laid_alfil_move_wings)] }
def MoveOrderSaid : Prop := moveOrderRow.holds Tryd.pinned (OpenSpec.ofChange moveOrderSpec)

/-- ITS FALSE NEIGHBOUR: 'it returns false'. Refute it at one input. -/
def moveOrderWrong : ChangeSpec := { name := "moveOrder", fn := fun _ => fun
  | [d1, d2, d3] => { results := [.lit (.bool false)], args := [d1, d2, d3] }
  | _ => none }
def MoveOrderWrongFalsely : Prop := moveOrderRow.holds Tryd.pinned (OpenSpec.ofChange moveOrderWrong)

/- THE SECOND FORM. 'bulk': how many values and letters a reading holds, each counted each time it is reached (what is shared counts as often as it is met; a slice's spare places count too). A statement '..UptoSaid' is the law's where the arguments, and the package variables that the reading takes, are together of bulk at most 1048576: NARROWER than '..Said'. Prove '..Said' where nothing that the law and all that it calls make is longer than what came in: it says more and counts as full. Else prove '..UptoSaid'. A law counts once. -/
mutual
def uptoBulk {H : Type} : DataW H → Nat
  | .lit (.string bytes) => bytes.length + 1
  | .lit _ => 1
  | .nil => 1
  | .ptr d => uptoBulk d + 1
  | .slice elems spare => uptoBulkAll elems + uptoBulkAll spare + 1
  | .agg parts => uptoBulkAll parts + 1
  | .iface _ d => uptoBulk d + 1
  | .map entries => uptoBulkEntries entries + 1
  | .held _ => 1
def uptoBulkAll {H : Type} : List (DataW H) → Nat
  | [] => 0
  | d :: r => uptoBulk d + uptoBulkAll r
def uptoBulkEntries {H : Type} : List (Lit × DataW H) → Nat
  | [] => 0
  | x :: r => uptoBulkEntry x + uptoBulkEntries r
def uptoBulkEntry {H : Type} : Lit × DataW H → Nat
  | (.string bytes, d) => bytes.length + uptoBulk d + 1
  | (_, d) => uptoBulk d + 1
 end
def uptoSmall : (H : Type) → List (DataW H) → Bool := fun _ ds => decide (uptoBulkAll ds ≤ 1048576)
def OpenSpec.upto (s : _root_.Go.ChangeSpec) : _root_.Go.OpenSpec := { _root_.Go.OpenSpec.ofChange s with cond := some uptoSmall }

/-- 'alfillaw09.MoveMakes', WHERE WHAT IT READS IS OF BULK AT MOST 1048576: true; the input reads as it did. -/
def moveMakesUptoRow : OpenClaim := { program := "ytliibpahnkeogaadoor", sum := "c2a4720eb9d27d5d161c0e87009ba11cc6a6e7f24a9c3e9f1d36ae6caedc3587", func := "alfil/alfillaw09.MoveMakes", spec := "moveMakes", unfollowed := true, recurses := true, named := ["alfil/ways.steps", "alfil/pos.homes", "alfil/pos.views", "alfil/move.lastRanks", "alfil/move.promos", "alfil/move.wings"], apart := false, laid := [("alfil/ways.steps", laid_alfil_ways_steps), ("alfil/pos.homes", laid_alfil_pos_homes), ("alfil/pos.views", laid_alfil_pos_views), ("alfil/move.promos", laid_alfil_move_promos), ("alfil/move.lastRanks", laid_alfil_move_lastRanks), ("alfil/move.wings", laid_alfil_move_wings)], narrowed := true }
def MoveMakesUptoSaid : Prop := moveMakesUptoRow.holds Tryd.pinned (OpenSpec.upto moveMakesSpec)

/-- 'alfillaw09.MoveMen', WHERE WHAT IT READS IS OF BULK AT MOST 1048576: true; the input reads as it did. -/
def moveMenUptoRow : OpenClaim := { program := "ytliibpahnkeogaadoor", sum := "c2a4720eb9d27d5d161c0e87009ba11cc6a6e7f24a9c3e9f1d36ae6caedc3587", func := "alfil/alfillaw09.MoveMen", spec := "moveMen", unfollowed := true, recurses := true, named := ["alfil/ways.steps", "alfil/pos.homes", "alfil/pos.views", "alfil/move.lastRanks", "alfil/move.promos", "alfil/move.wings"], apart := false, laid := [("alfil/ways.steps", laid_alfil_ways_steps), ("alfil/pos.homes", laid_alfil_pos_homes), ("alfil/pos.views", laid_alfil_pos_views), ("alfil/move.promos", laid_alfil_move_promos), ("alfil/move.lastRanks", laid_alfil_move_lastRanks), ("alfil/move.wings", laid_alfil_move_wings)], narrowed := true }
def MoveMenUptoSaid : Prop := moveMenUptoRow.holds Tryd.pinned (OpenSpec.upto moveMenSpec)

/-- 'alfillaw09.MoveTurned', WHERE WHAT IT READS IS OF BULK AT MOST 1048576: true; the input reads as it did. -/
def moveTurnedUptoRow : OpenClaim := { program := "ytliibpahnkeogaadoor", sum := "c2a4720eb9d27d5d161c0e87009ba11cc6a6e7f24a9c3e9f1d36ae6caedc3587", func := "alfil/alfillaw09.MoveTurned", spec := "moveTurned", unfollowed := true, recurses := true, named := ["alfil/ways.steps", "alfil/pos.homes", "alfil/pos.views", "alfil/move.lastRanks", "alfil/move.promos", "alfil/move.wings"], apart := false, laid := [("alfil/ways.steps", laid_alfil_ways_steps), ("alfil/pos.homes", laid_alfil_pos_homes), ("alfil/pos.views", laid_alfil_pos_views), ("alfil/move.promos", laid_alfil_move_promos), ("alfil/move.lastRanks", laid_alfil_move_lastRanks), ("alfil/move.wings", laid_alfil_move_wings)], narrowed := true }
def MoveTurnedUptoSaid : Prop := moveTurnedUptoRow.holds Tryd.pinned (OpenSpec.upto moveTurnedSpec)

/-- 'alfillaw09.MoveTexts', WHERE WHAT IT READS IS OF BULK AT MOST 1048576: true; the input reads as it did. -/
def moveTextsUptoRow : OpenClaim := { program := "ytliibpahnkeogaadoor", sum := "c2a4720eb9d27d5d161c0e87009ba11cc6a6e7f24a9c3e9f1d36ae6caedc3587", func := "alfil/alfillaw09.MoveTexts", spec := "moveTexts", unfollowed := true, recurses := true, named := ["alfil/ways.steps", "alfil/pos.homes", "alfil/pos.views", "alfil/move.lastRanks", "alfil/move.promos", "alfil/move.wings"], apart := false, laid := [("alfil/ways.steps", laid_alfil_ways_steps), ("alfil/pos.homes", laid_alfil_pos_homes), ("alfil/pos.views", laid_alfil_pos_views), ("alfil/move.promos", laid_alfil_move_promos), ("alfil/move.lastRanks", laid_alfil_move_lastRanks), ("alfil/move.wings", laid_alfil_move_wings)], narrowed := true }
def MoveTextsUptoSaid : Prop := moveTextsUptoRow.holds Tryd.pinned (OpenSpec.upto moveTextsSpec)

/-- 'alfillaw09.MoveOrder', WHERE WHAT IT READS IS OF BULK AT MOST 1048576: true; the input reads as it did. -/
def moveOrderUptoRow : OpenClaim := { program := "ytliibpahnkeogaadoor", sum := "c2a4720eb9d27d5d161c0e87009ba11cc6a6e7f24a9c3e9f1d36ae6caedc3587", func := "alfil/alfillaw09.MoveOrder", spec := "moveOrder", unfollowed := true, recurses := true, named := ["alfil/ways.steps", "alfil/pos.homes", "alfil/pos.views", "alfil/move.lastRanks", "alfil/move.promos", "alfil/move.wings"], apart := false, laid := [("alfil/ways.steps", laid_alfil_ways_steps), ("alfil/pos.homes", laid_alfil_pos_homes), ("alfil/pos.views", laid_alfil_pos_views), ("alfil/move.promos", laid_alfil_move_promos), ("alfil/move.lastRanks", laid_alfil_move_lastRanks), ("alfil/move.wings", laid_alfil_move_wings)], narrowed := true }
def MoveOrderUptoSaid : Prop := moveOrderUptoRow.holds Tryd.pinned (OpenSpec.upto moveOrderSpec)

end Rows
end Go.Proofs.YtliibpahnkeogaaDoor
