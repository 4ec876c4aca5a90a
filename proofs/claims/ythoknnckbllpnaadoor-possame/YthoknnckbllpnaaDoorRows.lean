/-
  NARROWER THAN 'FOR EVERY INPUT', by the rows' own cells (each row's printed sentence says how): PosWrong: laid · PosBacked: laid · PosOf: laid · PosTurns: laid · PosSame: laid.
  DERIVED. THE GIVEN ROWS OF THIS SEAT. 5 by the template 'for every input the law returns true; each argument reads behind the call as it read before'; 0 by the template 'total and deterministic' (their statements: YthoknnckbllpnaaDoorTotals.lean).
  GIVEN WITH THE SEED: the statements are not yours to turn. If you find one false, say at which input.
  Laid BY PROGRAM, IN A SANDBOX (cutbox-rows.mjs): the forced cells as the released guide's own fill.sh prints them over the translation 23c039538861cef0… (all of the seat's roots in one cut). By AI agents, Wed Nov 11 2026. No macro, syntax, notation, axiom, sorry.
-/
import Derived.Test.YthoknnckbllpnaaDoorChecked
import GoSem.Claim
import GoSem.ClaimJoined
import GoSem.ClaimMapViews
import Derived.JoinedTies
import Derived.KernelRfl
namespace Go.Proofs.YthoknnckbllpnaaDoor
/- THE CELL 'sum', in the pinned program and in every row, IS THE sha256 OF THE DUMP (.gsa) THAT YthoknnckbllpnaaDoorProg.lean LOADS. Nothing in Lean hashes anything: it is a label: what it is worth is what the hold of that sum in a sandbox is worth. -/
noncomputable def Tryd.pinned : Pinned := { name := "ythoknnckbllpnaadoor", sum := "23c039538861cef0d0c4bb46e1f1aacc205daa60f6bcd1d2947ab039759ba5ba", checked := Tryd.checked }
namespace Rows
def none {H : Type} : Left H := { results := [], args := [] }

/- WHAT THE LISTED PACKAGE-LEVEL VARIABLES READ AS WHEN THE CALL BEGINS. Each datum BY PROGRAM (the guide's laid-datum.mjs) off the statement by which the dump's own 'gosem.cut.vars' lays the variable. In a bare row this is a premise. The card (YthoknnckbllpnaaDoorCards.lean) ties it to the program's text. -/
def laid_alfil_ways_steps {H : Type} : DataW H := .agg [.agg [.lit (.int .i64 0), .lit (.int .i64 1)], .agg [.lit (.int .i64 1), .lit (.int .i64 0)], .agg [.lit (.int .i64 0), .lit (.int .i64 (-1))], .agg [.lit (.int .i64 (-1)), .lit (.int .i64 0)], .agg [.lit (.int .i64 1), .lit (.int .i64 1)], .agg [.lit (.int .i64 1), .lit (.int .i64 (-1))], .agg [.lit (.int .i64 (-1)), .lit (.int .i64 (-1))], .agg [.lit (.int .i64 (-1)), .lit (.int .i64 1)], .agg [.lit (.int .i64 1), .lit (.int .i64 2)], .agg [.lit (.int .i64 2), .lit (.int .i64 1)], .agg [.lit (.int .i64 2), .lit (.int .i64 (-1))], .agg [.lit (.int .i64 1), .lit (.int .i64 (-2))], .agg [.lit (.int .i64 (-1)), .lit (.int .i64 (-2))], .agg [.lit (.int .i64 (-2)), .lit (.int .i64 (-1))], .agg [.lit (.int .i64 (-2)), .lit (.int .i64 1)], .agg [.lit (.int .i64 (-1)), .lit (.int .i64 2)]]
def laid_alfil_pos_homes {H : Type} : DataW H := .agg [.agg [.lit (.int .i64 1), .lit (.int .i64 0), .lit (.int .i64 4), .lit (.int .i64 7)], .agg [.lit (.int .i64 2), .lit (.int .i64 0), .lit (.int .i64 4), .lit (.int .i64 0)], .agg [.lit (.int .i64 4), .lit (.int .i64 1), .lit (.int .i64 60), .lit (.int .i64 63)], .agg [.lit (.int .i64 8), .lit (.int .i64 1), .lit (.int .i64 60), .lit (.int .i64 56)]]
def laid_alfil_pos_views {H : Type} : DataW H := .agg [.agg [.lit (.int .i64 5), .lit (.int .i64 1)], .agg [.lit (.int .i64 2), .lit (.int .i64 (-1))]]

/-- 'alfillaw08.PosWrong': WHATEVER THE INPUT: true; the input reads as it did. -/
def posWrongSpec : ChangeSpec := { name := "posWrong", fn := fun _ => fun
  | [d] => { results := [.lit (.bool true)], args := [d] }
  | _ => none }
def posWrongRow : OpenClaim := { program := "ythoknnckbllpnaadoor", sum := "23c039538861cef0d0c4bb46e1f1aacc205daa60f6bcd1d2947ab039759ba5ba", func := "alfil/alfillaw08.PosWrong", spec := "posWrong", unfollowed := true, recurses := true, named := ["alfil/ways.steps", "alfil/pos.homes", "alfil/pos.views"], apart := false, laid := [("alfil/ways.steps", laid_alfil_ways_steps), ("alfil/pos.homes", laid_alfil_pos_homes), ("alfil/pos.views", laid_alfil_pos_views)] }
def PosWrongSaid : Prop := posWrongRow.holds Tryd.pinned (OpenSpec.ofChange posWrongSpec)

/-- ITS FALSE NEIGHBOUR: 'it returns false'. Refute it at one input. -/
def posWrongWrong : ChangeSpec := { name := "posWrong", fn := fun _ => fun
  | [d] => { results := [.lit (.bool false)], args := [d] }
  | _ => none }
def PosWrongWrongFalsely : Prop := posWrongRow.holds Tryd.pinned (OpenSpec.ofChange posWrongWrong)

/-- 'alfillaw08.PosBacked': WHATEVER THE INPUT: true; the input reads as it did. -/
def posBackedSpec : ChangeSpec := { name := "posBacked", fn := fun _ => fun
  | [d1, d2] => { results := [.lit (.bool true)], args := [d1, d2] }
  | _ => none }
def posBackedRow : OpenClaim := { program := "ythoknnckbllpnaadoor", sum := "23c039538861cef0d0c4bb46e1f1aacc205daa60f6bcd1d2947ab039759ba5ba", func := "alfil/alfillaw08.PosBacked", spec := "posBacked", unfollowed := true, recurses := true, named := ["alfil/ways.steps", "alfil/pos.homes", "alfil/pos.views"], apart := false, laid := [("alfil/ways.steps", laid_alfil_ways_steps), ("alfil/pos.homes", laid_alfil_pos_homes), ("alfil/pos.views", laid_alfil_pos_views)] }
def PosBackedSaid : Prop := posBackedRow.holds Tryd.pinned (OpenSpec.ofChange posBackedSpec)

/-- ITS FALSE NEIGHBOUR: 'it returns false'. Refute it at one input. -/
def posBackedWrong : ChangeSpec := { name := "posBacked", fn := fun _ => fun
  | [d1, d2] => { results := [.lit (.bool false)], args := [d1, d2] }
  | _ => none }
def PosBackedWrongFalsely : Prop := posBackedRow.holds Tryd.pinned (OpenSpec.ofChange posBackedWrong)

/-- 'alfillaw08.PosOf': WHATEVER THE INPUT: true; the input reads as it did. -/
def posOfSpec : ChangeSpec := { name := "posOf", fn := fun _ => fun
  | [d1, d2] => { results := [.lit (.bool true)], args := [d1, d2] }
  | _ => none }
def posOfRow : OpenClaim := { program := "ythoknnckbllpnaadoor", sum := "23c039538861cef0d0c4bb46e1f1aacc205daa60f6bcd1d2947ab039759ba5ba", func := "alfil/alfillaw08.PosOf", spec := "posOf", unfollowed := true, recurses := true, named := ["alfil/ways.steps", "alfil/pos.homes", "alfil/pos.views"], apart := false, laid := [("alfil/ways.steps", laid_alfil_ways_steps), ("alfil/pos.homes", laid_alfil_pos_homes), ("alfil/pos.views", laid_alfil_pos_views)] }
def PosOfSaid : Prop := posOfRow.holds Tryd.pinned (OpenSpec.ofChange posOfSpec)

/-- ITS FALSE NEIGHBOUR: 'it returns false'. Refute it at one input. -/
def posOfWrong : ChangeSpec := { name := "posOf", fn := fun _ => fun
  | [d1, d2] => { results := [.lit (.bool false)], args := [d1, d2] }
  | _ => none }
def PosOfWrongFalsely : Prop := posOfRow.holds Tryd.pinned (OpenSpec.ofChange posOfWrong)

/-- 'alfillaw08.PosTurns': WHATEVER THE INPUT: true; the input reads as it did. -/
def posTurnsSpec : ChangeSpec := { name := "posTurns", fn := fun _ => fun
  | [d] => { results := [.lit (.bool true)], args := [d] }
  | _ => none }
def posTurnsRow : OpenClaim := { program := "ythoknnckbllpnaadoor", sum := "23c039538861cef0d0c4bb46e1f1aacc205daa60f6bcd1d2947ab039759ba5ba", func := "alfil/alfillaw08.PosTurns", spec := "posTurns", unfollowed := true, recurses := true, named := ["alfil/ways.steps", "alfil/pos.homes", "alfil/pos.views"], apart := false, laid := [("alfil/ways.steps", laid_alfil_ways_steps), ("alfil/pos.homes", laid_alfil_pos_homes), ("alfil/pos.views", laid_alfil_pos_views)] }
def PosTurnsSaid : Prop := posTurnsRow.holds Tryd.pinned (OpenSpec.ofChange posTurnsSpec)

/-- ITS FALSE NEIGHBOUR: 'it returns false'. Refute it at one input. -/
def posTurnsWrong : ChangeSpec := { name := "posTurns", fn := fun _ => fun
  | [d] => { results := [.lit (.bool false)], args := [d] }
  | _ => none }
def PosTurnsWrongFalsely : Prop := posTurnsRow.holds Tryd.pinned (OpenSpec.ofChange posTurnsWrong)

/-- 'alfillaw08.PosSame': WHATEVER THE INPUT: true; the input reads as it did. -/
def posSameSpec : ChangeSpec := { name := "posSame", fn := fun _ => fun
  | [d1, d2, d3] => { results := [.lit (.bool true)], args := [d1, d2, d3] }
  | _ => none }
def posSameRow : OpenClaim := { program := "ythoknnckbllpnaadoor", sum := "23c039538861cef0d0c4bb46e1f1aacc205daa60f6bcd1d2947ab039759ba5ba", func := "alfil/alfillaw08.PosSame", spec := "posSame", unfollowed := true, recurses := true, named := ["alfil/ways.steps", "alfil/pos.homes", "alfil/pos.views"], apart := false, laid := [("alfil/ways.steps", laid_alfil_ways_steps), ("alfil/pos.homes", laid_alfil_pos_homes), ("alfil/pos.views", laid_alfil_pos_views)] }
def PosSameSaid : Prop := posSameRow.holds Tryd.pinned (OpenSpec.ofChange posSameSpec)

/-- ITS FALSE NEIGHBOUR: 'it returns false'. Refute it at one input. -/
def posSameWrong : ChangeSpec := { name := "posSame", fn := fun _ => fun
  | [d1, d2, d3] => { results := [.lit (.bool false)], args := [d1, d2, d3] }
  | _ => none }
def PosSameWrongFalsely : Prop := posSameRow.holds Tryd.pinned (OpenSpec.ofChange posSameWrong)

/- THE SECOND FORM. 'bulk': how many values and letters a reading holds, each counted each time it is reached (what is shared counts as often as it is met; a slice's spare places count too). A statement '..UptoSaid' is the law's where the arguments, and the package variables that the reading takes, are together of bulk at most 1048576: NARROWER than '..Said'. Prove '..Said' where nothing that the law and all that it calls make is longer than what came in: it says more and counts as full. Else prove '..UptoSaid'. A law counts once. -/
mutual
def uptoBulk {H : Type} : DataW H → Nat
  | .lit (.string bytes) => bytes.length + 1
  | .lit _ => 1
  | .nil => 1
  | .ptr d => uptoBulk d + 1
  | .slice elems spare => uptoBulkAll elems + uptoBulkAll spare + 1
  | .agg parts => uptoBulkAll parts + 1
  | .iface _ d => uptoBulk d + 1
  | .map entries => uptoBulkEntries entries + 1
  | .held _ => 1
def uptoBulkAll {H : Type} : List (DataW H) → Nat
  | [] => 0
  | d :: r => uptoBulk d + uptoBulkAll r
def uptoBulkEntries {H : Type} : List (Lit × DataW H) → Nat
  | [] => 0
  | x :: r => uptoBulkEntry x + uptoBulkEntries r
def uptoBulkEntry {H : Type} : Lit × DataW H → Nat
  | (.string bytes, d) => bytes.length + uptoBulk d + 1
  | (_, d) => uptoBulk d + 1
 end
def uptoSmall : (H : Type) → List (DataW H) → Bool := fun _ ds => decide (uptoBulkAll ds ≤ 1048576)
def OpenSpec.upto (s : _root_.Go.ChangeSpec) : _root_.Go.OpenSpec := { _root_.Go.OpenSpec.ofChange s with cond := some uptoSmall }

/-- 'alfillaw08.PosWrong', WHERE WHAT IT READS IS OF BULK AT MOST 1048576: true; the input reads as it did. -/
def posWrongUptoRow : OpenClaim := { program := "ythoknnckbllpnaadoor", sum := "23c039538861cef0d0c4bb46e1f1aacc205daa60f6bcd1d2947ab039759ba5ba", func := "alfil/alfillaw08.PosWrong", spec := "posWrong", unfollowed := true, recurses := true, named := ["alfil/ways.steps", "alfil/pos.homes", "alfil/pos.views"], apart := false, laid := [("alfil/ways.steps", laid_alfil_ways_steps), ("alfil/pos.homes", laid_alfil_pos_homes), ("alfil/pos.views", laid_alfil_pos_views)], narrowed := true }
def PosWrongUptoSaid : Prop := posWrongUptoRow.holds Tryd.pinned (OpenSpec.upto posWrongSpec)

/-- 'alfillaw08.PosBacked', WHERE WHAT IT READS IS OF BULK AT MOST 1048576: true; the input reads as it did. -/
def posBackedUptoRow : OpenClaim := { program := "ythoknnckbllpnaadoor", sum := "23c039538861cef0d0c4bb46e1f1aacc205daa60f6bcd1d2947ab039759ba5ba", func := "alfil/alfillaw08.PosBacked", spec := "posBacked", unfollowed := true, recurses := true, named := ["alfil/ways.steps", "alfil/pos.homes", "alfil/pos.views"], apart := false, laid := [("alfil/ways.steps", laid_alfil_ways_steps), ("alfil/pos.homes", laid_alfil_pos_homes), ("alfil/pos.views", laid_alfil_pos_views)], narrowed := true }
def PosBackedUptoSaid : Prop := posBackedUptoRow.holds Tryd.pinned (OpenSpec.upto posBackedSpec)

/-- 'alfillaw08.PosOf', WHERE WHAT IT READS IS OF BULK AT MOST 1048576: true; the input reads as it did. -/
def posOfUptoRow : OpenClaim := { program := "ythoknnckbllpnaadoor", sum := "23c039538861cef0d0c4bb46e1f1aacc205daa60f6bcd1d2947ab039759ba5ba", func := "alfil/alfillaw08.PosOf", spec := "posOf", unfollowed := true, recurses := true, named := ["alfil/ways.steps", "alfil/pos.homes", "alfil/pos.views"], apart := false, laid := [("alfil/ways.steps", laid_alfil_ways_steps), ("alfil/pos.homes", laid_alfil_pos_homes), ("alfil/pos.views", laid_alfil_pos_views)], narrowed := true }
def PosOfUptoSaid : Prop := posOfUptoRow.holds Tryd.pinned (OpenSpec.upto posOfSpec)

/-- 'alfillaw08.PosTurns', WHERE WHAT IT READS IS OF BULK AT MOST 1048576: true; the input reads as it did. -/
def posTurnsUptoRow : OpenClaim := { program := "ythoknnckbllpnaadoor", sum := "23c039538861cef0d0c4bb46e1f1aacc205daa60f6bcd1d2947ab039759ba5ba", func := "alfil/alfillaw08.PosTurns", spec := "posTurns", unfollowed := true, recurses := true, named := ["alfil/ways.steps", "alfil/pos.homes", "alfil/pos.views"], apart := false, laid := [("alfil/ways.steps", laid_alfil_ways_steps), ("alfil/pos.homes", laid_alfil_pos_homes), ("alfil/pos.views", laid_alfil_pos_views)], narrowed := true }
def PosTurnsUptoSaid : Prop := posTurnsUptoRow.holds Tryd.pinned (OpenSpec.upto posTurnsSpec)

/-- 'alfillaw08.PosSame', WHERE WHAT IT READS IS OF BULK AT MOST 1048576: true; the input reads as it did. -/
def posSameUptoRow : OpenClaim := { program := "ythoknnckbllpnaadoor", sum := "23c039538861cef0d0c4bb46e1f1aacc205daa60f6bcd1d2947ab039759ba5ba", func := "alfil/alfillaw08.PosSame", spec := "posSame", unfollowed := true, recurses := true, named := ["alfil/ways.steps", "alfil/pos.homes", "alfil/pos.views"], apart := false, laid := [("alfil/ways.steps", laid_alfil_ways_steps), ("alfil/pos.homes", laid_alfil_pos_homes), ("alfil/pos.views", laid_alfil_pos_views)], narrowed := true }
def PosSameUptoSaid : Prop := posSameUptoRow.holds Tryd.pinned (OpenSpec.upto posSameSpec)

end Rows
end Go.Proofs.YthoknnckbllpnaaDoor
