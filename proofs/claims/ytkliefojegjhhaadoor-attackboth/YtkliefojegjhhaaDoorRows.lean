/-
  NARROWER THAN 'FOR EVERY INPUT', by the rows' own cells (each row's printed sentence says how): RaysOf: laid · RaysRay: laid · RaysBack: laid · RaysNil: laid · AttackStrikes: laid · AttackCheck: laid · AttackPinned: laid · AttackBoth: laid · AttackNil: laid.
  DERIVED. THE GIVEN ROWS OF THIS SEAT. 9 by the template 'for every input the law returns true; each argument reads behind the call as it read before'; 0 by the template 'total and deterministic' (their statements: YtkliefojegjhhaaDoorTotals.lean).
  GIVEN WITH THE SEED: the statements are not yours to turn. If you find one false, say at which input.
  Laid BY PROGRAM, IN A SANDBOX (cutbox-rows.mjs): the forced cells as the released guide's own fill.sh prints them over the translation f86a0461b788dbfa… (all of the seat's roots in one cut). By AI agents, Wed Nov 11 2026. No macro, syntax, notation, axiom, sorry.
-/
import Derived.Test.YtkliefojegjhhaaDoorChecked
import GoSem.Claim
import GoSem.ClaimJoined
import GoSem.ClaimMapViews
import Derived.JoinedTies
import Derived.KernelRfl
namespace Go.Proofs.YtkliefojegjhhaaDoor
/- THE CELL 'sum', in the pinned program and in every row, IS THE sha256 OF THE DUMP (.gsa) THAT YtkliefojegjhhaaDoorProg.lean LOADS. Nothing in Lean hashes anything: it is a label: what it is worth is what the hold of that sum in a sandbox is worth. -/
noncomputable def Tryd.pinned : Pinned := { name := "ytkliefojegjhhaadoor", sum := "f86a0461b788dbfaef9bb84957e6ced04c03fff20f63342ac25df3e5f784f45b", checked := Tryd.checked }
namespace Rows
def none {H : Type} : Left H := { results := [], args := [] }

/- WHAT THE LISTED PACKAGE-LEVEL VARIABLES READ AS WHEN THE CALL BEGINS. Each datum BY PROGRAM (the guide's laid-datum.mjs) off the statement by which the dump's own 'gosem.cut.vars' lays the variable. In a bare row this is a premise. The card (YtkliefojegjhhaaDoorCards.lean) ties it to the program's text. -/
def laid_alfil_ways_steps {H : Type} : DataW H := .agg [.agg [.lit (.int .i64 0), .lit (.int .i64 1)], .agg [.lit (.int .i64 1), .lit (.int .i64 0)], .agg [.lit (.int .i64 0), .lit (.int .i64 (-1))], .agg [.lit (.int .i64 (-1)), .lit (.int .i64 0)], .agg [.lit (.int .i64 1), .lit (.int .i64 1)], .agg [.lit (.int .i64 1), .lit (.int .i64 (-1))], .agg [.lit (.int .i64 (-1)), .lit (.int .i64 (-1))], .agg [.lit (.int .i64 (-1)), .lit (.int .i64 1)], .agg [.lit (.int .i64 1), .lit (.int .i64 2)], .agg [.lit (.int .i64 2), .lit (.int .i64 1)], .agg [.lit (.int .i64 2), .lit (.int .i64 (-1))], .agg [.lit (.int .i64 1), .lit (.int .i64 (-2))], .agg [.lit (.int .i64 (-1)), .lit (.int .i64 (-2))], .agg [.lit (.int .i64 (-2)), .lit (.int .i64 (-1))], .agg [.lit (.int .i64 (-2)), .lit (.int .i64 1)], .agg [.lit (.int .i64 (-1)), .lit (.int .i64 2)]]

/-- 'alfillaw06.RaysOf': WHATEVER THE INPUT: true; the input reads as it did. -/
def raysOfSpec : ChangeSpec := { name := "raysOf", fn := fun _ => fun
  | [d1, d2] => { results := [.lit (.bool true)], args := [d1, d2] }
  | _ => none }
def raysOfRow : OpenClaim := { program := "ytkliefojegjhhaadoor", sum := "f86a0461b788dbfaef9bb84957e6ced04c03fff20f63342ac25df3e5f784f45b", func := "alfil/alfillaw06.RaysOf", spec := "raysOf", named := ["alfil/ways.steps"], apart := false, laid := [("alfil/ways.steps", laid_alfil_ways_steps)] }
def RaysOfSaid : Prop := raysOfRow.holds Tryd.pinned (OpenSpec.ofChange raysOfSpec)

/-- ITS FALSE NEIGHBOUR: 'it returns false'. Refute it at one input. -/
def raysOfWrong : ChangeSpec := { name := "raysOf", fn := fun _ => fun
  | [d1, d2] => { results := [.lit (.bool false)], args := [d1, d2] }
  | _ => none }
def RaysOfWrongFalsely : Prop := raysOfRow.holds Tryd.pinned (OpenSpec.ofChange raysOfWrong)

/-- 'alfillaw06.RaysRay': WHATEVER THE INPUT: true; the input reads as it did. -/
def raysRaySpec : ChangeSpec := { name := "raysRay", fn := fun _ => fun
  | [d1, d2, d3] => { results := [.lit (.bool true)], args := [d1, d2, d3] }
  | _ => none }
def raysRayRow : OpenClaim := { program := "ytkliefojegjhhaadoor", sum := "f86a0461b788dbfaef9bb84957e6ced04c03fff20f63342ac25df3e5f784f45b", func := "alfil/alfillaw06.RaysRay", spec := "raysRay", named := ["alfil/ways.steps"], apart := false, laid := [("alfil/ways.steps", laid_alfil_ways_steps)] }
def RaysRaySaid : Prop := raysRayRow.holds Tryd.pinned (OpenSpec.ofChange raysRaySpec)

/-- ITS FALSE NEIGHBOUR: 'it returns false'. Refute it at one input. -/
def raysRayWrong : ChangeSpec := { name := "raysRay", fn := fun _ => fun
  | [d1, d2, d3] => { results := [.lit (.bool false)], args := [d1, d2, d3] }
  | _ => none }
def RaysRayWrongFalsely : Prop := raysRayRow.holds Tryd.pinned (OpenSpec.ofChange raysRayWrong)

/-- 'alfillaw06.RaysBack': WHATEVER THE INPUT: true; the input reads as it did. -/
def raysBackSpec : ChangeSpec := { name := "raysBack", fn := fun _ => fun
  | [d1, d2] => { results := [.lit (.bool true)], args := [d1, d2] }
  | _ => none }
def raysBackRow : OpenClaim := { program := "ytkliefojegjhhaadoor", sum := "f86a0461b788dbfaef9bb84957e6ced04c03fff20f63342ac25df3e5f784f45b", func := "alfil/alfillaw06.RaysBack", spec := "raysBack", named := ["alfil/ways.steps"], apart := false, laid := [("alfil/ways.steps", laid_alfil_ways_steps)] }
def RaysBackSaid : Prop := raysBackRow.holds Tryd.pinned (OpenSpec.ofChange raysBackSpec)

/-- ITS FALSE NEIGHBOUR: 'it returns false'. Refute it at one input. -/
def raysBackWrong : ChangeSpec := { name := "raysBack", fn := fun _ => fun
  | [d1, d2] => { results := [.lit (.bool false)], args := [d1, d2] }
  | _ => none }
def RaysBackWrongFalsely : Prop := raysBackRow.holds Tryd.pinned (OpenSpec.ofChange raysBackWrong)

/-- 'alfillaw06.RaysNil': WHATEVER THE INPUT: true; the input reads as it did. -/
def raysNilSpec : ChangeSpec := { name := "raysNil", fn := fun _ => fun
  | [d1, d2] => { results := [.lit (.bool true)], args := [d1, d2] }
  | _ => none }
def raysNilRow : OpenClaim := { program := "ytkliefojegjhhaadoor", sum := "f86a0461b788dbfaef9bb84957e6ced04c03fff20f63342ac25df3e5f784f45b", func := "alfil/alfillaw06.RaysNil", spec := "raysNil", named := ["alfil/ways.steps"], apart := false, laid := [("alfil/ways.steps", laid_alfil_ways_steps)] }
def RaysNilSaid : Prop := raysNilRow.holds Tryd.pinned (OpenSpec.ofChange raysNilSpec)

/-- ITS FALSE NEIGHBOUR: 'it returns false'. Refute it at one input. -/
def raysNilWrong : ChangeSpec := { name := "raysNil", fn := fun _ => fun
  | [d1, d2] => { results := [.lit (.bool false)], args := [d1, d2] }
  | _ => none }
def RaysNilWrongFalsely : Prop := raysNilRow.holds Tryd.pinned (OpenSpec.ofChange raysNilWrong)

/-- 'alfillaw07.AttackStrikes': WHATEVER THE INPUT: true; the input reads as it did. -/
def attackStrikesSpec : ChangeSpec := { name := "attackStrikes", fn := fun _ => fun
  | [d1, d2, d3] => { results := [.lit (.bool true)], args := [d1, d2, d3] }
  | _ => none }
def attackStrikesRow : OpenClaim := { program := "ytkliefojegjhhaadoor", sum := "f86a0461b788dbfaef9bb84957e6ced04c03fff20f63342ac25df3e5f784f45b", func := "alfil/alfillaw07.AttackStrikes", spec := "attackStrikes", unfollowed := true, recurses := true, named := ["alfil/ways.steps"], apart := false, laid := [("alfil/ways.steps", laid_alfil_ways_steps)] }
def AttackStrikesSaid : Prop := attackStrikesRow.holds Tryd.pinned (OpenSpec.ofChange attackStrikesSpec)

/-- ITS FALSE NEIGHBOUR: 'it returns false'. Refute it at one input. -/
def attackStrikesWrong : ChangeSpec := { name := "attackStrikes", fn := fun _ => fun
  | [d1, d2, d3] => { results := [.lit (.bool false)], args := [d1, d2, d3] }
  | _ => none }
def AttackStrikesWrongFalsely : Prop := attackStrikesRow.holds Tryd.pinned (OpenSpec.ofChange attackStrikesWrong)

/-- 'alfillaw07.AttackCheck': WHATEVER THE INPUT: true; the input reads as it did. -/
def attackCheckSpec : ChangeSpec := { name := "attackCheck", fn := fun _ => fun
  | [d] => { results := [.lit (.bool true)], args := [d] }
  | _ => none }
def attackCheckRow : OpenClaim := { program := "ytkliefojegjhhaadoor", sum := "f86a0461b788dbfaef9bb84957e6ced04c03fff20f63342ac25df3e5f784f45b", func := "alfil/alfillaw07.AttackCheck", spec := "attackCheck", unfollowed := true, recurses := true, named := ["alfil/ways.steps"], apart := false, laid := [("alfil/ways.steps", laid_alfil_ways_steps)] }
def AttackCheckSaid : Prop := attackCheckRow.holds Tryd.pinned (OpenSpec.ofChange attackCheckSpec)

/-- ITS FALSE NEIGHBOUR: 'it returns false'. Refute it at one input. -/
def attackCheckWrong : ChangeSpec := { name := "attackCheck", fn := fun _ => fun
  | [d] => { results := [.lit (.bool false)], args := [d] }
  | _ => none }
def AttackCheckWrongFalsely : Prop := attackCheckRow.holds Tryd.pinned (OpenSpec.ofChange attackCheckWrong)

/-- 'alfillaw07.AttackPinned': WHATEVER THE INPUT: true; the input reads as it did. -/
def attackPinnedSpec : ChangeSpec := { name := "attackPinned", fn := fun _ => fun
  | [d1, d2] => { results := [.lit (.bool true)], args := [d1, d2] }
  | _ => none }
def attackPinnedRow : OpenClaim := { program := "ytkliefojegjhhaadoor", sum := "f86a0461b788dbfaef9bb84957e6ced04c03fff20f63342ac25df3e5f784f45b", func := "alfil/alfillaw07.AttackPinned", spec := "attackPinned", unfollowed := true, recurses := true, named := ["alfil/ways.steps"], apart := false, laid := [("alfil/ways.steps", laid_alfil_ways_steps)] }
def AttackPinnedSaid : Prop := attackPinnedRow.holds Tryd.pinned (OpenSpec.ofChange attackPinnedSpec)

/-- ITS FALSE NEIGHBOUR: 'it returns false'. Refute it at one input. -/
def attackPinnedWrong : ChangeSpec := { name := "attackPinned", fn := fun _ => fun
  | [d1, d2] => { results := [.lit (.bool false)], args := [d1, d2] }
  | _ => none }
def AttackPinnedWrongFalsely : Prop := attackPinnedRow.holds Tryd.pinned (OpenSpec.ofChange attackPinnedWrong)

/-- 'alfillaw07.AttackBoth': WHATEVER THE INPUT: true; the input reads as it did. -/
def attackBothSpec : ChangeSpec := { name := "attackBoth", fn := fun _ => fun
  | [d1, d2] => { results := [.lit (.bool true)], args := [d1, d2] }
  | _ => none }
def attackBothRow : OpenClaim := { program := "ytkliefojegjhhaadoor", sum := "f86a0461b788dbfaef9bb84957e6ced04c03fff20f63342ac25df3e5f784f45b", func := "alfil/alfillaw07.AttackBoth", spec := "attackBoth", unfollowed := true, recurses := true, named := ["alfil/ways.steps"], apart := false, laid := [("alfil/ways.steps", laid_alfil_ways_steps)] }
def AttackBothSaid : Prop := attackBothRow.holds Tryd.pinned (OpenSpec.ofChange attackBothSpec)

/-- ITS FALSE NEIGHBOUR: 'it returns false'. Refute it at one input. -/
def attackBothWrong : ChangeSpec := { name := "attackBoth", fn := fun _ => fun
  | [d1, d2] => { results := [.lit (.bool false)], args := [d1, d2] }
  | _ => none }
def AttackBothWrongFalsely : Prop := attackBothRow.holds Tryd.pinned (OpenSpec.ofChange attackBothWrong)

/-- 'alfillaw07.AttackNil': WHATEVER THE INPUT: true; the input reads as it did. -/
def attackNilSpec : ChangeSpec := { name := "attackNil", fn := fun _ => fun
  | [d1, d2] => { results := [.lit (.bool true)], args := [d1, d2] }
  | _ => none }
def attackNilRow : OpenClaim := { program := "ytkliefojegjhhaadoor", sum := "f86a0461b788dbfaef9bb84957e6ced04c03fff20f63342ac25df3e5f784f45b", func := "alfil/alfillaw07.AttackNil", spec := "attackNil", unfollowed := true, recurses := true, named := ["alfil/ways.steps"], apart := false, laid := [("alfil/ways.steps", laid_alfil_ways_steps)] }
def AttackNilSaid : Prop := attackNilRow.holds Tryd.pinned (OpenSpec.ofChange attackNilSpec)

/-- ITS FALSE NEIGHBOUR: 'it returns false'. Refute it at one input. -/
def attackNilWrong : ChangeSpec := { name := "attackNil", fn := fun _ => fun
  | [d1, d2] => { results := [.lit (.bool false)], args := [d1, d2] }
  | _ => none }
def AttackNilWrongFalsely : Prop := attackNilRow.holds Tryd.pinned (OpenSpec.ofChange attackNilWrong)

/- THE SECOND FORM. 'bulk': how many values and letters a reading holds, each counted each time it is reached (what is shared counts as often as it is met; a slice's spare places count too). A statement '..UptoSaid' is the law's where the arguments, and the package variables that the reading takes, are together of bulk at most 1048576: NARROWER than '..Said'. Prove '..Said' where nothing that the law and all that it calls make is longer than what came in: it says more and counts as full. Else prove '..UptoSaid'. A law counts once. -/
mutual
def uptoBulk {H : Type} : DataW H → Nat
  | .lit (.string bytes) => bytes.length + 1
  | .lit _ => 1
  | .nil => 1
  | .ptr d => uptoBulk d + 1
  | .slice elems spare => uptoBulkAll elems + uptoBulkAll spare + 1
  | .agg parts => uptoBulkAll parts + 1
  | .iface _ d => uptoBulk d + 1
  | .map entries => uptoBulkEntries entries + 1
  | .held _ => 1
def uptoBulkAll {H : Type} : List (DataW H) → Nat
  | [] => 0
  | d :: r => uptoBulk d + uptoBulkAll r
def uptoBulkEntries {H : Type} : List (Lit × DataW H) → Nat
  | [] => 0
  | x :: r => uptoBulkEntry x + uptoBulkEntries r
def uptoBulkEntry {H : Type} : Lit × DataW H → Nat
  | (.string bytes, d) => bytes.length + uptoBulk d + 1
  | (_, d) => uptoBulk d + 1
 end
def uptoSmall : (H : Type) → List (DataW H) → Bool := fun _ ds => decide (uptoBulkAll ds ≤ 1048576)
def OpenSpec.upto (s : _root_.Go.ChangeSpec) : _root_.Go.OpenSpec := { _root_.Go.OpenSpec.ofChange s with cond := some uptoSmall }

/-- 'alfillaw06.RaysOf', WHERE WHAT IT READS IS OF BULK AT MOST 1048576: true; the input reads as it did. -/
def raysOfUptoRow : OpenClaim := { program := "ytkliefojegjhhaadoor", sum := "f86a0461b788dbfaef9bb84957e6ced04c03fff20f63342ac25df3e5f784f45b", func := "alfil/alfillaw06.RaysOf", spec := "raysOf", named := ["alfil/ways.steps"], apart := false, laid := [("alfil/ways.steps", laid_alfil_ways_steps)], narrowed := true }
def RaysOfUptoSaid : Prop := raysOfUptoRow.holds Tryd.pinned (OpenSpec.upto raysOfSpec)

/-- 'alfillaw06.RaysRay', WHERE WHAT IT READS IS OF BULK AT MOST 1048576: true; the input reads as it did. -/
def raysRayUptoRow : OpenClaim := { program := "ytkliefojegjhhaadoor", sum := "f86a0461b788dbfaef9bb84957e6ced04c03fff20f63342ac25df3e5f784f45b", func := "alfil/alfillaw06.RaysRay", spec := "raysRay", named := ["alfil/ways.steps"], apart := false, laid := [("alfil/ways.steps", laid_alfil_ways_steps)], narrowed := true }
def RaysRayUptoSaid : Prop := raysRayUptoRow.holds Tryd.pinned (OpenSpec.upto raysRaySpec)

/-- 'alfillaw06.RaysBack', WHERE WHAT IT READS IS OF BULK AT MOST 1048576: true; the input reads as it did. -/
def raysBackUptoRow : OpenClaim := { program := "ytkliefojegjhhaadoor", sum := "f86a0461b788dbfaef9bb84957e6ced04c03fff20f63342ac25df3e5f784f45b", func := "alfil/alfillaw06.RaysBack", spec := "raysBack", named := ["alfil/ways.steps"], apart := false, laid := [("alfil/ways.steps", laid_alfil_ways_steps)], narrowed := true }
def RaysBackUptoSaid : Prop := raysBackUptoRow.holds Tryd.pinned (OpenSpec.upto raysBackSpec)

/-- 'alfillaw06.RaysNil', WHERE WHAT IT READS IS OF BULK AT MOST 1048576: true; the input reads as it did. -/
def raysNilUptoRow : OpenClaim := { program := "ytkliefojegjhhaadoor", sum := "f86a0461b788dbfaef9bb84957e6ced04c03fff20f63342ac25df3e5f784f45b", func := "alfil/alfillaw06.RaysNil", spec := "raysNil", named := ["alfil/ways.steps"], apart := false, laid := [("alfil/ways.steps", laid_alfil_ways_steps)], narrowed := true }
def RaysNilUptoSaid : Prop := raysNilUptoRow.holds Tryd.pinned (OpenSpec.upto raysNilSpec)

/-- 'alfillaw07.AttackStrikes', WHERE WHAT IT READS IS OF BULK AT MOST 1048576: true; the input reads as it did. -/
def attackStrikesUptoRow : OpenClaim := { program := "ytkliefojegjhhaadoor", sum := "f86a0461b788dbfaef9bb84957e6ced04c03fff20f63342ac25df3e5f784f45b", func := "alfil/alfillaw07.AttackStrikes", spec := "attackStrikes", unfollowed := true, recurses := true, named := ["alfil/ways.steps"], apart := false, laid := [("alfil/ways.steps", laid_alfil_ways_steps)], narrowed := true }
def AttackStrikesUptoSaid : Prop := attackStrikesUptoRow.holds Tryd.pinned (OpenSpec.upto attackStrikesSpec)

/-- 'alfillaw07.AttackCheck', WHERE WHAT IT READS IS OF BULK AT MOST 1048576: true; the input reads as it did. -/
def attackCheckUptoRow : OpenClaim := { program := "ytkliefojegjhhaadoor", sum := "f86a0461b788dbfaef9bb84957e6ced04c03fff20f63342ac25df3e5f784f45b", func := "alfil/alfillaw07.AttackCheck", spec := "attackCheck", unfollowed := true, recurses := true, named := ["alfil/ways.steps"], apart := false, laid := [("alfil/ways.steps", laid_alfil_ways_steps)], narrowed := true }
def AttackCheckUptoSaid : Prop := attackCheckUptoRow.holds Tryd.pinned (OpenSpec.upto attackCheckSpec)

/-- 'alfillaw07.AttackPinned', WHERE WHAT IT READS IS OF BULK AT MOST 1048576: true; the input reads as it did. -/
def attackPinnedUptoRow : OpenClaim := { program := "ytkliefojegjhhaadoor", sum := "f86a0461b788dbfaef9bb84957e6ced04c03fff20f63342ac25df3e5f784f45b", func := "alfil/alfillaw07.AttackPinned", spec := "attackPinned", unfollowed := true, recurses := true, named := ["alfil/ways.steps"], apart := false, laid := [("alfil/ways.steps", laid_alfil_ways_steps)], narrowed := true }
def AttackPinnedUptoSaid : Prop := attackPinnedUptoRow.holds Tryd.pinned (OpenSpec.upto attackPinnedSpec)

/-- 'alfillaw07.AttackBoth', WHERE WHAT IT READS IS OF BULK AT MOST 1048576: true; the input reads as it did. -/
def attackBothUptoRow : OpenClaim := { program := "ytkliefojegjhhaadoor", sum := "f86a0461b788dbfaef9bb84957e6ced04c03fff20f63342ac25df3e5f784f45b", func := "alfil/alfillaw07.AttackBoth", spec := "attackBoth", unfollowed := true, recurses := true, named := ["alfil/ways.steps"], apart := false, laid := [("alfil/ways.steps", laid_alfil_ways_steps)], narrowed := true }
def AttackBothUptoSaid : Prop := attackBothUptoRow.holds Tryd.pinned (OpenSpec.upto attackBothSpec)

/-- 'alfillaw07.AttackNil', WHERE WHAT IT READS IS OF BULK AT MOST 1048576: true; the input reads as it did. -/
def attackNilUptoRow : OpenClaim := { program := "ytkliefojegjhhaadoor", sum := "f86a0461b788dbfaef9bb84957e6ced04c03fff20f63342ac25df3e5f784f45b", func := "alfil/alfillaw07.AttackNil", spec := "attackNil", unfollowed := true, recurses := true, named := ["alfil/ways.steps"], apart := false, laid := [("alfil/ways.steps", laid_alfil_ways_steps)], narrowed := true }
def AttackNilUptoSaid : Prop := attackNilUptoRow.holds Tryd.pinned (OpenSpec.upto attackNilSpec)

end Rows
end Go.Proofs.YtkliefojegjhhaaDoor
