/-
  NARROWER THAN 'FOR EVERY INPUT', by the rows' own cells (each row's printed sentence says how): RaysOf: laid · RaysRay: laid · RaysBack: laid · RaysNil: laid.
  DERIVED. THE GIVEN ROWS OF THIS SEAT. 4 by the template 'for every input the law returns true; each argument reads behind the call as it read before'; 0 by the template 'total and deterministic' (their statements: YtjbjkhbioigdaaaDoorTotals.lean).
  GIVEN WITH THE SEED: the statements are not yours to turn. If you find one false, say at which input.
  Laid BY PROGRAM, IN A SANDBOX (cutbox-rows.mjs): the forced cells as the released guide's own fill.sh prints them over the translation 579a87c07ed4d24c… (all of the seat's roots in one cut). By AI agents, Wed Nov 11 2026. No macro, syntax, notation, axiom, sorry.
-/
import Derived.Test.YtjbjkhbioigdaaaDoorChecked
import GoSem.Claim
import GoSem.ClaimJoined
import GoSem.ClaimMapViews
import Derived.JoinedTies
import Derived.KernelRfl
namespace Go.Proofs.YtjbjkhbioigdaaaDoor
/- THE CELL 'sum', in the pinned program and in every row, IS THE sha256 OF THE DUMP (.gsa) THAT YtjbjkhbioigdaaaDoorProg.lean LOADS. Nothing in Lean hashes anything: it is a label: what it is worth is what the hold of that sum in a sandbox is worth. -/
noncomputable def Tryd.pinned : Pinned := { name := "ytjbjkhbioigdaaadoor", sum := "579a87c07ed4d24c49ab945c7a88eed5bbe48db41d7d2d7dd4b2fc267d3f1917", checked := Tryd.checked }
namespace Rows
def none {H : Type} : Left H := { results := [], args := [] }

/- WHAT THE LISTED PACKAGE-LEVEL VARIABLES READ AS WHEN THE CALL BEGINS. Each datum BY PROGRAM (the guide's laid-datum.mjs) off the statement by which the dump's own 'gosem.cut.vars' lays the variable. In a bare row this is a premise. The card (YtjbjkhbioigdaaaDoorCards.lean) ties it to the program's text. -/
def laid_alfil_rays_steps {H : Type} : DataW H := .agg [.agg [.lit (.int .i64 0), .lit (.int .i64 1)], .agg [.lit (.int .i64 1), .lit (.int .i64 0)], .agg [.lit (.int .i64 0), .lit (.int .i64 (-1))], .agg [.lit (.int .i64 (-1)), .lit (.int .i64 0)], .agg [.lit (.int .i64 1), .lit (.int .i64 1)], .agg [.lit (.int .i64 1), .lit (.int .i64 (-1))], .agg [.lit (.int .i64 (-1)), .lit (.int .i64 (-1))], .agg [.lit (.int .i64 (-1)), .lit (.int .i64 1)], .agg [.lit (.int .i64 1), .lit (.int .i64 2)], .agg [.lit (.int .i64 2), .lit (.int .i64 1)], .agg [.lit (.int .i64 2), .lit (.int .i64 (-1))], .agg [.lit (.int .i64 1), .lit (.int .i64 (-2))], .agg [.lit (.int .i64 (-1)), .lit (.int .i64 (-2))], .agg [.lit (.int .i64 (-2)), .lit (.int .i64 (-1))], .agg [.lit (.int .i64 (-2)), .lit (.int .i64 1)], .agg [.lit (.int .i64 (-1)), .lit (.int .i64 2)]]

/-- 'alfillaw06.RaysOf': WHATEVER THE INPUT: true; the input reads as it did. -/
def raysOfSpec : ChangeSpec := { name := "raysOf", fn := fun _ => fun
  | [d1, d2] => { results := [.lit (.bool true)], args := [d1, d2] }
  | _ => none }
def raysOfRow : OpenClaim := { program := "ytjbjkhbioigdaaadoor", sum := "579a87c07ed4d24c49ab945c7a88eed5bbe48db41d7d2d7dd4b2fc267d3f1917", func := "alfil/alfillaw06.RaysOf", spec := "raysOf", named := ["alfil/rays.steps"], apart := false, laid := [("alfil/rays.steps", laid_alfil_rays_steps)] }
def RaysOfSaid : Prop := raysOfRow.holds Tryd.pinned (OpenSpec.ofChange raysOfSpec)

/-- ITS FALSE NEIGHBOUR: 'it returns false'. Refute it at one input. -/
def raysOfWrong : ChangeSpec := { name := "raysOf", fn := fun _ => fun
  | [d1, d2] => { results := [.lit (.bool false)], args := [d1, d2] }
  | _ => none }
def RaysOfWrongFalsely : Prop := raysOfRow.holds Tryd.pinned (OpenSpec.ofChange raysOfWrong)

/-- 'alfillaw06.RaysRay': WHATEVER THE INPUT: true; the input reads as it did. -/
def raysRaySpec : ChangeSpec := { name := "raysRay", fn := fun _ => fun
  | [d1, d2, d3] => { results := [.lit (.bool true)], args := [d1, d2, d3] }
  | _ => none }
def raysRayRow : OpenClaim := { program := "ytjbjkhbioigdaaadoor", sum := "579a87c07ed4d24c49ab945c7a88eed5bbe48db41d7d2d7dd4b2fc267d3f1917", func := "alfil/alfillaw06.RaysRay", spec := "raysRay", named := ["alfil/rays.steps"], apart := false, laid := [("alfil/rays.steps", laid_alfil_rays_steps)] }
def RaysRaySaid : Prop := raysRayRow.holds Tryd.pinned (OpenSpec.ofChange raysRaySpec)

/-- ITS FALSE NEIGHBOUR: 'it returns false'. Refute it at one input. -/
def raysRayWrong : ChangeSpec := { name := "raysRay", fn := fun _ => fun
  | [d1, d2, d3] => { results := [.lit (.bool false)], args := [d1, d2, d3] }
  | _ => none }
def RaysRayWrongFalsely : Prop := raysRayRow.holds Tryd.pinned (OpenSpec.ofChange raysRayWrong)

/-- 'alfillaw06.RaysBack': WHATEVER THE INPUT: true; the input reads as it did. -/
def raysBackSpec : ChangeSpec := { name := "raysBack", fn := fun _ => fun
  | [d1, d2] => { results := [.lit (.bool true)], args := [d1, d2] }
  | _ => none }
def raysBackRow : OpenClaim := { program := "ytjbjkhbioigdaaadoor", sum := "579a87c07ed4d24c49ab945c7a88eed5bbe48db41d7d2d7dd4b2fc267d3f1917", func := "alfil/alfillaw06.RaysBack", spec := "raysBack", named := ["alfil/rays.steps"], apart := false, laid := [("alfil/rays.steps", laid_alfil_rays_steps)] }
def RaysBackSaid : Prop := raysBackRow.holds Tryd.pinned (OpenSpec.ofChange raysBackSpec)

/-- ITS FALSE NEIGHBOUR: 'it returns false'. Refute it at one input. -/
def raysBackWrong : ChangeSpec := { name := "raysBack", fn := fun _ => fun
  | [d1, d2] => { results := [.lit (.bool false)], args := [d1, d2] }
  | _ => none }
def RaysBackWrongFalsely : Prop := raysBackRow.holds Tryd.pinned (OpenSpec.ofChange raysBackWrong)

/-- 'alfillaw06.RaysNil': WHATEVER THE INPUT: true; the input reads as it did. -/
def raysNilSpec : ChangeSpec := { name := "raysNil", fn := fun _ => fun
  | [d1, d2] => { results := [.lit (.bool true)], args := [d1, d2] }
  | _ => none }
def raysNilRow : OpenClaim := { program := "ytjbjkhbioigdaaadoor", sum := "579a87c07ed4d24c49ab945c7a88eed5bbe48db41d7d2d7dd4b2fc267d3f1917", func := "alfil/alfillaw06.RaysNil", spec := "raysNil", named := ["alfil/rays.steps"], apart := false, laid := [("alfil/rays.steps", laid_alfil_rays_steps)] }
def RaysNilSaid : Prop := raysNilRow.holds Tryd.pinned (OpenSpec.ofChange raysNilSpec)

/-- ITS FALSE NEIGHBOUR: 'it returns false'. Refute it at one input. -/
def raysNilWrong : ChangeSpec := { name := "raysNil", fn := fun _ => fun
  | [d1, d2] => { results := [.lit (.bool false)], args := [d1, d2] }
  | _ => none }
def RaysNilWrongFalsely : Prop := raysNilRow.holds Tryd.pinned (OpenSpec.ofChange raysNilWrong)

/- THE SECOND FORM. 'bulk': how many values and letters a reading holds, each counted each time it is reached (what is shared counts as often as it is met; a slice's spare places count too). A statement '..UptoSaid' is the law's where the arguments, and the package variables that the reading takes, are together of bulk at most 1048576: NARROWER than '..Said'. Prove '..Said' where nothing that the law and all that it calls make is longer than what came in: it says more and counts as full. Else prove '..UptoSaid'. A law counts once. -/
mutual
def uptoBulk {H : Type} : DataW H → Nat
  | .lit (.string bytes) => bytes.length + 1
  | .lit _ => 1
  | .nil => 1
  | .ptr d => uptoBulk d + 1
  | .slice elems spare => uptoBulkAll elems + uptoBulkAll spare + 1
  | .agg parts => uptoBulkAll parts + 1
  | .iface _ d => uptoBulk d + 1
  | .map entries => uptoBulkEntries entries + 1
  | .held _ => 1
def uptoBulkAll {H : Type} : List (DataW H) → Nat
  | [] => 0
  | d :: r => uptoBulk d + uptoBulkAll r
def uptoBulkEntries {H : Type} : List (Lit × DataW H) → Nat
  | [] => 0
  | x :: r => uptoBulkEntry x + uptoBulkEntries r
def uptoBulkEntry {H : Type} : Lit × DataW H → Nat
  | (.string bytes, d) => bytes.length + uptoBulk d + 1
  | (_, d) => uptoBulk d + 1
 end
def uptoSmall : (H : Type) → List (DataW H) → Bool := fun _ ds => decide (uptoBulkAll ds ≤ 1048576)
def OpenSpec.upto (s : _root_.Go.ChangeSpec) : _root_.Go.OpenSpec := { _root_.Go.OpenSpec.ofChange s with cond := some uptoSmall }

/-- 'alfillaw06.RaysOf', WHERE WHAT IT READS IS OF BULK AT MOST 1048576: true; the input reads as it did. -/
def raysOfUptoRow : OpenClaim := { program := "ytjbjkhbioigdaaadoor", sum := "579a87c07ed4d24c49ab945c7a88eed5bbe48db41d7d2d7dd4b2fc267d3f1917", func := "alfil/alfillaw06.RaysOf", spec := "raysOf", named := ["alfil/rays.steps"], apart := false, laid := [("alfil/rays.steps", laid_alfil_rays_steps)], narrowed := true }
def RaysOfUptoSaid : Prop := raysOfUptoRow.holds Tryd.pinned (OpenSpec.upto raysOfSpec)

/-- 'alfillaw06.RaysRay', WHERE WHAT IT READS IS OF BULK AT MOST 1048576: true; the input reads as it did. -/
def raysRayUptoRow : OpenClaim := { program := "ytjbjkhbioigdaaadoor", sum := "579a87c07ed4d24c49ab945c7a88eed5bbe48db41d7d2d7dd4b2fc267d3f1917", func := "alfil/alfillaw06.RaysRay", spec := "raysRay", named := ["alfil/rays.steps"], apart := false, laid := [("alfil/rays.steps", laid_alfil_rays_steps)], narrowed := true }
def RaysRayUptoSaid : Prop := raysRayUptoRow.holds Tryd.pinned (OpenSpec.upto raysRaySpec)

/-- 'alfillaw06.RaysBack', WHERE WHAT IT READS IS OF BULK AT MOST 1048576: true; the input reads as it did. -/
def raysBackUptoRow : OpenClaim := { program := "ytjbjkhbioigdaaadoor", sum := "579a87c07ed4d24c49ab945c7a88eed5bbe48db41d7d2d7dd4b2fc267d3f1917", func := "alfil/alfillaw06.RaysBack", spec := "raysBack", named := ["alfil/rays.steps"], apart := false, laid := [("alfil/rays.steps", laid_alfil_rays_steps)], narrowed := true }
def RaysBackUptoSaid : Prop := raysBackUptoRow.holds Tryd.pinned (OpenSpec.upto raysBackSpec)

/-- 'alfillaw06.RaysNil', WHERE WHAT IT READS IS OF BULK AT MOST 1048576: true; the input reads as it did. -/
def raysNilUptoRow : OpenClaim := { program := "ytjbjkhbioigdaaadoor", sum := "579a87c07ed4d24c49ab945c7a88eed5bbe48db41d7d2d7dd4b2fc267d3f1917", func := "alfil/alfillaw06.RaysNil", spec := "raysNil", named := ["alfil/rays.steps"], apart := false, laid := [("alfil/rays.steps", laid_alfil_rays_steps)], narrowed := true }
def RaysNilUptoSaid : Prop := raysNilUptoRow.holds Tryd.pinned (OpenSpec.upto raysNilSpec)

end Rows
end Go.Proofs.YtjbjkhbioigdaaaDoor
