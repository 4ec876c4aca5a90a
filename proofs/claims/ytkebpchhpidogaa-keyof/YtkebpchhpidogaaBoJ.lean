/- Wrong: the board's and the document's; the examples; the walk of BoardWrong. -/
import Derived.Test.YtkebpchhpidogaaBoI
namespace Go.Proofs.Ytkebpchhpidogaa
open Go.RowKit
set_option linter.unusedVariables false
set_option linter.unusedSimpArgs false
set_option maxRecDepth 100000

def manyI (B : List Int) (kind side : Int) : Int := (many B kind side : Nat)
theorem manyI_bd (B : List Int) (kind side : Int) : 0 ≤ manyI B kind side ∧ manyI B kind side ≤ 64 := by
  unfold manyI
  have := cnt_le (fun i => hit kind side (B.getD i 0)) 64
  have : many B kind side ≤ 64 := this
  omega
/-- What a board lacks. -/
def wrongI (B : List Int) : Int :=
  if rightB B = false then 5 else if manyI B 6 0 ≠ 1 ∨ manyI B 6 1 ≠ 1 then 6 else if edgeB B = true then 7 else if 16 < manyI B 0 0 ∨ 16 < manyI B 0 1 then 8 else 0
end Go.Proofs.Ytkebpchhpidogaa
