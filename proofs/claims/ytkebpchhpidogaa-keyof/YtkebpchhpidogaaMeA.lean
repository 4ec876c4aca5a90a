/- Contracts of the small functions of men: Right, Kind, Side, Make, Other, inOrder, and the document's Kind. -/
import Derived.Test.YtkebpchhpidogaaBase
namespace Go.Proofs.Ytkebpchhpidogaa
open Go.RowKit
set_option linter.unusedVariables false

/-- The nth man in the order of the signs. -/
def inOrd (n : Nat) : Int := if n < 6 then 6 - (n : Int) else (n : Int) - 12
end Go.Proofs.Ytkebpchhpidogaa
