/- The walk of BoardTurns. -/
import Derived.Test.YtkebpchhpidogaaBoQ
namespace Go.Proofs.Ytkebpchhpidogaa
open Go.RowKit
set_option linter.unusedVariables false
set_option linter.unusedSimpArgs false
set_option maxRecDepth 100000

end Go.Proofs.Ytkebpchhpidogaa
