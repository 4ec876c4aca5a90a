/- The document's Where and Many; Same; King. -/
import Derived.Test.YtkebpchhpidogaaBoC
namespace Go.Proofs.Ytkebpchhpidogaa
set_option maxRecDepth 100000
open Go.RowKit
set_option linter.unusedVariables false

end Go.Proofs.Ytkebpchhpidogaa
