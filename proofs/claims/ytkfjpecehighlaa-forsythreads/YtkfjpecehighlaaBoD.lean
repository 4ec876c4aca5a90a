/- The document's Where and Many; Same; King. -/
import Derived.Test.YtkfjpecehighlaaBoC
namespace Go.Proofs.Ytkfjpecehighlaa
open Go.RowKit
set_option linter.unusedVariables false

end Go.Proofs.Ytkfjpecehighlaa
