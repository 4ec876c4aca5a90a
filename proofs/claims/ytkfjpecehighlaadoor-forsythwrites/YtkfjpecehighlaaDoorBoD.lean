/- The document's Where and Many; Same; King. -/
import Derived.Test.YtkfjpecehighlaaDoorBoC
namespace Go.Proofs.YtkfjpecehighlaaDoor
open Go.RowKit
set_option linter.unusedVariables false

end Go.Proofs.YtkfjpecehighlaaDoor
