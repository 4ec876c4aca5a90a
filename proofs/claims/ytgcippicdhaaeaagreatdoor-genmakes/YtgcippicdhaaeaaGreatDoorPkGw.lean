/- GeW: my texts, in their order. -/
import Derived.Test.YtgcippicdhaaeaaGreatDoorPkGa
namespace Go.Proofs.YtgcippicdhaaeaaGreatDoor
open Go.RowKit
set_option maxRecDepth 100000

theorem all_first : (allL Fp).length = 20 ∧ ((allL Fp).map fun m => (m.f, m.t, m.p)).head? = some (1, 16, 0) := by decide +kernel
end Go.Proofs.YtgcippicdhaaeaaGreatDoor
