/- LeW: my texts, in their order. -/
import Derived.Test.YtfekipadkenhpaaGreatDoorPkLa
namespace Go.Proofs.YtfekipadkenhpaaGreatDoor
open Go.RowKit
set_option maxRecDepth 100000
theorem leg_first : (legL Fp).length = 20 ∧ checkB Fp.B Fp.t = false := by decide +kernel
end Go.Proofs.YtfekipadkenhpaaGreatDoor
