/- MvD: my texts, in their order. -/
import Derived.Test.YtgcippicdhaaeaaGreatDoorPkI
namespace Go.Proofs.YtgcippicdhaaeaaGreatDoor
open Go.RowKit
set_option linter.unusedVariables false
set_option linter.unusedSimpArgs false
set_option maxRecDepth 100000

/-- Does the move take in passing? -/
def epTake (p : Ps) (m : Mv) : Bool := pawnB p m && (m.t == p.e) && (m.f % 8 != m.t % 8)
/-- The square of what a move takes; -1: nothing. -/
def takeI (p : Ps) (m : Mv) : Int := if bAt p.B m.t ≠ 0 then m.t else if epTake p m then passI p else -1
def takeB (p : Ps) (m : Mv) : Bool := decide (0 ≤ takeI p m)
end Go.Proofs.YtgcippicdhaaeaaGreatDoor
