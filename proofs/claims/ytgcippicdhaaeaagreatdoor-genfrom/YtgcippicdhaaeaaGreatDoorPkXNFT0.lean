/- MvH · GeI: my texts, in their order. -/
import Derived.Test.YtgcippicdhaaeaaGreatDoorPkXNFTA0
import Derived.Test.YtgcippicdhaaeaaGreatDoorPkA
import Derived.Test.YtgcippicdhaaeaaGreatDoorPkB
import Derived.Test.YtgcippicdhaaeaaGreatDoorPkC
import Derived.Test.YtgcippicdhaaeaaGreatDoorPkD
import Derived.Test.YtgcippicdhaaeaaGreatDoorPkE
import Derived.Test.YtgcippicdhaaeaaGreatDoorPkF
import Derived.Test.YtgcippicdhaaeaaGreatDoorPkGa
import Derived.Test.YtgcippicdhaaeaaGreatDoorPkGb
import Derived.Test.YtgcippicdhaaeaaGreatDoorPkGc
import Derived.Test.YtgcippicdhaaeaaGreatDoorPkGd
import Derived.Test.YtgcippicdhaaeaaGreatDoorPkGe
import Derived.Test.YtgcippicdhaaeaaGreatDoorPkGw
import Derived.Test.YtgcippicdhaaeaaGreatDoorPkH
import Derived.Test.YtgcippicdhaaeaaGreatDoorPkI
import Derived.Test.YtgcippicdhaaeaaGreatDoorPkJ
import Derived.Test.YtgcippicdhaaeaaGreatDoorPkK
import Derived.Test.YtgcippicdhaaeaaGreatDoorPkL
import Derived.Test.YtgcippicdhaaeaaGreatDoorPkM
import Derived.Test.YtgcippicdhaaeaaGreatDoorPkU
namespace Go.Proofs.YtgcippicdhaaeaaGreatDoor
open Go.RowKit
set_option linter.unusedVariables false
set_option linter.unusedSimpArgs false
set_option maxRecDepth 100000

theorem run_eql_mv (a b : Mv) (w : World) : (binOp .eql 35 (.agg (ml a).toArray) (.agg (ml b).toArray)).run Tryz.prog w = .ok (.bool (beqM a b)) w := by
  simp only [binOp, Sem.run_bind, Op.equal, Op.maxDepth, run_equal_mv, Result.andThen_ok, Sem.run_pure]
end Go.Proofs.YtgcippicdhaaeaaGreatDoor
namespace Go.Proofs.YtgcippicdhaaeaaGreatDoor
open Go.RowKit
set_option linter.unusedVariables false
set_option linter.unusedSimpArgs false
set_option maxRecDepth 100000

/-- Is it among them? -/
def hasM (L : List Mv) (m : Mv) : Bool := L.any fun x => beqM m x
theorem hasM_iff {L : List Mv} {m : Mv} : hasM L m = true ↔ m ∈ L := by
  unfold hasM
  rw [List.any_eq_true]
  constructor
  · rintro ⟨x, hx, h⟩; rw [(beqM_iff m x).1 h]; exact hx
  · intro h; exact ⟨m, h, beqM_refl m⟩
end Go.Proofs.YtgcippicdhaaeaaGreatDoor
