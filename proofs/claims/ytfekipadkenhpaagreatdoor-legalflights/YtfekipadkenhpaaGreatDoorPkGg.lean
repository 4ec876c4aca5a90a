/- GeL: my texts, in their order. -/
import Derived.Test.YtfekipadkenhpaaGreatDoorPkGa
import Derived.Test.YtfekipadkenhpaaGreatDoorPkGe
import Derived.Test.YtfekipadkenhpaaGreatDoorPkGf
import Derived.Test.YtfekipadkenhpaaGreatDoorPkH
namespace Go.Proofs.YtfekipadkenhpaaGreatDoor
open Go.RowKit
set_option linter.unusedVariables false
set_option linter.unusedSimpArgs false
set_option maxRecDepth 100000
theorem Fm.pb {p : Ps} {m : Mv} {f t : Nat} (h : Fm p m f t) : pawnB p m = (kindI (p.B.getD f 0) == 1) := by unfold pawnB bAt; rw [h.hf, Int.toNat_natCast]
end Go.Proofs.YtfekipadkenhpaaGreatDoor
