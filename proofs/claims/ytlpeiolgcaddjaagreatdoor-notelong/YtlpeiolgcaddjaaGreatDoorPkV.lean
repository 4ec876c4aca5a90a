/- FoX: my texts, in their order. -/
import Derived.Test.YtlpeiolgcaddjaaGreatDoorPkA
import Derived.Test.YtlpeiolgcaddjaaGreatDoorPkGa
import Derived.Test.YtlpeiolgcaddjaaGreatDoorPkM
import Derived.Lib.Join
import Derived.OwnWalk
namespace Go.Proofs.YtlpeiolgcaddjaaGreatDoor
open Go.RowKit
set_option linter.unusedVariables false
set_option linter.unusedSimpArgs false
def tl (l:List ByteArray):List Value:=l.map Value.string
theorem Below.toKept {w w':World} (h:Below w.heap.size w w'):Kept w w':=⟨h.os,h.output,h.size,h.block⟩
end Go.Proofs.YtlpeiolgcaddjaaGreatDoor
