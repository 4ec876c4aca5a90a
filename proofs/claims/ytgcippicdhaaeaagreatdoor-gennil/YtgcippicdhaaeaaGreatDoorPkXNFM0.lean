/- MvA: my texts, in their order. -/
import Derived.Test.YtgcippicdhaaeaaGreatDoorPkA
import Derived.Test.YtgcippicdhaaeaaGreatDoorPkB
import Derived.Test.YtgcippicdhaaeaaGreatDoorPkC
import Derived.Test.YtgcippicdhaaeaaGreatDoorPkD
import Derived.Test.YtgcippicdhaaeaaGreatDoorPkI
namespace Go.Proofs.YtgcippicdhaaeaaGreatDoor
open Go.RowKit
set_option linter.unusedVariables false
set_option linter.unusedSimpArgs false
set_option maxRecDepth 100000

theorem take_load_mv {ops : Array Oper} {S : World → Prop} {op : Oper} {a : Act} (hw : Region.wanted op (yielded ops a.tmps) = true) (x : Operand) (ho : op.op = .load 35 x)
    (g : Nat) (hx : a.eval x = .pointer (some ⟨g, 0, none⟩)) (m : Mv) (hS : ∀ w, S w → MAt w g m) : YieldsIf Tryz.prog ops S op (.agg (ml m).toArray) a :=
  yieldsIf_load_mid hw 35 x ho g 0 hx (ml m) _ (fun w h => RAt.range (hS w h)) Tryz.underlying35 rfl sizeM
end Go.Proofs.YtgcippicdhaaeaaGreatDoor
