/- MvH · GeM: my texts, in their order. -/
import Derived.Test.YtgcippicdhaaeaaGreatDoorPkXNFTA0
import Derived.Test.YtgcippicdhaaeaaGreatDoorPkXNFT0
import Derived.Test.YtgcippicdhaaeaaGreatDoorPkA
import Derived.Test.YtgcippicdhaaeaaGreatDoorPkB
import Derived.Test.YtgcippicdhaaeaaGreatDoorPkC
import Derived.Test.YtgcippicdhaaeaaGreatDoorPkD
import Derived.Test.YtgcippicdhaaeaaGreatDoorPkE
import Derived.Test.YtgcippicdhaaeaaGreatDoorPkF
import Derived.Test.YtgcippicdhaaeaaGreatDoorPkGa
import Derived.Test.YtgcippicdhaaeaaGreatDoorPkGb
import Derived.Test.YtgcippicdhaaeaaGreatDoorPkGc
import Derived.Test.YtgcippicdhaaeaaGreatDoorPkGd
import Derived.Test.YtgcippicdhaaeaaGreatDoorPkGe
import Derived.Test.YtgcippicdhaaeaaGreatDoorPkGf
import Derived.Test.YtgcippicdhaaeaaGreatDoorPkGg
import Derived.Test.YtgcippicdhaaeaaGreatDoorPkGw
import Derived.Test.YtgcippicdhaaeaaGreatDoorPkH
import Derived.Test.YtgcippicdhaaeaaGreatDoorPkI
import Derived.Test.YtgcippicdhaaeaaGreatDoorPkJ
import Derived.Test.YtgcippicdhaaeaaGreatDoorPkK
import Derived.Test.YtgcippicdhaaeaaGreatDoorPkL
import Derived.Test.YtgcippicdhaaeaaGreatDoorPkM
import Derived.Test.YtgcippicdhaaeaaGreatDoorPkU
namespace Go.Proofs.YtgcippicdhaaeaaGreatDoor
open Go.RowKit
set_option linter.unusedVariables false
set_option linter.unusedSimpArgs false
set_option maxRecDepth 100000

theorem wpList_eql_mv {ops : Array Oper} {rest : List Oper} {o : Oper} {a : Act} {w : World} {Q : Exit → Act → World → Prop} {b : Bool} (hw : Region.wanted o (yielded ops a.tmps) = true) (x y : Operand) (ty : TypeId) (ho : o.op = .binOp .eql 35 x y ty)
    (p q : Mv) (hx : a.eval x = .agg (ml p).toArray) (hy : a.eval y = .agg (ml q).toArray) (h : beqM p q = b)
    (hk : wpList Tryz.prog ops Q rest (a.put o.dst (.bool b)) w) : wpList Tryz.prog ops Q (o :: rest) a w :=
  wpList_step fun _ hK => by
    rw [if_pos hw]
    unfold Oper.wp execOp
    simp only [ho, hx, hy, Sem.run_bind, run_eqGuard_agg w _ _ _ _ _ _ eqGuardM, run_eql_mv, Result.andThen_ok, Sem.run_pure, h, Oper.upon_value]
    exact hK _ _ hk
end Go.Proofs.YtgcippicdhaaeaaGreatDoor
namespace Go.Proofs.YtgcippicdhaaeaaGreatDoor
open Go.RowKit
set_option linter.unusedVariables false
set_option linter.unusedSimpArgs false
set_option maxRecDepth 100000

def metP (L : List Mv) (m : Mv) (k : Nat) : Bool := (L.take k).any fun x => beqM x m
theorem metP_succ {L : List Mv} {m : Mv} {k : Nat} {x : Mv} (h : L[k]? = some x) : metP L m (k + 1) = (metP L m k || beqM x m) := by
  unfold metP; rw [take_at L k x h]; simp
theorem beqM_comm (a b : Mv) : beqM a b = beqM b a := by
  rw [Bool.eq_iff_iff, beqM_iff, beqM_iff]; exact eq_comm
theorem metP_end (L : List Mv) (m : Mv) : metP L m L.length = hasM L m := by
  unfold metP hasM; rw [List.take_length]; congr 1; funext x; exact beqM_comm x m
end Go.Proofs.YtgcippicdhaaeaaGreatDoor
