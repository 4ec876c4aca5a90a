/- PoK · MvD · MvF: my texts, in their order. -/
import Derived.Test.YtgcippicdhaaeaaGreatDoorPkA
import Derived.Test.YtgcippicdhaaeaaGreatDoorPkB
import Derived.Test.YtgcippicdhaaeaaGreatDoorPkC
import Derived.Test.YtgcippicdhaaeaaGreatDoorPkD
import Derived.Test.YtgcippicdhaaeaaGreatDoorPkE
import Derived.Test.YtgcippicdhaaeaaGreatDoorPkF
import Derived.Test.YtgcippicdhaaeaaGreatDoorPkH
import Derived.Test.YtgcippicdhaaeaaGreatDoorPkI
import Derived.Test.YtgcippicdhaaeaaGreatDoorPkJ
import Derived.Test.YtgcippicdhaaeaaGreatDoorPkK
import Derived.Test.YtgcippicdhaaeaaGreatDoorPkL
import Derived.Deep.Cut
namespace Go.Proofs.YtgcippicdhaaeaaGreatDoor
open Go.RowKit
set_option linter.unusedVariables false
set_option maxRecDepth 100000
set_option linter.unusedSimpArgs false

theorem take_build_p4 {ops : Array Oper} {S : World → Prop} {op : Oper} {a : Act} (hw : Region.wanted op (yielded ops a.tmps) = true) (x0 x1 x2 x3 : Operand) (ho : op.op = .build 26 #[(0, x0), (1, x1), (2, x2), (3, x3)])
    (B : List Int) (t c e : Int) (hB : B.length = 64) (h0 : a.eval x0 = .agg (cl B).toArray) (h1 : a.eval x1 = .int .i64 t) (h2 : a.eval x2 = .int .i64 c) (h3 : a.eval x3 = .int .i64 e) : YieldsIf Tryz.prog ops S op (.agg (pl ⟨B, t, c, e⟩).toArray) a :=
  .inl ⟨hw, fun w _ => by
    have hp : ((#[(0, x0), (1, x1), (2, x2), (3, x3)] : Array (Nat × Operand)).map fun (i, x) => (i, a.eval x)).toList = [(0, .agg (cl B).toArray), (1, .int .i64 t), (2, .int .i64 c), (3, .int .i64 e)] := by simp [h0, h1, h2, h3]
    have hf := built_pos4 B hB t c e
    have hr : (Instr.build 26 ((#[(0, x0), (1, x1), (2, x2), (3, x3)] : Array (Nat × Operand)).map fun (i, x) => (i, a.eval x))).run Tryz.prog w = .ok (.agg (pl ⟨B, t, c, e⟩).toArray) w := by
      exact run_build w 26 _ _ (by rw [hp]; exact hf)
    unfold execOp
    simp only [ho, Sem.run_bind, hr, Result.andThen_ok, Sem.run_pure]⟩
end Go.Proofs.YtgcippicdhaaeaaGreatDoor
namespace Go.Proofs.YtgcippicdhaaeaaGreatDoor
open Go.RowKit
set_option linter.unusedVariables false
set_option linter.unusedSimpArgs false
set_option maxRecDepth 100000

def takeS (p : Ps) (m : Mv) : Int := if 0 ≤ takeI p m then takeI p m else 0
end Go.Proofs.YtgcippicdhaaeaaGreatDoor
namespace Go.Proofs.YtgcippicdhaaeaaGreatDoor
open Go.RowKit
set_option linter.unusedVariables false
set_option linter.unusedSimpArgs false
set_option maxRecDepth 100000

theorem pass_lt {p : Ps} : passI p < 64 := by
  unfold passI
  split
  · omega
  · split <;> omega
theorem take_lt {p : Ps} {m : Mv} (ho : On m) : 0 ≤ takeS p m ∧ takeS p m < 64 := by
  have := ho.t1
  have := ho.t0
  have := @pass_lt p
  have h : takeI p m < 64 := by
    unfold takeI
    split
    · omega
    · split <;> omega
  unfold takeS
  split <;> omega
end Go.Proofs.YtgcippicdhaaeaaGreatDoor
