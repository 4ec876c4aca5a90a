/- PoA: my texts, in their order. -/
import Derived.Test.YtfekipadkenhpaaGreatDoorPkA
import Derived.Test.YtfekipadkenhpaaGreatDoorPkD
import Derived.Laws.StructEq
namespace Go.Proofs.YtfekipadkenhpaaGreatDoor
open Go.RowKit
set_option linter.unusedVariables false
set_option linter.unusedSimpArgs false
theorem built_pos0 : Tryz.prog.built 26 [] = some (pl Zp).toArray := by rw [built_fill]; rfl
/-- Nothing, built; guarded or not. -/
theorem wpList_built_p0 {ops : Array Oper} {rest : List Oper} {o : Oper} {a : Act} {w : World} {Q : Exit → Act → World → Prop} (hw : Region.wanted o (yielded ops a.tmps) = true) (ho : o.op = .build 26 #[])
  (h : wpList Tryz.prog ops Q rest (a.put o.dst (.agg (pl Zp).toArray)) w) : wpList Tryz.prog ops Q (o :: rest) a w :=
 wpList_step fun _ hK => by
  rw [if_pos hw]
  have hf : Tryz.prog.built 26 ((#[] : Array (Nat × Operand)).map fun (i, x) => (i, a.eval x)).toList = some (pl Zp).toArray := by
   have : ((#[] : Array (Nat × Operand)).map fun (i, x) => (i, a.eval x)).toList = [] := by simp
   rw [this]; exact built_pos0
  exact wp_build _ _ ho (by rw [hf]; rfl) (by rw [hf]; exact hK _ _ h)
end Go.Proofs.YtfekipadkenhpaaGreatDoor
