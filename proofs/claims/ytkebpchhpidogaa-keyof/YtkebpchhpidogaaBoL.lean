/- The examples; the walk of BoardWrong. -/
import Derived.Test.YtkebpchhpidogaaBoK
namespace Go.Proofs.Ytkebpchhpidogaa
open Go.RowKit
set_option linter.unusedVariables false
set_option linter.unusedSimpArgs false
set_option maxRecDepth 100000

theorem king_first : headI (whereL Fb (-6)) = 60 := by decide +kernel
theorem wrong_zero : wrongI Zb = 6 := by decide +kernel
/-- The empty board by a literal, guarded or not. -/
theorem wpList_zero_w {ops : Array Oper} {rest : List Oper} {o : Oper} {a : Act} {w : World} {Q : Exit → Act → World → Prop} (hw : Region.wanted o (yielded ops a.tmps) = true) (ho : o.op = .build 28 #[])
    (h : wpList Try.prog ops Q rest (a.put o.dst (.agg (cl Zb).toArray)) w) : wpList Try.prog ops Q (o :: rest) a w :=
  wpList_step fun _ hK => by
    rw [if_pos hw]
    have hf : Try.prog.built 28 ((#[] : Array (Nat × Operand)).map fun (i, x) => (i, a.eval x)).toList = some (cl Zb).toArray := by kernel_rfl
    exact wp_build _ _ ho (by rw [hf]; rfl) (by rw [hf]; exact hK _ _ h)
end Go.Proofs.Ytkebpchhpidogaa
