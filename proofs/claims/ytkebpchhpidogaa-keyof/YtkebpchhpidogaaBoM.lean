/- Put; the walk of BoardPuts. -/
import Derived.Test.YtkebpchhpidogaaBoL
namespace Go.Proofs.Ytkebpchhpidogaa
open Go.RowKit
set_option linter.unusedVariables false
set_option linter.unusedSimpArgs false
set_option maxRecDepth 100000

theorem wpList_eql_w {ops : Array Oper} {rest : List Oper} {o : Oper} {a : Act} {w : World} {Q : Exit → Act → World → Prop} {b : Bool} (hw : Region.wanted o (yielded ops a.tmps) = true) (x y : Operand) (ty : TypeId) (ho : o.op = .binOp .eql 28 x y ty)
    (A B : List Int) (hx : a.eval x = .agg (cl A).toArray) (hy : a.eval y = .agg (cl B).toArray) (hb : A.length = 64 ∧ B.length = 64 ∧ beqB A B = b)
    (h : wpList Try.prog ops Q rest (a.put o.dst (.bool b)) w) : wpList Try.prog ops Q (o :: rest) a w :=
  wpList_step fun _ hK => by
    rw [if_pos hw]
    unfold Oper.wp execOp
    simp only [ho, hx, hy, Sem.run_bind, run_eqGuard_cl, run_eql_cl A B hb.1 hb.2.1, Result.andThen_ok, Sem.run_pure, hb.2.2, Oper.upon_value]
    exact hK _ _ h
/-- Two results, the first of them a board in its variable. -/
theorem results_board_tmp {fn : Func} {p t : Tmp} (h : fn.results = #[.cell p 28, .tmp t]) (tmps : Array Value) (w : World) (g : Nat) (B : List Int) (hB : B.length = 64)
    (hp : tmps.getD p undef = .pointer (some ⟨g, 0, none⟩)) (hg : w.heap[g]? = some (.cells (cl B).toArray 28 (0, 0))) :
    (results fn tmps).run Try.prog w = .ok (.tuple #[.agg (cl B).toArray, tmps.getD t undef]) w := by
  have hp' : tmps[p]?.getD undef = .pointer (some ⟨g, 0, none⟩) := by simpa using hp
  simp [results, h, hp', asAddr, run_load_cl hB hg]
end Go.Proofs.Ytkebpchhpidogaa
