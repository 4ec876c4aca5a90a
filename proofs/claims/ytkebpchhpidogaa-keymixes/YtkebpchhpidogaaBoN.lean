/- The walk of BoardPuts. -/
import Derived.Test.YtkebpchhpidogaaBoM
namespace Go.Proofs.Ytkebpchhpidogaa
open Go.RowKit
set_option linter.unusedVariables false
set_option linter.unusedSimpArgs false
set_option maxRecDepth 100000

theorem two_size (w : World) (o : Obj) : (w.alloc o).heap.size = w.heap.size + 1 := by simp
theorem Zb_len : Zb.length = 64 := Zb_brd.1
/-- A whole board into the variable that was laid last. -/
theorem wpList_store_new {ops : Array Oper} {rest : List Oper} {o : Oper} {a : Act} {w : World} {Q : Exit → Act → World → Prop} (hgd : o.guard = none) (x y : Operand) (ho : o.op = .store 28 x y)
    (A B : List Int) (hA : A.length = 64) (hB : B.length = 64) (hx : a.eval x = .pointer (some ⟨w.heap.size, 0, none⟩)) (hy : a.eval y = .agg (cl B).toArray)
    (h : wpList Try.prog ops Q rest (a.put o.dst undef) (w.alloc (.cells (cl B).toArray 28))) : wpList Try.prog ops Q (o :: rest) a (w.alloc (.cells (cl A).toArray 28)) := by
  refine wpList_store_row hgd 28 x y ho w.heap.size (cl B).toArray hx hy 28 _ (heap_alloc_new w _) (size_cl hB) (by rw [cl_size _ hA, cl_size _ hB]) (cl_one _) ?_
  rw [World.setRow_alloc_new]
  exact h
end Go.Proofs.Ytkebpchhpidogaa
