/- Turned: the board's and the document's. -/
import Derived.Test.YtkebpchhpidogaaBoP
namespace Go.Proofs.Ytkebpchhpidogaa
open Go.RowKit
set_option linter.unusedVariables false
set_option linter.unusedSimpArgs false
set_option maxRecDepth 100000

theorem heap3 (w : World) (A B C : Obj) : (((w.alloc A).alloc B).alloc C).heap[w.heap.size]? = some A ∧ (((w.alloc A).alloc B).alloc C).heap[w.heap.size + 1]? = some B ∧ (((w.alloc A).alloc B).alloc C).heap[w.heap.size + 2]? = some C := by
  have e1 : (w.alloc A).heap.size = w.heap.size + 1 := by simp
  have e2 : ((w.alloc A).alloc B).heap.size = w.heap.size + 2 := by simp
  refine ⟨?_, ?_, ?_⟩
  · rw [Below.heap_alloc _ C _ (by omega)]; exact heap_alloc2_old w A B
  · rw [Below.heap_alloc _ C _ (by omega)]; exact heap_alloc2_new w A B
  · rw [← e2]; exact heap_alloc_new _ C
end Go.Proofs.Ytkebpchhpidogaa
