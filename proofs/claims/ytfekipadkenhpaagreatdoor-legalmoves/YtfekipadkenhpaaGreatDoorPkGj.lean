/- GeP: my texts, in their order. -/
import Derived.Test.YtfekipadkenhpaaGreatDoorPkGg
namespace Go.Proofs.YtfekipadkenhpaaGreatDoor
open Go.RowKit
set_option linter.unusedVariables false
set_option linter.unusedSimpArgs false
set_option maxRecDepth 100000
theorem RAt.beside {w w' : World} {g b' : Nat} {l : List Value} {T : TypeId} {vm : Value} {M : List Mv} (h : RAt w g l T) (hT : T ≠ 36) (hm : OwnM w b' vm M) (hg : w.grownBy w' vm.ownBlock) : RAt w' g l T := by
 refine ⟨(hg.block g (lt_of_heap h.at_) (fun e => ?_)).trans h.at_⟩
 rcases hm.2 with ⟨q, _⟩ | ⟨gm, cm, curm, q1, _, q3, _⟩
 ·rw [q] at e; cases e
 ·rw [q1] at e
  have : g = gm := by simpa [Value.ownBlock] using e
  have h2 := h.at_
  rw [this, q3] at h2
  simp at h2
  exact hT h2.2.symm
end Go.Proofs.YtfekipadkenhpaaGreatDoor
