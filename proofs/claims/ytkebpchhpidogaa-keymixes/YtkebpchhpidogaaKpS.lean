/- A store into a list of cells, as a list. -/
import Derived.Test.YtkebpchhpidogaaKp
namespace Go.Proofs.Ytkebpchhpidogaa
theorem sA (l : List Value) (i : Nat) (v : Value) : l.toArray.setIfInBounds i v = (l.set i v).toArray := by simp
end Go.Proofs.Ytkebpchhpidogaa
