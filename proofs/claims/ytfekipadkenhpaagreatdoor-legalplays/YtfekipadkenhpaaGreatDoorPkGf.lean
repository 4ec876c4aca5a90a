/- GeJ: my texts, in their order. -/
import Derived.Test.YtfekipadkenhpaaGreatDoorPkE
import Derived.Test.YtfekipadkenhpaaGreatDoorPkGa
import Derived.Test.YtfekipadkenhpaaGreatDoorPkH
import Derived.Test.YtfekipadkenhpaaGreatDoorPkL
namespace Go.Proofs.YtfekipadkenhpaaGreatDoor
open Go.RowKit
set_option linter.unusedVariables false
set_option linter.unusedSimpArgs false
set_option maxRecDepth 100000
/-- A pawn's move that is formed. -/
structure Pf (p : Ps) (m : Mv) (f t : Nat) : Prop where
 hf : m.f = f
 ht : m.t = t
 pw : Pw p f
 t1 : t < 64
theorem Pf.on {p : Ps} {m : Mv} {f t : Nat} (h : Pf p m f t) : On m := by
 have := h.pw.s1; have := h.t1; have := h.hf; have := h.ht
 exact ⟨by omega, by omega, by omega, by omega⟩
end Go.Proofs.YtfekipadkenhpaaGreatDoor
