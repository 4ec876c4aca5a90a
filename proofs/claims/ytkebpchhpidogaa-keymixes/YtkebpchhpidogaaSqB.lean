/- Contracts of At's and Step's opposites in the document's own answer (Find, Step), of Step, Far and the document's Far. -/
import Derived.Test.YtkebpchhpidogaaSqA
import Derived.IntWalk
namespace Go.Proofs.Ytkebpchhpidogaa
open Go.RowKit
set_option linter.unusedVariables false

theorem wrap_off (x : Int) (h0 : -9223372036854775808 ≤ x) (h1 : x < 9223372036854775808 + 8) (h : x < 0 ∨ 8 ≤ x) : wrap64 x < 0 ∨ 8 ≤ wrap64 x := by
  unfold wrap64; omega
theorem off_wrapped (s f r : Int) (h0 : 0 ≤ s) (h1 : s < 64) (wf : (Lit.int .i64 f).wf = true) (wr : (Lit.int .i64 r).wf = true) (h : s % 8 + f < 0 ∨ 8 ≤ s % 8 + f ∨ s / 8 + r < 0 ∨ 8 ≤ s / 8 + r) :
    wrap64 (s % 8 + f) < 0 ∨ 8 ≤ wrap64 (s % 8 + f) ∨ wrap64 (s / 8 + r) < 0 ∨ 8 ≤ wrap64 (s / 8 + r) := by
  have bf := bounds_i64 wf
  have br := bounds_i64 wr
  by_cases hx : s % 8 + f < 0 ∨ 8 ≤ s % 8 + f
  · rcases wrap_off _ (by omega) (by omega) hx with g | g
    · exact .inl g
    · exact .inr (.inl g)
  · rcases wrap_off (s / 8 + r) (by omega) (by omega) (by omega) with g | g
    · exact .inr (.inr (.inl g))
    · exact .inr (.inr (.inr g))
/-- The distance, as a number. -/
def farI (a b : Int) : Int := max (max (a % 8 - b % 8) (b % 8 - a % 8)) (max (a / 8 - b / 8) (b / 8 - a / 8))
end Go.Proofs.Ytkebpchhpidogaa
