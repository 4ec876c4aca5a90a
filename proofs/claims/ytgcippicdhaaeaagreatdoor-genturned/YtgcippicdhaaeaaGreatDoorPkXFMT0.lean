/- GeA: my texts, in their order. -/
import Derived.Test.YtgcippicdhaaeaaGreatDoorPkA
import Derived.Test.YtgcippicdhaaeaaGreatDoorPkB
import Derived.Test.YtgcippicdhaaeaaGreatDoorPkC
import Derived.Test.YtgcippicdhaaeaaGreatDoorPkD
import Derived.Test.YtgcippicdhaaeaaGreatDoorPkE
import Derived.Test.YtgcippicdhaaeaaGreatDoorPkF
import Derived.Test.YtgcippicdhaaeaaGreatDoorPkGa
import Derived.Test.YtgcippicdhaaeaaGreatDoorPkH
import Derived.Test.YtgcippicdhaaeaaGreatDoorPkI
import Derived.Test.YtgcippicdhaaeaaGreatDoorPkJ
import Derived.Test.YtgcippicdhaaeaaGreatDoorPkK
import Derived.Test.YtgcippicdhaaeaaGreatDoorPkL
import Derived.Test.YtgcippicdhaaeaaGreatDoorPkM
namespace Go.Proofs.YtgcippicdhaaeaaGreatDoor
open Go.RowKit
set_option linter.unusedVariables false
set_option linter.unusedSimpArgs false
set_option maxRecDepth 100000

theorem mem_allN {p : Ps} (t01 : p.t = 0 ∨ p.t = 1) {m : Mv} : m ∈ allL p ↔ goesM p m = true := by
  unfold allL allN
  rw [List.mem_flatMap]
  constructor
  · rintro ⟨f, _, h⟩; exact (mem_fromN.1 h).2
  · intro b
    have ho := form_on t01 (goes_form b)
    obtain ⟨f, ef⟩ := Int.eq_ofNat_of_zero_le ho.f0
    exact ⟨f, by rw [List.mem_range]; have := ho.f1; omega, mem_fromN.2 ⟨ef, b⟩⟩
end Go.Proofs.YtgcippicdhaaeaaGreatDoor
