/- MvC · MvM: my texts, in their order. -/
import Derived.Test.YtgcippicdhaaeaaGreatDoorPkA
import Derived.Test.YtgcippicdhaaeaaGreatDoorPkB
import Derived.Test.YtgcippicdhaaeaaGreatDoorPkC
import Derived.Test.YtgcippicdhaaeaaGreatDoorPkD
import Derived.Test.YtgcippicdhaaeaaGreatDoorPkE
import Derived.Test.YtgcippicdhaaeaaGreatDoorPkF
import Derived.Test.YtgcippicdhaaeaaGreatDoorPkH
import Derived.Test.YtgcippicdhaaeaaGreatDoorPkI
import Derived.Test.YtgcippicdhaaeaaGreatDoorPkJ
import Derived.Test.YtgcippicdhaaeaaGreatDoorPkK
import Derived.Test.YtgcippicdhaaeaaGreatDoorPkL
namespace Go.Proofs.YtgcippicdhaaeaaGreatDoor
open Go.RowKit
set_option linter.unusedVariables false
set_option linter.unusedSimpArgs false
set_option maxRecDepth 100000

theorem castN_le (p : Ps) (m : Mv) : castN p m ≤ 4 := by
  unfold castN
  split
  · omega
  · split
    · omega
    · split
      · omega
      · split <;> omega
end Go.Proofs.YtgcippicdhaaeaaGreatDoor
namespace Go.Proofs.YtgcippicdhaaeaaGreatDoor
open Go.RowKit
set_option linter.unusedVariables false
set_option linter.unusedSimpArgs false
set_option maxRecDepth 100000

theorem free_iff (B : List Int) (k : Nat) : freeB B k = true ↔ ∀ s, s < 64 → wLo k ≤ s → s < wHi k → B.getD s 0 = 0 := by
  constructor
  · intro h s hs h1 h2
    by_cases hz : B.getD s 0 = 0
    · exact hz
    · rw [free_no hs h1 h2 hz] at h; cases h
  · intro h
    refine free_yes fun s h1 h2 => h s ?_ h1 h2
    have : wHi k ≤ 64 := by unfold wHi; rcases k with _ | _ | _ | _ | k <;> simp
    omega
end Go.Proofs.YtgcippicdhaaeaaGreatDoor
