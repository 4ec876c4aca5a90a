/- Contract of wakes of the statements on men. -/
import Derived.Test.YtkkbcfemallglaaDoorMeB
namespace Go.Proofs.YtkkbcfemallglaaDoor
open Go.RowKit
set_option linter.unusedVariables false

theorem letter_m2 (w : World) : Calls Tryd.prog 10 #[.int .i64 (-2)] w fun e w' => e = .returned (.string ⟨#[110]⟩) ∧ Grown w w' := letter_yes 10 (by omega) w
theorem sign_m2 (w : World) : Calls Tryd.prog 12 #[.int .i64 (-2)] w fun e w' => e = .returned (.string ⟨#[226, 153, 158]⟩) ∧ Grown w w' := sign_yes 10 (by omega) w
theorem mwakes (w : World) : Calls Tryd.prog 4 #[] w fun e w' => e = .returned (.bool true) ∧ Grown w w' := by
  go_enter Tryd.func4, Tryd.ntmps4
  go_wp2_with fail
  refine (letter_m2 _).mono ?_
  rintro e w1 ⟨rfl, gw1⟩
  go_wp2_with fail
  refine (sign_m2 _).mono ?_
  rintro e w2 ⟨rfl, gw2⟩
  go_wp2
  go_ret
  exact ⟨rfl, grown_trans gw1 gw2⟩
end Go.Proofs.YtkkbcfemallglaaDoor
