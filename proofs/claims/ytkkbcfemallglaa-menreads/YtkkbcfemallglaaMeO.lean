/- Contracts of men.Other and of wakes of the statements on men; the walk of MenMakes. -/
import Derived.Test.YtkkbcfemallglaaMeB
namespace Go.Proofs.Ytkkbcfemallglaa
open Go.RowKit
set_option linter.unusedVariables false

theorem other_w (w : World) : Calls Try.prog 12 #[.int .i64 0] w fun e w' => e = .returned (.int .i64 1) ∧ w = w' := by
  go_enter Try.func12, Try.ntmps12
  go_wp2
  go_ret
  exact ⟨rfl, rfl⟩
theorem other_b (w : World) : Calls Try.prog 12 #[.int .i64 1] w fun e w' => e = .returned (.int .i64 0) ∧ w = w' := by
  go_enter Try.func12, Try.ntmps12
  go_wp2
  go_ret
  exact ⟨rfl, rfl⟩
theorem other_no (s : Int) (w : World) (h0 : s ≠ 0) (h1 : s ≠ 1) : Calls Try.prog 12 #[.int .i64 s] w fun e w' => e = .returned (.int .i64 (-1)) ∧ w = w' := by
  have b0 : (s == 0) = false := beq_eq_false_iff_ne.2 h0
  have b1 : (s == 1) = false := beq_eq_false_iff_ne.2 h1
  clear h0 h1
  go_enter Try.func12, Try.ntmps12
  go_wp2
  go_ret
  exact ⟨rfl, rfl⟩
theorem letter_m2 (w : World) : Calls Try.prog 9 #[.int .i64 (-2)] w fun e w' => e = .returned (.string ⟨#[110]⟩) ∧ Grown w w' := letter_yes 10 (by omega) w
theorem sign_m2 (w : World) : Calls Try.prog 10 #[.int .i64 (-2)] w fun e w' => e = .returned (.string ⟨#[226, 153, 158]⟩) ∧ Grown w w' := sign_yes 10 (by omega) w
theorem mwakes (w : World) : Calls Try.prog 5 #[] w fun e w' => e = .returned (.bool true) ∧ Grown w w' := by
  go_enter Try.func5, Try.ntmps5
  go_wp2_with fail
  refine (letter_m2 _).mono ?_
  rintro e w1 ⟨rfl, gw1⟩
  go_wp2_with fail
  refine (sign_m2 _).mono ?_
  rintro e w2 ⟨rfl, gw2⟩
  go_wp2
  go_ret
  exact ⟨rfl, grown_trans gw1 gw2⟩
end Go.Proofs.Ytkkbcfemallglaa
