/- Contracts of men.Other. -/
import Derived.Test.YtnlgjakohoimhaaDoorMeA
namespace Go.Proofs.YtnlgjakohoimhaaDoor
open Go.RowKit
set_option linter.unusedVariables false

theorem other_w (w : World) : Calls Tryd.prog 34 #[.int .i64 0] w fun e w' => e = .returned (.int .i64 1) ∧ w = w' := by
  go_enter Tryd.func34, Tryd.ntmps34
  go_wp2
  go_ret
  exact ⟨rfl, rfl⟩
theorem other_b (w : World) : Calls Tryd.prog 34 #[.int .i64 1] w fun e w' => e = .returned (.int .i64 0) ∧ w = w' := by
  go_enter Tryd.func34, Tryd.ntmps34
  go_wp2
  go_ret
  exact ⟨rfl, rfl⟩
theorem other_no (s : Int) (w : World) (h0 : s ≠ 0) (h1 : s ≠ 1) : Calls Tryd.prog 34 #[.int .i64 s] w fun e w' => e = .returned (.int .i64 (-1)) ∧ w = w' := by
  have b0 : (s == 0) = false := beq_eq_false_iff_ne.2 h0
  have b1 : (s == 1) = false := beq_eq_false_iff_ne.2 h1
  clear h0 h1
  go_enter Tryd.func34, Tryd.ntmps34
  go_wp2
  go_ret
  exact ⟨rfl, rfl⟩
end Go.Proofs.YtnlgjakohoimhaaDoor
