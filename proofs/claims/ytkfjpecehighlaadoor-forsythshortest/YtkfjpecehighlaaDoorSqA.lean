/- Contracts of the small functions of squares (Right, File, Rank, At and the document's own Right, File, Rank): each returns what it is said to, and the world stays as it was. -/
import Derived.Test.YtkfjpecehighlaaDoorBase
namespace Go.Proofs.YtkfjpecehighlaaDoor
open Go.RowKit
set_option linter.unusedVariables false

theorem right_yes (s : Int) (w : World) (h0 : 0 ≤ s) (h1 : s < 64) :
    Calls Tryd.prog 31 #[.int .i64 s] w fun e w' => e = .returned (.bool true) ∧ w = w' := by
  go_enter Tryd.func31, Tryd.ntmps31
  go_wp2
  go_ret
  exact ⟨rfl, rfl⟩
theorem right_no (s : Int) (w : World) (h : s < 0 ∨ 64 ≤ s) :
    Calls Tryd.prog 31 #[.int .i64 s] w fun e w' => e = .returned (.bool false) ∧ w = w' := by
  rcases h with h | h
  · go_enter Tryd.func31, Tryd.ntmps31
    go_wp2
    go_ret
    exact ⟨rfl, rfl⟩
  · have h0 : 0 ≤ s := by omega
    have hb : decide (s < 64) = false := by simp; omega
    go_enter Tryd.func31, Tryd.ntmps31
    go_wp2
    go_ret
    exact ⟨rfl, rfl⟩

theorem onEdge_yes (s : Int) (w : World) (h0 : 0 ≤ s) (h1 : s < 8) :
    Calls Tryd.prog 30 #[.int .i64 s] w fun e w' => e = .returned (.bool true) ∧ w = w' := by
  go_enter Tryd.func30, Tryd.ntmps30
  go_wp2
  go_ret
  exact ⟨rfl, rfl⟩
theorem onEdge_no (s : Int) (w : World) (h : s < 0 ∨ 8 ≤ s) :
    Calls Tryd.prog 30 #[.int .i64 s] w fun e w' => e = .returned (.bool false) ∧ w = w' := by
  rcases h with h | h
  · go_enter Tryd.func30, Tryd.ntmps30
    go_wp2
    go_ret
    exact ⟨rfl, rfl⟩
  · have h0 : 0 ≤ s := by omega
    have hb : decide (s < 8) = false := by simp; omega
    go_enter Tryd.func30, Tryd.ntmps30
    go_wp2
    go_ret
    exact ⟨rfl, rfl⟩
theorem at_yes (f r : Int) (w : World) (f0 : 0 ≤ f) (f1 : f < 8) (r0 : 0 ≤ r) (r1 : r < 8) :
    Calls Tryd.prog 18 #[.int .i64 f, .int .i64 r] w fun e w' => e = .returned (.tuple #[.int .i64 (r * 8 + f), .bool true]) ∧ w = w' := by
  go_enter Tryd.func18, Tryd.ntmps18
  go_wp2_with (go_at_call 30; refine (onEdge_yes _ _ (by omega) (by omega)).mono ?_; rintro e w' ⟨rfl, rfl⟩)
  go_ret2
  exact ⟨rfl, rfl⟩
theorem at_no (f r : Int) (w : World) (h : f < 0 ∨ 8 ≤ f ∨ r < 0 ∨ 8 ≤ r) :
    Calls Tryd.prog 18 #[.int .i64 f, .int .i64 r] w fun e w' => e = .returned (.tuple #[.int .i64 0, .bool false]) ∧ w = w' := by
  by_cases hf : f < 0 ∨ 8 ≤ f
  · go_enter Tryd.func18, Tryd.ntmps18
    go_wp2_with (go_at_call 30; refine (onEdge_no _ _ hf).mono ?_; rintro e w' ⟨rfl, rfl⟩)
    go_ret2
    exact ⟨rfl, rfl⟩
  · have f0 : 0 ≤ f := by omega
    have f1 : f < 8 := by omega
    have hr : r < 0 ∨ 8 ≤ r := by omega
    clear hf h
    go_enter Tryd.func18, Tryd.ntmps18
    go_wp2_with fail
    refine (onEdge_yes _ _ (by omega) (by omega)).mono ?_
    rintro e w' ⟨rfl, rfl⟩
    go_wp2_with fail
    refine (onEdge_no _ _ hr).mono ?_
    rintro e w' ⟨rfl, rfl⟩
    go_wp2
    go_ret2
    exact ⟨rfl, rfl⟩
end Go.Proofs.YtkfjpecehighlaaDoor
