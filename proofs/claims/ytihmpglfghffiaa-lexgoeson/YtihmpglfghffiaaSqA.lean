/- Contracts of the small functions of squares (Right, File, Rank, At and the document's own Right, File, Rank): each returns what it is said to, and the world stays as it was. -/
import Derived.Test.YtihmpglfghffiaaBase
namespace Go.Proofs.Ytihmpglfghffiaa
open Go.RowKit
set_option linter.unusedVariables false

theorem rright_yes (s : Int) (w : World) (h0 : 0 ≤ s) (h1 : s < 64) :
    Calls Try.prog 39 #[.int .i64 s] w fun e w' => e = .returned (.bool true) ∧ w = w' := by
  have h2 : s ≤ 63 := by omega
  go_enter Try.func39, Try.ntmps39
  go_wp2
  go_ret
  exact ⟨rfl, rfl⟩
theorem rright_no (s : Int) (w : World) (h : s < 0 ∨ 64 ≤ s) :
    Calls Try.prog 39 #[.int .i64 s] w fun e w' => e = .returned (.bool false) ∧ w = w' := by
  rcases h with h | h
  · go_enter Try.func39, Try.ntmps39
    go_wp2
    go_ret
    exact ⟨rfl, rfl⟩
  · have h0 : 0 ≤ s := by omega
    have hb : decide (s ≤ 63) = false := by simp; omega
    go_enter Try.func39, Try.ntmps39
    go_wp2
    go_ret
    exact ⟨rfl, rfl⟩

theorem rfile_yes (s : Int) (w : World) (h0 : 0 ≤ s) (h1 : s < 64) :
    Calls Try.prog 40 #[.int .i64 s] w fun e w' => e = .returned (.int .i64 (s % 8)) ∧ w = w' := by
  go_enter Try.func40, Try.ntmps40
  go_wp2_with (go_at_call 39; refine (rright_yes _ _ (by omega) (by omega)).mono ?_; rintro e w' ⟨rfl, rfl⟩)
  go_loop [0] (fun t => ∃ y : Int, 0 ≤ y ∧ y < 64 ∧ y % 8 = s % 8 ∧ t = .int .i64 y) (fun t => (intOf t).toNat)
  case atStart => exact ⟨s, h0, h1, rfl, rfl⟩
  case round =>
    obtain ⟨y, hy0, hy1, hy2, rfl⟩ := hrel
    have H := Lib.hid hy2
    clear hy2
    by_cases hlt : 8 ≤ y
    · go_wp2
      go_round
      case rel => exact ⟨y - 8, by omega, by omega, by have := H.out; omega, rfl⟩
      case measure => simp [intOf]; omega
    · go_wp2
      go_ret
      exact ⟨ret_int (by have := H.out; omega), rfl⟩
theorem rfile_no (s : Int) (w : World) (h : s < 0 ∨ 64 ≤ s) :
    Calls Try.prog 40 #[.int .i64 s] w fun e w' => e = .returned (.int .i64 (-1)) ∧ w = w' := by
  go_enter Try.func40, Try.ntmps40
  go_wp2_with (go_at_call 39; refine (rright_no _ _ h).mono ?_; rintro e w' ⟨rfl, rfl⟩)
  go_ret
  exact ⟨rfl, rfl⟩
theorem rrank_yes (s : Int) (w : World) (h0 : 0 ≤ s) (h1 : s < 64) :
    Calls Try.prog 41 #[.int .i64 s] w fun e w' => e = .returned (.int .i64 (s / 8)) ∧ w = w' := by
  go_enter Try.func41, Try.ntmps41
  go_wp2_with (go_at_call 39; refine (rright_yes _ _ (by omega) (by omega)).mono ?_; rintro e w' ⟨rfl, rfl⟩)
  go_loop [0, 3] (fun t r => ∃ y n : Int, 0 ≤ y ∧ y < 64 ∧ 0 ≤ n ∧ n < 9 ∧ y / 8 + n = s / 8 ∧ t = .int .i64 y ∧ r = .int .i64 n) (fun t _ => (intOf t).toNat)
  case atStart => exact ⟨s, 0, h0, h1, by omega, by omega, by omega, rfl, rfl⟩
  case round =>
    obtain ⟨y, n, hy0, hy1, hn0, hn1, hy2, rfl, rfl⟩ := hrel
    have H := Lib.hid hy2
    clear hy2
    by_cases hlt : 8 ≤ y
    · go_wp2
      go_round
      case rel => exact ⟨y - 8, n + 1, by omega, by omega, by omega, by have := H.out; omega, by have := H.out; omega, rfl, rfl⟩
      case measure => simp [intOf]; omega
    · go_wp2
      go_ret
      exact ⟨ret_int (by have := H.out; omega), rfl⟩
theorem rrank_no (s : Int) (w : World) (h : s < 0 ∨ 64 ≤ s) :
    Calls Try.prog 41 #[.int .i64 s] w fun e w' => e = .returned (.int .i64 (-1)) ∧ w = w' := by
  go_enter Try.func41, Try.ntmps41
  go_wp2_with (go_at_call 39; refine (rright_no _ _ h).mono ?_; rintro e w' ⟨rfl, rfl⟩)
  go_ret
  exact ⟨rfl, rfl⟩

theorem onEdge_yes (s : Int) (w : World) (h0 : 0 ≤ s) (h1 : s < 8) :
    Calls Try.prog 34 #[.int .i64 s] w fun e w' => e = .returned (.bool true) ∧ w = w' := by
  go_enter Try.func34, Try.ntmps34
  go_wp2
  go_ret
  exact ⟨rfl, rfl⟩
theorem onEdge_no (s : Int) (w : World) (h : s < 0 ∨ 8 ≤ s) :
    Calls Try.prog 34 #[.int .i64 s] w fun e w' => e = .returned (.bool false) ∧ w = w' := by
  rcases h with h | h
  · go_enter Try.func34, Try.ntmps34
    go_wp2
    go_ret
    exact ⟨rfl, rfl⟩
  · have h0 : 0 ≤ s := by omega
    have hb : decide (s < 8) = false := by simp; omega
    go_enter Try.func34, Try.ntmps34
    go_wp2
    go_ret
    exact ⟨rfl, rfl⟩
theorem at_yes (f r : Int) (w : World) (f0 : 0 ≤ f) (f1 : f < 8) (r0 : 0 ≤ r) (r1 : r < 8) :
    Calls Try.prog 27 #[.int .i64 f, .int .i64 r] w fun e w' => e = .returned (.tuple #[.int .i64 (r * 8 + f), .bool true]) ∧ w = w' := by
  go_enter Try.func27, Try.ntmps27
  go_wp2_with (go_at_call 34; refine (onEdge_yes _ _ (by omega) (by omega)).mono ?_; rintro e w' ⟨rfl, rfl⟩)
  go_ret2
  exact ⟨rfl, rfl⟩
theorem at_no (f r : Int) (w : World) (h : f < 0 ∨ 8 ≤ f ∨ r < 0 ∨ 8 ≤ r) :
    Calls Try.prog 27 #[.int .i64 f, .int .i64 r] w fun e w' => e = .returned (.tuple #[.int .i64 0, .bool false]) ∧ w = w' := by
  by_cases hf : f < 0 ∨ 8 ≤ f
  · go_enter Try.func27, Try.ntmps27
    go_wp2_with (go_at_call 34; refine (onEdge_no _ _ hf).mono ?_; rintro e w' ⟨rfl, rfl⟩)
    go_ret2
    exact ⟨rfl, rfl⟩
  · have f0 : 0 ≤ f := by omega
    have f1 : f < 8 := by omega
    have hr : r < 0 ∨ 8 ≤ r := by omega
    clear hf h
    go_enter Try.func27, Try.ntmps27
    go_wp2_with fail
    refine (onEdge_yes _ _ (by omega) (by omega)).mono ?_
    rintro e w' ⟨rfl, rfl⟩
    go_wp2_with fail
    refine (onEdge_no _ _ hr).mono ?_
    rintro e w' ⟨rfl, rfl⟩
    go_wp2
    go_ret2
    exact ⟨rfl, rfl⟩
end Go.Proofs.Ytihmpglfghffiaa
