/- Contracts of At's and Step's opposites in the document's own answer (Find, Step), of Step, Far and the document's Far. -/
import Derived.Test.YtkliefojegjhhaaDoorSqA
import Derived.IntWalk
namespace Go.Proofs.YtkliefojegjhhaaDoor
open Go.RowKit
set_option linter.unusedVariables false

theorem rstep_yes (s f r : Int) (w : World) (h0 : 0 ≤ s) (h1 : s < 64) (f0 : 0 ≤ s % 8 + f) (f1 : s % 8 + f < 8) (r0 : 0 ≤ s / 8 + r) (r1 : s / 8 + r < 8) :
    Calls Tryd.prog 41 #[.int .i64 s, .int .i64 f, .int .i64 r] w fun e w' => e = .returned (.int .i64 ((s / 8 + r) * 8 + (s % 8 + f))) ∧ w = w' := by
  go_enter Tryd.func41, Tryd.ntmps41
  go_wp2_with (go_at_call 67; refine (rright_yes _ _ (by omega) (by omega)).mono ?_; rintro e w' ⟨rfl, rfl⟩)
  go_loop [7] (fun t => ∃ k : Int, 0 ≤ k ∧ k ≤ (s / 8 + r) * 8 + (s % 8 + f) ∧ t = .int .i64 k) (fun t => (64 - intOf t).toNat)
  case atStart => exact ⟨0, by omega, by omega, rfl⟩
  case round =>
    obtain ⟨k, hk0, hk1, rfl⟩ := hrel
    have hk2 : k < 64 := by omega
    by_cases hf : k % 8 - s % 8 = f
    · have b1 : (k % 8 - s % 8 == f) = true := beq_iff_eq.2 hf
      by_cases hr : k / 8 - s / 8 = r
      · have b2 : (k / 8 - s / 8 == r) = true := beq_iff_eq.2 hr
        have H := Lib.hid (show k = (s / 8 + r) * 8 + (s % 8 + f) by omega)
        clear hf hr
        go_wp2_with (first | (go_at_call 68; refine (rfile_yes _ _ (by omega) (by omega)).mono ?_; rintro e w' ⟨rfl, rfl⟩) | (go_at_call 69; refine (rrank_yes _ _ (by omega) (by omega)).mono ?_; rintro e w' ⟨rfl, rfl⟩))
        go_ret
        exact ⟨ret_int H.out, rfl⟩
      · have b2 : (k / 8 - s / 8 == r) = false := beq_eq_false_iff_ne.2 hr
        have hk3 : k < (s / 8 + r) * 8 + (s % 8 + f) := by omega
        clear hf hr
        go_wp2_with (first | (go_at_call 68; refine (rfile_yes _ _ (by omega) (by omega)).mono ?_; rintro e w' ⟨rfl, rfl⟩) | (go_at_call 69; refine (rrank_yes _ _ (by omega) (by omega)).mono ?_; rintro e w' ⟨rfl, rfl⟩))
        go_round
        case rel => exact ⟨k + 1, by omega, by omega, rfl⟩
        case measure => simp [intOf]; omega
    · have b1 : (k % 8 - s % 8 == f) = false := beq_eq_false_iff_ne.2 hf
      have hk3 : k < (s / 8 + r) * 8 + (s % 8 + f) := by omega
      clear hf
      go_wp2_with (first | (go_at_call 68; refine (rfile_yes _ _ (by omega) (by omega)).mono ?_; rintro e w' ⟨rfl, rfl⟩) | (go_at_call 69; refine (rrank_yes _ _ (by omega) (by omega)).mono ?_; rintro e w' ⟨rfl, rfl⟩))
      go_round
      case rel => exact ⟨k + 1, by omega, by omega, rfl⟩
      case measure => simp [intOf]; omega
theorem rstep_no (s f r : Int) (w : World) (h0 : 0 ≤ s) (h1 : s < 64) (h : s % 8 + f < 0 ∨ 8 ≤ s % 8 + f ∨ s / 8 + r < 0 ∨ 8 ≤ s / 8 + r) :
    Calls Tryd.prog 41 #[.int .i64 s, .int .i64 f, .int .i64 r] w fun e w' => e = .returned (.int .i64 (-1)) ∧ w = w' := by
  go_enter Tryd.func41, Tryd.ntmps41
  go_wp2_with (go_at_call 67; refine (rright_yes _ _ (by omega) (by omega)).mono ?_; rintro e w' ⟨rfl, rfl⟩)
  go_loop [7] (fun t => ∃ k : Int, 0 ≤ k ∧ k ≤ 64 ∧ t = .int .i64 k) (fun t => (64 - intOf t).toNat)
  case atStart => exact ⟨0, by omega, by omega, rfl⟩
  case round =>
    obtain ⟨k, hk0, hk1, rfl⟩ := hrel
    by_cases hk2 : k < 64
    · by_cases hf : k % 8 - s % 8 = f
      · have b1 : (k % 8 - s % 8 == f) = true := beq_iff_eq.2 hf
        have b2 : (k / 8 - s / 8 == r) = false := beq_eq_false_iff_ne.2 (by omega)
        clear hf
        go_wp2_with (first | (go_at_call 68; refine (rfile_yes _ _ (by omega) (by omega)).mono ?_; rintro e w' ⟨rfl, rfl⟩) | (go_at_call 69; refine (rrank_yes _ _ (by omega) (by omega)).mono ?_; rintro e w' ⟨rfl, rfl⟩))
        go_round
        case rel => exact ⟨k + 1, by omega, by omega, rfl⟩
        case measure => simp [intOf]; omega
      · have b1 : (k % 8 - s % 8 == f) = false := beq_eq_false_iff_ne.2 hf
        clear hf
        go_wp2_with (first | (go_at_call 68; refine (rfile_yes _ _ (by omega) (by omega)).mono ?_; rintro e w' ⟨rfl, rfl⟩) | (go_at_call 69; refine (rrank_yes _ _ (by omega) (by omega)).mono ?_; rintro e w' ⟨rfl, rfl⟩))
        go_round
        case rel => exact ⟨k + 1, by omega, by omega, rfl⟩
        case measure => simp [intOf]; omega
    · go_wp2
      go_ret
      exact ⟨rfl, rfl⟩
theorem rstep_off (s f r : Int) (w : World) (h : s < 0 ∨ 64 ≤ s) :
    Calls Tryd.prog 41 #[.int .i64 s, .int .i64 f, .int .i64 r] w fun e w' => e = .returned (.int .i64 (-1)) ∧ w = w' := by
  go_enter Tryd.func41, Tryd.ntmps41
  go_wp2_with (go_at_call 67; refine (rright_no _ _ h).mono ?_; rintro e w' ⟨rfl, rfl⟩)
  go_ret
  exact ⟨rfl, rfl⟩

theorem step_yes (s f r : Int) (w : World) (h0 : 0 ≤ s) (h1 : s < 64) (f0 : 0 ≤ s % 8 + f) (f1 : s % 8 + f < 8) (r0 : 0 ≤ s / 8 + r) (r1 : s / 8 + r < 8) :
    Calls Tryd.prog 40 #[.int .i64 s, .int .i64 f, .int .i64 r] w fun e w' => e = .returned (.tuple #[.int .i64 ((s / 8 + r) * 8 + (s % 8 + f)), .bool true]) ∧ w = w' := by
  go_enter Tryd.func40, Tryd.ntmps40
  go_wp2_with (first | (go_at_call 34; refine (right_yes _ _ (by omega) (by omega)).mono ?_; rintro e w' ⟨rfl, rfl⟩) | (go_at_call 65; refine (file_yes _ _ (by omega) (by omega)).mono ?_; rintro e w' ⟨rfl, rfl⟩) | (go_at_call 66; refine (rank_yes _ _ (by omega) (by omega)).mono ?_; rintro e w' ⟨rfl, rfl⟩) | (go_at_call 64; refine (at_yes _ _ _ (by omega) (by omega) (by omega) (by omega)).mono ?_; rintro e w' ⟨rfl, rfl⟩))
  go_ret2
  exact ⟨rfl, rfl⟩
theorem step_off (s f r : Int) (w : World) (h : s < 0 ∨ 64 ≤ s) :
    Calls Tryd.prog 40 #[.int .i64 s, .int .i64 f, .int .i64 r] w fun e w' => e = .returned (.tuple #[.int .i64 0, .bool false]) ∧ w = w' := by
  go_enter Tryd.func40, Tryd.ntmps40
  go_wp2_with (go_at_call 34; refine (right_no _ _ h).mono ?_; rintro e w' ⟨rfl, rfl⟩)
  go_ret2
  exact ⟨rfl, rfl⟩
theorem wrap_off (x : Int) (h0 : -9223372036854775808 ≤ x) (h1 : x < 9223372036854775808 + 8) (h : x < 0 ∨ 8 ≤ x) : wrap64 x < 0 ∨ 8 ≤ wrap64 x := by
  unfold wrap64; omega
theorem off_wrapped (s f r : Int) (h0 : 0 ≤ s) (h1 : s < 64) (wf : (Lit.int .i64 f).wf = true) (wr : (Lit.int .i64 r).wf = true) (h : s % 8 + f < 0 ∨ 8 ≤ s % 8 + f ∨ s / 8 + r < 0 ∨ 8 ≤ s / 8 + r) :
    wrap64 (s % 8 + f) < 0 ∨ 8 ≤ wrap64 (s % 8 + f) ∨ wrap64 (s / 8 + r) < 0 ∨ 8 ≤ wrap64 (s / 8 + r) := by
  have bf := bounds_i64 wf
  have br := bounds_i64 wr
  by_cases hx : s % 8 + f < 0 ∨ 8 ≤ s % 8 + f
  · rcases wrap_off _ (by omega) (by omega) hx with g | g
    · exact .inl g
    · exact .inr (.inl g)
  · rcases wrap_off (s / 8 + r) (by omega) (by omega) (by omega) with g | g
    · exact .inr (.inr (.inl g))
    · exact .inr (.inr (.inr g))
theorem step_no (s f r : Int) (w : World) (h0 : 0 ≤ s) (h1 : s < 64) (wf : (Lit.int .i64 f).wf = true) (wr : (Lit.int .i64 r).wf = true) (h : s % 8 + f < 0 ∨ 8 ≤ s % 8 + f ∨ s / 8 + r < 0 ∨ 8 ≤ s / 8 + r) :
    Calls Tryd.prog 40 #[.int .i64 s, .int .i64 f, .int .i64 r] w fun e w' => e = .returned (.tuple #[.int .i64 0, .bool false]) ∧ w = w' := by
  have H := Lib.hid (off_wrapped s f r h0 h1 wf wr h)
  clear wf wr h
  go_enter Tryd.func40, Tryd.ntmps40
  go_wp2_with (first | (go_at_call 34; refine (right_yes _ _ (by omega) (by omega)).mono ?_; rintro e w' ⟨rfl, rfl⟩) | (go_at_call 65; refine (file_yes _ _ (by omega) (by omega)).mono ?_; rintro e w' ⟨rfl, rfl⟩) | (go_at_call 66; refine (rank_yes _ _ (by omega) (by omega)).mono ?_; rintro e w' ⟨rfl, rfl⟩))
  refine (at_no _ _ _ H.out).mono ?_
  rintro e w' ⟨rfl, rfl⟩
  go_wp2
  go_ret2
  exact ⟨rfl, rfl⟩

/-- The distance, as a number. -/
def farI (a b : Int) : Int := max (max (a % 8 - b % 8) (b % 8 - a % 8)) (max (a / 8 - b / 8) (b / 8 - a / 8))
end Go.Proofs.YtkliefojegjhhaaDoor
