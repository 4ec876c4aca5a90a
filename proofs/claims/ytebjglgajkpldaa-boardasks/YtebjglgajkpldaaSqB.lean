/- Contracts of At's and Step's opposites in the document's own answer (Find, Step), of Step, Far and the document's Far. -/
import Derived.Test.YtebjglgajkpldaaSqA
import Derived.IntWalk
namespace Go.Proofs.Ytebjglgajkpldaa
open Go.RowKit
set_option linter.unusedVariables false

theorem rfind_yes (f r : Int) (w : World) (f0 : 0 ≤ f) (f1 : f < 8) (r0 : 0 ≤ r) (r1 : r < 8) :
    Calls Try.prog 34 #[.int .i64 f, .int .i64 r] w fun e w' => e = .returned (.int .i64 (r * 8 + f)) ∧ w = w' := by
  go_enter Try.func34, Try.ntmps34
  go_wp2
  go_loop [5] (fun t => ∃ k : Int, 0 ≤ k ∧ k ≤ r * 8 + f ∧ t = .int .i64 k) (fun t => (64 - intOf t).toNat)
  case atStart => exact ⟨0, by omega, by omega, rfl⟩
  case round =>
    obtain ⟨k, hk0, hk1, rfl⟩ := hrel
    have hk2 : k < 64 := by omega
    by_cases hf : k % 8 = f
    · have b1 : (k % 8 == f) = true := beq_iff_eq.2 hf
      by_cases hr : k / 8 = r
      · have b2 : (k / 8 == r) = true := beq_iff_eq.2 hr
        have H := Lib.hid (show k = r * 8 + f by omega)
        clear hf hr
        go_wp2_with (first | (go_at_call 35; refine (rfile_yes _ _ (by omega) (by omega)).mono ?_; rintro e w' ⟨rfl, rfl⟩) | (go_at_call 36; refine (rrank_yes _ _ (by omega) (by omega)).mono ?_; rintro e w' ⟨rfl, rfl⟩))
        go_ret
        exact ⟨ret_int H.out, rfl⟩
      · have b2 : (k / 8 == r) = false := beq_eq_false_iff_ne.2 hr
        have hk3 : k < r * 8 + f := by omega
        clear hf hr
        go_wp2_with (first | (go_at_call 35; refine (rfile_yes _ _ (by omega) (by omega)).mono ?_; rintro e w' ⟨rfl, rfl⟩) | (go_at_call 36; refine (rrank_yes _ _ (by omega) (by omega)).mono ?_; rintro e w' ⟨rfl, rfl⟩))
        go_round
        case rel => exact ⟨k + 1, by omega, by omega, rfl⟩
        case measure => simp [intOf]; omega
    · have b1 : (k % 8 == f) = false := beq_eq_false_iff_ne.2 hf
      have hk3 : k < r * 8 + f := by omega
      clear hf
      go_wp2_with (first | (go_at_call 35; refine (rfile_yes _ _ (by omega) (by omega)).mono ?_; rintro e w' ⟨rfl, rfl⟩) | (go_at_call 36; refine (rrank_yes _ _ (by omega) (by omega)).mono ?_; rintro e w' ⟨rfl, rfl⟩))
      go_round
      case rel => exact ⟨k + 1, by omega, by omega, rfl⟩
      case measure => simp [intOf]; omega
theorem rfind_no (f r : Int) (w : World) (h : f < 0 ∨ 8 ≤ f ∨ r < 0 ∨ 8 ≤ r) :
    Calls Try.prog 34 #[.int .i64 f, .int .i64 r] w fun e w' => e = .returned (.int .i64 (-1)) ∧ w = w' := by
  go_enter Try.func34, Try.ntmps34
  go_wp2
  go_loop [5] (fun t => ∃ k : Int, 0 ≤ k ∧ k ≤ 64 ∧ t = .int .i64 k) (fun t => (64 - intOf t).toNat)
  case atStart => exact ⟨0, by omega, by omega, rfl⟩
  case round =>
    obtain ⟨k, hk0, hk1, rfl⟩ := hrel
    by_cases hk2 : k < 64
    · by_cases hf : k % 8 = f
      · have b1 : (k % 8 == f) = true := beq_iff_eq.2 hf
        have b2 : (k / 8 == r) = false := beq_eq_false_iff_ne.2 (by omega)
        clear hf
        go_wp2_with (first | (go_at_call 35; refine (rfile_yes _ _ (by omega) (by omega)).mono ?_; rintro e w' ⟨rfl, rfl⟩) | (go_at_call 36; refine (rrank_yes _ _ (by omega) (by omega)).mono ?_; rintro e w' ⟨rfl, rfl⟩))
        go_round
        case rel => exact ⟨k + 1, by omega, by omega, rfl⟩
        case measure => simp [intOf]; omega
      · have b1 : (k % 8 == f) = false := beq_eq_false_iff_ne.2 hf
        clear hf
        go_wp2_with (first | (go_at_call 35; refine (rfile_yes _ _ (by omega) (by omega)).mono ?_; rintro e w' ⟨rfl, rfl⟩) | (go_at_call 36; refine (rrank_yes _ _ (by omega) (by omega)).mono ?_; rintro e w' ⟨rfl, rfl⟩))
        go_round
        case rel => exact ⟨k + 1, by omega, by omega, rfl⟩
        case measure => simp [intOf]; omega
    · go_wp2
      go_ret
      exact ⟨rfl, rfl⟩

theorem wrap_off (x : Int) (h0 : -9223372036854775808 ≤ x) (h1 : x < 9223372036854775808 + 8) (h : x < 0 ∨ 8 ≤ x) : wrap64 x < 0 ∨ 8 ≤ wrap64 x := by
  unfold wrap64; omega
theorem off_wrapped (s f r : Int) (h0 : 0 ≤ s) (h1 : s < 64) (wf : (Lit.int .i64 f).wf = true) (wr : (Lit.int .i64 r).wf = true) (h : s % 8 + f < 0 ∨ 8 ≤ s % 8 + f ∨ s / 8 + r < 0 ∨ 8 ≤ s / 8 + r) :
    wrap64 (s % 8 + f) < 0 ∨ 8 ≤ wrap64 (s % 8 + f) ∨ wrap64 (s / 8 + r) < 0 ∨ 8 ≤ wrap64 (s / 8 + r) := by
  have bf := bounds_i64 wf
  have br := bounds_i64 wr
  by_cases hx : s % 8 + f < 0 ∨ 8 ≤ s % 8 + f
  · rcases wrap_off _ (by omega) (by omega) hx with g | g
    · exact .inl g
    · exact .inr (.inl g)
  · rcases wrap_off (s / 8 + r) (by omega) (by omega) (by omega) with g | g
    · exact .inr (.inr (.inl g))
    · exact .inr (.inr (.inr g))
/-- The distance, as a number. -/
def farI (a b : Int) : Int := max (max (a % 8 - b % 8) (b % 8 - a % 8)) (max (a / 8 - b / 8) (b / 8 - a / 8))
end Go.Proofs.Ytebjglgajkpldaa
