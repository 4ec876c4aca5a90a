/- Contracts of the small functions of men: Right, Kind, Side, Make, Other, inOrder, and the document's Kind. -/
import Derived.Test.YtkliefojegjhhaaDoorBase
namespace Go.Proofs.YtkliefojegjhhaaDoor
open Go.RowKit
set_option linter.unusedVariables false

theorem mright_yes (m : Int) (w : World) (h0 : m ≠ 0) (h1 : -6 ≤ m) (h2 : m ≤ 6) :
    Calls Tryd.prog 78 #[.int .i64 m] w fun e w' => e = .returned (.bool true) ∧ w = w' := by
  have b0 : (m != 0) = true := bne_iff_ne.2 h0
  have b1 : (m == 0) = false := beq_eq_false_iff_ne.2 h0
  go_enter Tryd.func78, Tryd.ntmps78
  go_wp2
  go_ret
  exact ⟨rfl, rfl⟩
theorem mright_no (m : Int) (w : World) (h : m < -6 ∨ m = 0 ∨ 6 < m) :
    Calls Tryd.prog 78 #[.int .i64 m] w fun e w' => e = .returned (.bool false) ∧ w = w' := by
  rcases h with h | h | h
  · have b0 : (m != 0) = true := bne_iff_ne.2 (by omega)
    have b1 : decide (-6 ≤ m) = false := by simp; omega
    go_enter Tryd.func78, Tryd.ntmps78
    go_wp2
    go_ret
    exact ⟨rfl, rfl⟩
  · subst h
    go_enter Tryd.func78, Tryd.ntmps78
    go_wp2
    go_ret
    exact ⟨rfl, rfl⟩
  · have b0 : (m != 0) = true := bne_iff_ne.2 (by omega)
    have b1 : -6 ≤ m := by omega
    have b2 : decide (m ≤ 6) = false := by simp; omega
    go_enter Tryd.func78, Tryd.ntmps78
    go_wp2
    go_ret
    exact ⟨rfl, rfl⟩
theorem mkind_no (m : Int) (w : World) (h : m < -6 ∨ m = 0 ∨ 6 < m) :
    Calls Tryd.prog 56 #[.int .i64 m] w fun e w' => e = .returned (.int .i64 0) ∧ w = w' := by
  go_enter Tryd.func56, Tryd.ntmps56
  go_wp2_with fail
  refine (mright_no _ _ h).mono ?_
  rintro e w' ⟨rfl, rfl⟩
  go_wp2
  go_ret
  exact ⟨rfl, rfl⟩
theorem mkind_w (m : Int) (w : World) (h0 : 0 < m) (h1 : m ≤ 6) :
    Calls Tryd.prog 56 #[.int .i64 m] w fun e w' => e = .returned (.int .i64 m) ∧ w = w' := by
  go_enter Tryd.func56, Tryd.ntmps56
  go_wp2_with fail
  refine (mright_yes _ _ (by omega) (by omega) (by omega)).mono ?_
  rintro e w' ⟨rfl, rfl⟩
  go_wp2
  go_ret
  exact ⟨ret_int (by omega), rfl⟩
theorem mkind_b (m : Int) (w : World) (h0 : m < 0) (h1 : -6 ≤ m) :
    Calls Tryd.prog 56 #[.int .i64 m] w fun e w' => e = .returned (.int .i64 (-m)) ∧ w = w' := by
  go_enter Tryd.func56, Tryd.ntmps56
  go_wp2_with fail
  refine (mright_yes _ _ (by omega) (by omega) (by omega)).mono ?_
  rintro e w' ⟨rfl, rfl⟩
  go_wp2
  go_ret
  exact ⟨ret_int (by omega), rfl⟩
theorem mside_no (m : Int) (w : World) (h : m < -6 ∨ m = 0 ∨ 6 < m) :
    Calls Tryd.prog 57 #[.int .i64 m] w fun e w' => e = .returned (.int .i64 (-1)) ∧ w = w' := by
  go_enter Tryd.func57, Tryd.ntmps57
  go_wp2_with fail
  refine (mright_no _ _ h).mono ?_
  rintro e w' ⟨rfl, rfl⟩
  go_wp2
  go_ret
  exact ⟨rfl, rfl⟩
theorem mside_w (m : Int) (w : World) (h0 : 0 < m) (h1 : m ≤ 6) :
    Calls Tryd.prog 57 #[.int .i64 m] w fun e w' => e = .returned (.int .i64 0) ∧ w = w' := by
  go_enter Tryd.func57, Tryd.ntmps57
  go_wp2_with fail
  refine (mright_yes _ _ (by omega) (by omega) (by omega)).mono ?_
  rintro e w' ⟨rfl, rfl⟩
  go_wp2
  go_ret
  exact ⟨rfl, rfl⟩
theorem mside_b (m : Int) (w : World) (h0 : m < 0) (h1 : -6 ≤ m) :
    Calls Tryd.prog 57 #[.int .i64 m] w fun e w' => e = .returned (.int .i64 1) ∧ w = w' := by
  go_enter Tryd.func57, Tryd.ntmps57
  go_wp2_with fail
  refine (mright_yes _ _ (by omega) (by omega) (by omega)).mono ?_
  rintro e w' ⟨rfl, rfl⟩
  go_wp2
  go_ret
  exact ⟨rfl, rfl⟩
theorem make_nokind (k s : Int) (w : World) (h : k < 1 ∨ 6 < k) :
    Calls Tryd.prog 75 #[.int .i64 k, .int .i64 s] w fun e w' => e = .returned (.int .i64 0) ∧ w = w' := by
  rcases h with h | h
  · go_enter Tryd.func75, Tryd.ntmps75
    go_wp2
    go_ret
    exact ⟨rfl, rfl⟩
  · have b : decide (k < 1) = false := by simp; omega
    go_enter Tryd.func75, Tryd.ntmps75
    go_wp2
    go_ret
    exact ⟨rfl, rfl⟩
theorem make_noside (k s : Int) (w : World) (h1 : 1 ≤ k) (h6 : k ≤ 6) (h : s ≠ 0) (h' : s ≠ 1) :
    Calls Tryd.prog 75 #[.int .i64 k, .int .i64 s] w fun e w' => e = .returned (.int .i64 0) ∧ w = w' := by
  have b : decide (k < 1) = false := by simp; omega
  have b' : decide (6 < k) = false := by simp; omega
  have c : (s == 0) = false := beq_eq_false_iff_ne.2 h
  have c' : (s == 1) = false := beq_eq_false_iff_ne.2 h'
  clear h h'
  go_enter Tryd.func75, Tryd.ntmps75
  go_wp2
  go_ret
  exact ⟨rfl, rfl⟩
theorem make_w (k : Int) (w : World) (h1 : 1 ≤ k) (h6 : k ≤ 6) :
    Calls Tryd.prog 75 #[.int .i64 k, .int .i64 0] w fun e w' => e = .returned (.int .i64 k) ∧ w = w' := by
  have b : decide (k < 1) = false := by simp; omega
  have b' : decide (6 < k) = false := by simp; omega
  go_enter Tryd.func75, Tryd.ntmps75
  go_wp2
  go_ret
  exact ⟨rfl, rfl⟩
theorem make_b (k : Int) (w : World) (h1 : 1 ≤ k) (h6 : k ≤ 6) :
    Calls Tryd.prog 75 #[.int .i64 k, .int .i64 1] w fun e w' => e = .returned (.int .i64 (-k)) ∧ w = w' := by
  have b : decide (k < 1) = false := by simp; omega
  have b' : decide (6 < k) = false := by simp; omega
  go_enter Tryd.func75, Tryd.ntmps75
  go_wp2
  go_ret
  exact ⟨rfl, rfl⟩
/-- The nth man in the order of the signs. -/
def inOrd (n : Nat) : Int := if n < 6 then 6 - (n : Int) else (n : Int) - 12
theorem mkind_ord (n : Nat) (hn : n < 12) (w : World) :
    Calls Tryd.prog 56 #[.int .i64 (inOrd n)] w fun e w' => e = .returned (.int .i64 (6 - n % 6 : Nat)) ∧ w = w' := by
  by_cases h6 : n < 6
  · have e0 : inOrd n = 6 - (n : Int) := by unfold inOrd; rw [if_pos h6]
    have e1 : ((6 - n % 6 : Nat) : Int) = 6 - (n : Int) := by omega
    rw [e0, e1]
    exact mkind_w _ w (by omega) (by omega)
  · have e0 : inOrd n = (n : Int) - 12 := by unfold inOrd; rw [if_neg h6]
    have e1 : ((6 - n % 6 : Nat) : Int) = -((n : Int) - 12) := by omega
    rw [e0, e1]
    exact mkind_b _ w (by omega) (by omega)
theorem mside_ord (n : Nat) (hn : n < 12) (w : World) :
    Calls Tryd.prog 57 #[.int .i64 (inOrd n)] w fun e w' => e = .returned (.int .i64 ((n : Int) / 6)) ∧ w = w' := by
  by_cases h6 : n < 6
  · have e0 : inOrd n = 6 - (n : Int) := by unfold inOrd; rw [if_pos h6]
    have e1 : (n : Int) / 6 = 0 := by omega
    rw [e0, e1]
    exact mside_w _ w (by omega) (by omega)
  · have e0 : inOrd n = (n : Int) - 12 := by unfold inOrd; rw [if_neg h6]
    have e1 : (n : Int) / 6 = 1 := by omega
    rw [e0, e1]
    exact mside_b _ w (by omega) (by omega)
theorem rkind_no (m : Int) (w : World) (h : m < -6 ∨ m = 0 ∨ 6 < m) :
    Calls Tryd.prog 63 #[.int .i64 m] w fun e w' => e = .returned (.int .i64 0) ∧ w = w' := by
  have H := Lib.hid h
  clear h
  go_enter Tryd.func63, Tryd.ntmps63
  go_wp2
  go_loop [3] (fun t => ∃ k : Int, 1 ≤ k ∧ k ≤ 7 ∧ t = .int .i64 k) (fun t => 7 - (intOf t).toNat)
  case atStart => exact ⟨1, by omega, by omega, rfl⟩
  case round =>
    obtain ⟨k, h1, h7, rfl⟩ := hrel
    by_cases hk : k ≤ 6
    · have b1 : (m == k) = false := beq_eq_false_iff_ne.2 (by have := H.out; omega)
      have b2 : (m == 0 - k) = false := beq_eq_false_iff_ne.2 (by have := H.out; omega)
      have b3 : (m == -k) = false := beq_eq_false_iff_ne.2 (by have := H.out; omega)
      go_wp2
      go_round
      case rel => exact ⟨k + 1, by omega, by omega, rfl⟩
      case measure => simp [intOf]; omega
    · go_wp2
      go_ret
      exact ⟨rfl, rfl⟩
theorem rkind_yes (m q : Int) (w : World) (h : m = q ∨ m = -q) (h1 : 1 ≤ q) (h6 : q ≤ 6) :
    Calls Tryd.prog 63 #[.int .i64 m] w fun e w' => e = .returned (.int .i64 q) ∧ w = w' := by
  have H := Lib.hid h
  clear h
  go_enter Tryd.func63, Tryd.ntmps63
  go_wp2
  go_loop [3] (fun t => ∃ k : Int, 1 ≤ k ∧ k ≤ q ∧ t = .int .i64 k) (fun t => 7 - (intOf t).toNat)
  case atStart => exact ⟨1, by omega, by omega, rfl⟩
  case round =>
    obtain ⟨k, h1, h7, rfl⟩ := hrel
    by_cases hk : k = q
    · subst hk
      rcases H.out with h | h
      · subst h
        go_wp2
        go_ret
        exact ⟨rfl, rfl⟩
      · have b1 : (m == k) = false := beq_eq_false_iff_ne.2 (by omega)
        have b2 : (m == 0 - k) = true := beq_iff_eq.2 (by omega)
        have b3 : (m == -k) = true := beq_iff_eq.2 (by omega)
        clear h
        go_wp2
        go_ret
        exact ⟨rfl, rfl⟩
    · have b1 : (m == k) = false := beq_eq_false_iff_ne.2 (by have := H.out; omega)
      have b2 : (m == 0 - k) = false := beq_eq_false_iff_ne.2 (by have := H.out; omega)
      have b3 : (m == -k) = false := beq_eq_false_iff_ne.2 (by have := H.out; omega)
      have hlt : k < q := by omega
      clear hk
      go_wp2
      go_round
      case rel => exact ⟨k + 1, by omega, by omega, rfl⟩
      case measure => simp [intOf]; omega
end Go.Proofs.YtkliefojegjhhaaDoor
