/- The contracts of the small functions of keys: a number turned about; what a man, a side, a right, a square behind a pawn adds. -/
import Derived.Test.YtkebpchhpidogaaKeA
namespace Go.Proofs.Ytkebpchhpidogaa
open Go.RowKit
set_option linter.unusedVariables false
set_option linter.unusedSimpArgs false

theorem kmix_is (n : Int) (hn : U n) (w : World) : Calls Try.prog 6 #[.int .u64 n] w fun e w' => e = .returned (.int .u64 (mixI n)) ∧ w = w' := by
  go_enter Try.func6, Try.ntmps6
  go_wp2
  go_ret
  exact ⟨rfl, rfl⟩
theorem tdiv_u {a : Int} (h : U a) (k : Nat) (hk : 0 < k) : IntKind.u64.wrap (a.tdiv (k : Int)) = a / (k : Int) := by
  rw [Int.tdiv_eq_ediv_of_nonneg h.1]
  refine U.wrap ⟨Int.ediv_nonneg h.1 (by omega), Int.lt_of_le_of_lt ?_ h.2⟩
  exact Int.ediv_le_self _ h.1
theorem rmix_is (n : Int) (hn : U n) (w : World) : Calls Try.prog 7 #[.int .u64 n] w fun e w' => e = .returned (.int .u64 (mixI n)) ∧ w = w' := by
  have e1 := mxa_ref n
  have u1 := mxa_u n
  have d1 : IntKind.u64.wrap ((mxa n).tdiv 1073741824) = mxa n / 1073741824 := tdiv_u u1 1073741824 (by omega)
  have e2 : IntKind.u64.wrap (xr (mxa n) (mxa n / 1073741824) * 13787848793156543929) = mxb (mxa n) := rfl
  have u2 := mxb_u (mxa n)
  have d2 : IntKind.u64.wrap ((mxb (mxa n)).tdiv 134217728) = mxb (mxa n) / 134217728 := tdiv_u u2 134217728 (by omega)
  have e3 : IntKind.u64.wrap (xr (mxb (mxa n)) (mxb (mxa n) / 134217728) * 10723151780598845931) = mxc (mxb (mxa n)) := rfl
  have u3 := mxc_u (mxb (mxa n))
  have d3 : IntKind.u64.wrap ((mxc (mxb (mxa n))).tdiv 2147483648) = mxc (mxb (mxa n)) / 2147483648 := tdiv_u u3 2147483648 (by omega)
  have e4 : xr (mxc (mxb (mxa n))) (mxc (mxb (mxa n)) / 2147483648) = mixI n := rfl
  clear u1 u2 u3
  go_enter Try.func7, Try.ntmps7
  go_wp2
  go_ret
  exact ⟨rfl, rfl⟩
/-- Two whole numbers, added round. -/
theorem kmixed_is (a b : Int) (w : World) : Calls Try.prog 17 #[.int .i64 a, .int .i64 b] w fun e w' => e = .returned (.int .u64 (mixI (IntKind.u64.wrap (a + b)))) ∧ w = w' := by
  have e1 : IntKind.u64.wrap (IntKind.u64.wrap a + IntKind.u64.wrap b) = IntKind.u64.wrap (a + b) := by simp only [IntKind.wrap_u64]; omega
  have HM := Lib.hid (kmix_is (IntKind.u64.wrap (a + b)) (wrap_u _))
  go_enter Try.func17, Try.ntmps17
  go_wp2_with fail
  refine (HM.out _).mono ?_
  rintro e w1 ⟨rfl, rfl⟩
  go_wp2
  go_ret
  exact ⟨rfl, rfl⟩
theorem kman_is (s : Nat) (hs : s < 64) (m : Int) (h1 : -128 ≤ m) (h2 : m ≤ 127) (w : World) : Calls Try.prog 15 #[.int .i64 s, .int .i8 m] w fun e w' => e = .returned (.int .u64 (manK s m)) ∧ w = w' := by
  by_cases h : m = 0
  · subst h
    go_enter Try.func15, Try.ntmps15
    go_wp2
    go_ret
    exact ⟨rfl, rfl⟩
  · have hb : (m == 0) = false := beq_eq_false_iff_ne.2 h
    have e1 : manK s m = mixI (IntKind.u64.wrap (16 * (s : Int) + 8 + m)) := by unfold manK; rw [if_neg h]
    have HM := Lib.hid (kmixed_is (16 * (s : Int) + 8) m)
    rw [← e1] at HM
    have E := Lib.hid e1
    clear e1
    generalize manK s m = r at *
    go_enter Try.func15, Try.ntmps15
    go_wp2_with fail
    refine (HM.out _).mono ?_
    rintro e w1 ⟨rfl, rfl⟩
    go_wp2
    go_ret
    exact ⟨rfl, rfl⟩
theorem kside_is (t : Int) (w : World) : Calls Try.prog 12 #[.int .i64 t] w fun e w' => e = .returned (.int .u64 (sideK t)) ∧ w = w' := by
  by_cases h : t = 1
  · subst h
    have HM := Lib.hid (kmix_is 1024 ⟨by decide, by decide⟩)
    rw [show sideK 1 = mixI 1024 from rfl]
    generalize mixI 1024 = r at *
    go_enter Try.func12, Try.ntmps12
    go_wp2_with fail
    refine (HM.out _).mono ?_
    rintro e w1 ⟨rfl, rfl⟩
    go_wp2
    go_ret
    exact ⟨rfl, rfl⟩
  · have hb : (t == 1) = false := beq_eq_false_iff_ne.2 h
    rw [show sideK t = 0 by unfold sideK; rw [if_neg h]]
    go_enter Try.func12, Try.ntmps12
    go_wp2
    go_ret
    exact ⟨rfl, rfl⟩
theorem kpassed_is (t : Int) (w : World) : Calls Try.prog 14 #[.int .i64 t] w fun e w' => e = .returned (.int .u64 (pasK t)) ∧ w = w' := by
  by_cases h : t < 0
  · have hb : decide (t < 0) = true := decide_eq_true h
    rw [show pasK t = 0 by unfold pasK; rw [if_pos h]]
    go_enter Try.func14, Try.ntmps14
    go_wp2
    go_ret
    exact ⟨rfl, rfl⟩
  · have hb : decide (t < 0) = false := decide_eq_false h
    have HM := Lib.hid (kmixed_is 1056 t)
    rw [show pasK t = mixI (IntKind.u64.wrap (1056 + t)) by unfold pasK; rw [if_neg h]]
    generalize mixI (IntKind.u64.wrap (1056 + t)) = r at *
    go_enter Try.func14, Try.ntmps14
    go_wp2_with fail
    refine (HM.out _).mono ?_
    rintro e w1 ⟨rfl, rfl⟩
    go_wp2
    go_ret
    exact ⟨rfl, rfl⟩
end Go.Proofs.Ytkebpchhpidogaa
