/- Contracts of men.Worth (which reads a table of the package), of the document's Side and Worth; the walk of MenAre in a world that holds the table. -/
import Derived.Test.YtkkbcfemallglaaDoorMeK
namespace Go.Proofs.YtkkbcfemallglaaDoor
open Go.RowKit
set_option linter.unusedVariables false

/-- The world holds the table of worths. -/
def Worths (w : World) : Prop := ∀ i : Nat, i < 7 → w.cell? ⟨0, i, none⟩ = some (.int .i64 ([0, 1, 3, 3, 5, 9, 0].getD i 0))
theorem worths_grown {a b : World} (g : Grown a b) (h : Worths a) : Worths b := fun i hi => grown_cell g (h i hi)
theorem worth_at (m : Int) (k : Nat) (w : World) (hk : k < 7) (h : Worths w) (hK : ∀ w, Calls Tryd.prog 7 #[.int .i64 m] w fun e w' => e = .returned (.int .i64 k) ∧ w = w') :
    Calls Tryd.prog 14 #[.int .i64 m] w fun e w' => e = .returned (.int .i64 ([0, 1, 3, 3, 5, 9, 0].getD k 0)) ∧ w = w' := by
  have hc := h k hk
  have hk7 : (k : Int) < 7 := by omega
  generalize ([0, 1, 3, 3, 5, 9, 0] : List Int).getD k 0 = v at *
  go_enter Tryd.func14, Tryd.ntmps14
  go_wp2_with fail
  refine (hK _).mono ?_
  rintro e w' ⟨rfl, rfl⟩
  go_wp2
  go_ret
  exact ⟨rfl, rfl⟩
theorem worth_ord (n : Nat) (hn : n < 12) (w : World) (h : Worths w) :
    Calls Tryd.prog 14 #[.int .i64 (inOrd n)] w fun e w' => e = .returned (.int .i64 ([0, 1, 3, 3, 5, 9, 0].getD (6 - n % 6) 0)) ∧ w = w' :=
  worth_at _ _ w (by omega) h (mkind_ord n hn)
theorem worth_none (m : Int) (w : World) (h : Worths w) (hm : m < -6 ∨ m = 0 ∨ 6 < m) :
    Calls Tryd.prog 14 #[.int .i64 m] w fun e w' => e = .returned (.int .i64 0) ∧ w = w' :=
  worth_at _ 0 w (by omega) h (fun w => mkind_no m w hm)
theorem rkind_ord (n : Nat) (hn : n < 12) (w : World) :
    Calls Tryd.prog 5 #[.int .i64 (inOrd n)] w fun e w' => e = .returned (.int .i64 (6 - n % 6 : Nat)) ∧ w = w' :=
  rkind_yes _ _ w (by unfold inOrd; split <;> omega) (by omega) (by omega)
theorem rside_no (m : Int) (w : World) (hm : m < -6 ∨ m = 0 ∨ 6 < m) :
    Calls Tryd.prog 9 #[.int .i64 m] w fun e w' => e = .returned (.int .i64 (-1)) ∧ w = w' := by
  go_enter Tryd.func9, Tryd.ntmps9
  go_wp2_with fail
  refine (rkind_no _ _ hm).mono ?_
  rintro e w' ⟨rfl, rfl⟩
  go_wp2
  go_ret
  exact ⟨rfl, rfl⟩
theorem rside_ord (n : Nat) (hn : n < 12) (w : World) :
    Calls Tryd.prog 9 #[.int .i64 (inOrd n)] w fun e w' => e = .returned (.int .i64 ((n : Int) / 6)) ∧ w = w' := by
  have b0 : (((6 - n % 6 : Nat) : Int) == 0) = false := beq_eq_false_iff_ne.2 (by omega)
  have hk := rkind_ord n hn
  generalize ((6 - n % 6 : Nat) : Int) = q at *
  by_cases h6 : n < 6
  · have e1 : (n : Int) / 6 = 0 := by omega
    have b1 : decide (inOrd n < 0) = false := by unfold inOrd; rw [if_pos h6]; simp; omega
    rw [e1]
    go_enter Tryd.func9, Tryd.ntmps9
    go_wp2_with fail
    refine (hk _).mono ?_
    rintro e w' ⟨rfl, rfl⟩
    go_wp2
    go_ret
    exact ⟨rfl, rfl⟩
  · have e1 : (n : Int) / 6 = 1 := by omega
    have b1 : inOrd n < 0 := by unfold inOrd; rw [if_neg h6]; omega
    rw [e1]
    go_enter Tryd.func9, Tryd.ntmps9
    go_wp2_with fail
    refine (hk _).mono ?_
    rintro e w' ⟨rfl, rfl⟩
    go_wp2
    go_ret
    exact ⟨rfl, rfl⟩
theorem rworth_k (m q : Int) (w : World) (v : Int) (hK : ∀ w, Calls Tryd.prog 5 #[.int .i64 m] w fun e w' => e = .returned (.int .i64 q) ∧ w = w')
    (h : (q = 0 ∧ v = 0) ∨ (q = 1 ∧ v = 1) ∨ (q = 2 ∧ v = 3) ∨ (q = 3 ∧ v = 3) ∨ (q = 4 ∧ v = 5) ∨ (q = 5 ∧ v = 9) ∨ (q = 6 ∧ v = 0)) :
    Calls Tryd.prog 15 #[.int .i64 m] w fun e w' => e = .returned (.int .i64 v) ∧ w = w' := by
  rcases h with ⟨rfl, rfl⟩ | ⟨rfl, rfl⟩ | ⟨rfl, rfl⟩ | ⟨rfl, rfl⟩ | ⟨rfl, rfl⟩ | ⟨rfl, rfl⟩ | ⟨rfl, rfl⟩
  all_goals
    go_enter Tryd.func15, Tryd.ntmps15
    go_wp2_with fail
    refine (hK _).mono ?_
    rintro e w' ⟨rfl, rfl⟩
    go_wp2
    go_ret
    exact ⟨rfl, rfl⟩
theorem worth_table (k : Nat) (h : k < 7) (v : Int) (hv : ([0, 1, 3, 3, 5, 9, 0] : List Int).getD k 0 = v) : ((k : Int) = 0 ∧ v = 0) ∨ ((k : Int) = 1 ∧ v = 1) ∨ ((k : Int) = 2 ∧ v = 3) ∨ ((k : Int) = 3 ∧ v = 3) ∨ ((k : Int) = 4 ∧ v = 5) ∨ ((k : Int) = 5 ∧ v = 9) ∨ ((k : Int) = 6 ∧ v = 0) := by
  match k, h with
  | 0, _ | 1, _ | 2, _ | 3, _ | 4, _ | 5, _ | 6, _ => simp at hv; omega
theorem rworth_ord (n : Nat) (hn : n < 12) (w : World) :
    Calls Tryd.prog 15 #[.int .i64 (inOrd n)] w fun e w' => e = .returned (.int .i64 ([0, 1, 3, 3, 5, 9, 0].getD (6 - n % 6) 0)) ∧ w = w' :=
  rworth_k _ _ w _ (rkind_ord n hn) (worth_table _ (by omega) _ rfl)
theorem rworth_none (m : Int) (w : World) (hm : m < -6 ∨ m = 0 ∨ 6 < m) :
    Calls Tryd.prog 15 #[.int .i64 m] w fun e w' => e = .returned (.int .i64 0) ∧ w = w' :=
  rworth_k _ 0 w _ (fun w => rkind_no m w hm) (by omega)
theorem walkMenAre (m : Int) (w0 : (Lit.int .i64 m).wf = true) (w : World) (h : Worths w) :
    Calls Tryd.prog 3 #[.int .i64 m] w fun e w' => e = .returned (.bool true) ∧ Grown w w' := by
  clear w0
  have HW := Lib.hid h
  clear h
  by_cases hm : m < -6 ∨ m = 0 ∨ 6 < m
  · have HM := Lib.hid hm
    clear hm
    go_enter Tryd.func3, Tryd.ntmps3
    go_wp2_with fail
    refine (mwakes _).mono ?_
    rintro e w1 ⟨rfl, gw1⟩
    go_wp2_with fail
    refine (rkind_no _ _ HM.out).mono ?_
    rintro e w' ⟨rfl, rfl⟩
    go_wp2_with fail
    refine (mright_no _ _ HM.out).mono ?_
    rintro e w' ⟨rfl, rfl⟩
    go_wp2_with fail
    refine (mkind_no _ _ HM.out).mono ?_
    rintro e w' ⟨rfl, rfl⟩
    go_wp2_with fail
    refine (mside_no _ _ HM.out).mono ?_
    rintro e w' ⟨rfl, rfl⟩
    go_wp2_with fail
    refine (rside_no _ _ HM.out).mono ?_
    rintro e w' ⟨rfl, rfl⟩
    go_wp2_with fail
    refine (letter_no _ _ HM.out).mono ?_
    rintro e w2 ⟨rfl, gw2⟩
    go_wp2_with fail
    refine (rletter_no _ _ HM.out).mono ?_
    rintro e w' ⟨rfl, rfl⟩
    go_wp2_with fail
    refine (sign_no _ _ HM.out).mono ?_
    rintro e w3 ⟨rfl, gw3⟩
    go_wp2_with fail
    refine (rsign_no _ _ HM.out).mono ?_
    rintro e w' ⟨rfl, rfl⟩
    go_wp2_with fail
    refine (worth_none _ _ (worths_grown (grown_trans gw1 (grown_trans gw2 gw3)) HW.out) HM.out).mono ?_
    rintro e w' ⟨rfl, rfl⟩
    go_wp2_with fail
    refine (rworth_none _ _ HM.out).mono ?_
    rintro e w' ⟨rfl, rfl⟩
    go_wp2
    go_ret
    exact ⟨rfl, grown_trans gw1 (grown_trans gw2 gw3)⟩
  · obtain ⟨n, hn, rfl⟩ := man_inOrd m (by omega) (by omega) (by omega)
    clear hm
    have hk1 := mkind_ord n hn
    have hk2 := rkind_ord n hn
    have hq : 0 < ((6 - n % 6 : Nat) : Int) := by omega
    have hw1 := worth_ord n hn
    have hw2 := rworth_ord n hn
    generalize ((6 - n % 6 : Nat) : Int) = q at *
    generalize ([0, 1, 3, 3, 5, 9, 0] : List Int).getD (6 - n % 6) 0 = v at *
    have HK1 := Lib.hid hk1
    have HK2 := Lib.hid hk2
    have HW1 := Lib.hid hw1
    have HW2 := Lib.hid hw2
    clear hk1 hk2 hw1 hw2
    go_enter Tryd.func3, Tryd.ntmps3
    go_wp2_with fail
    refine (mwakes _).mono ?_
    rintro e w1 ⟨rfl, gw1⟩
    go_wp2_with fail
    refine (HK2.out _).mono ?_
    rintro e w' ⟨rfl, rfl⟩
    go_wp2_with fail
    refine (mright_yes _ _ (inOrd_man n hn).1 (inOrd_man n hn).2.1 (inOrd_man n hn).2.2).mono ?_
    rintro e w' ⟨rfl, rfl⟩
    go_wp2_with fail
    refine (HK1.out _).mono ?_
    rintro e w' ⟨rfl, rfl⟩
    go_wp2_with fail
    refine (mside_ord n hn _).mono ?_
    rintro e w' ⟨rfl, rfl⟩
    go_wp2_with fail
    refine (rside_ord n hn _).mono ?_
    rintro e w' ⟨rfl, rfl⟩
    go_wp2_with fail
    refine (letter_yes n hn _).mono ?_
    rintro e w2 ⟨rfl, gw2⟩
    go_wp2_with fail
    refine (rletter_yes n hn _).mono ?_
    rintro e w' ⟨rfl, rfl⟩
    go_wp2_with fail
    refine (sign_yes n hn _).mono ?_
    rintro e w3 ⟨rfl, gw3⟩
    go_wp2_with fail
    refine (rsign_yes n hn _).mono ?_
    rintro e w4 ⟨rfl, gw4⟩
    go_wp2_with fail
    refine (HW1.out _ (worths_grown (grown_trans gw1 (grown_trans gw2 (grown_trans gw3 gw4))) HW.out)).mono ?_
    rintro e w' ⟨rfl, rfl⟩
    go_wp2_with fail
    refine (HW2.out _).mono ?_
    rintro e w' ⟨rfl, rfl⟩
    go_wp2
    go_ret
    exact ⟨rfl, grown_trans gw1 (grown_trans gw2 (grown_trans gw3 gw4))⟩
end Go.Proofs.YtkkbcfemallglaaDoor
