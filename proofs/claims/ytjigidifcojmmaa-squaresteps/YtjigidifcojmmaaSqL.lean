/- The walks of the laws of squares that take numbers: SquareFlips, SquareFar, SquareSteps each return true, and leave what was there as it was. -/
import Derived.Test.YtjigidifcojmmaaSqC
namespace Go.Proofs.Ytjigidifcojmmaa
open Go.RowKit
set_option linter.unusedVariables false

def flipI (s : Int) : Int := (7 - s / 8) * 8 + s % 8
def darkB (s : Int) : Bool := (s % 8 + s / 8) % 2 == 0
theorem flipI_bd (s : Int) (h0 : 0 ≤ s) (h1 : s < 64) : 0 ≤ flipI s ∧ flipI s < 64 := by unfold flipI; omega
theorem flip_is (s : Int) (w : World) (h0 : 0 ≤ s) (h1 : s < 64) :
    Calls Try.prog 25 #[.int .i64 s] w fun e w' => e = .returned (.int .i64 (flipI s)) ∧ w = w' := flip_yes s w h0 h1
theorem file_flip (s : Int) (w : World) (h0 : 0 ≤ s) (h1 : s < 64) :
    Calls Try.prog 11 #[.int .i64 (flipI s)] w fun e w' => e = .returned (.int .i64 (s % 8)) ∧ w = w' := by
  have h := file_yes (flipI s) w (flipI_bd s h0 h1).1 (flipI_bd s h0 h1).2
  rw [show flipI s % 8 = s % 8 by unfold flipI; omega] at h
  exact h
theorem rank_flip (s : Int) (w : World) (h0 : 0 ≤ s) (h1 : s < 64) :
    Calls Try.prog 13 #[.int .i64 (flipI s)] w fun e w' => e = .returned (.int .i64 (7 - s / 8)) ∧ w = w' := by
  have h := rank_yes (flipI s) w (flipI_bd s h0 h1).1 (flipI_bd s h0 h1).2
  rw [show flipI s / 8 = 7 - s / 8 by unfold flipI; omega] at h
  exact h
theorem flip_flip (s : Int) (w : World) (h0 : 0 ≤ s) (h1 : s < 64) :
    Calls Try.prog 25 #[.int .i64 (flipI s)] w fun e w' => e = .returned (.int .i64 s) ∧ w = w' := by
  have h := flip_is (flipI s) w (flipI_bd s h0 h1).1 (flipI_bd s h0 h1).2
  rw [show flipI (flipI s) = s by unfold flipI; omega] at h
  exact h
theorem dark_is (s : Int) (w : World) (h0 : 0 ≤ s) (h1 : s < 64) :
    Calls Try.prog 26 #[.int .i64 s] w fun e w' => e = .returned (.bool (darkB s)) ∧ w = w' := dark_yes s w h0 h1
theorem darkB_flip (s : Int) (h0 : 0 ≤ s) (h1 : s < 64) : darkB (flipI s) = !darkB s := by
  have e1 : flipI s % 8 = s % 8 := by unfold flipI; omega
  have e2 : flipI s / 8 = 7 - s / 8 := by unfold flipI; omega
  unfold darkB
  rw [e1, e2, Bool.eq_iff_iff]
  generalize s % 8 = a
  generalize s / 8 = b
  simp
  omega
theorem darkB_step (s : Int) (h2 : s % 8 < 7) : darkB (s + 1) = !darkB s := by
  have e1 : (s + 1) % 8 = s % 8 + 1 := by omega
  have e2 : (s + 1) / 8 = s / 8 := by omega
  unfold darkB
  rw [e1, e2, Bool.eq_iff_iff]
  generalize s % 8 = a
  generalize s / 8 = b
  simp
  omega
theorem dark_flip (s : Int) (w : World) (h0 : 0 ≤ s) (h1 : s < 64) :
    Calls Try.prog 26 #[.int .i64 (flipI s)] w fun e w' => e = .returned (.bool (!darkB s)) ∧ w = w' := by
  have h := dark_is (flipI s) w (flipI_bd s h0 h1).1 (flipI_bd s h0 h1).2
  rw [darkB_flip s h0 h1] at h
  exact h
theorem dark_step (s : Int) (w : World) (h0 : 0 ≤ s) (h1 : s < 64) (h2 : s % 8 < 7) :
    Calls Try.prog 26 #[.int .i64 (s + 1)] w fun e w' => e = .returned (.bool (!darkB s)) ∧ w = w' := by
  have h := dark_is (s + 1) w (by omega) (by omega)
  rw [darkB_step s h2] at h
  exact h
theorem step_right (s : Int) (w : World) (h0 : 0 ≤ s) (h1 : s < 64) (h2 : s % 8 < 7) :
    Calls Try.prog 21 #[.int .i64 s, .int .i64 1, .int .i64 0] w fun e w' => e = .returned (.tuple #[.int .i64 (s + 1), .bool true]) ∧ w = w' := by
  have h := step_yes s 1 0 w h0 h1 (by omega) (by omega) (by omega) (by omega)
  rw [show (s / 8 + 0) * 8 + (s % 8 + 1) = s + 1 by omega] at h
  exact h
theorem step_edge (s : Int) (w : World) (h0 : 0 ≤ s) (h1 : s < 64) (h2 : 7 ≤ s % 8) :
    Calls Try.prog 21 #[.int .i64 s, .int .i64 1, .int .i64 0] w fun e w' => e = .returned (.tuple #[.int .i64 0, .bool false]) ∧ w = w' :=
  step_no s 1 0 w h0 h1 (by decide) (by decide) (by omega)

theorem walkSquareFlips (s : Int) (w0 : (Lit.int .i64 s).wf = true) (w : World) :
    Calls Try.prog 7 #[.int .i64 s] w fun e w' => e = .returned (.bool true) ∧ Grown w w' := by
  clear w0
  by_cases hs : s < 0 ∨ 64 ≤ s
  · go_enter Try.func7, Try.ntmps7
    go_wp2_with fail
    refine (wakes _).mono ?_
    rintro e w1 ⟨rfl, gw1⟩
    go_wp2_with fail
    refine (flip_no _ _ hs).mono ?_
    rintro e w' ⟨rfl, rfl⟩
    go_wp2_with fail
    refine (rright_no _ _ hs).mono ?_
    rintro e w' ⟨rfl, rfl⟩
    go_wp2_with fail
    refine (dark_no _ _ hs).mono ?_
    rintro e w' ⟨rfl, rfl⟩
    go_wp2
    go_ret
    exact ⟨rfl, gw1⟩
  · have h0 : 0 ≤ s := by omega
    have h1 : s < 64 := by omega
    clear hs
    have t1 : (7 - s / 8 + s / 8 != 7) = false := by rw [bne_eq_false_iff_eq]; omega
    have t2 : ((s % 8 + s / 8) % 2 == 0) = darkB s := rfl
    by_cases h7 : s % 8 < 7
    · go_enter Try.func7, Try.ntmps7
      go_wp2_with fail
      refine (wakes _).mono ?_
      rintro e w1 ⟨rfl, gw1⟩
      go_wp2_with fail
      refine (flip_is _ _ h0 h1).mono ?_
      rintro e w' ⟨rfl, rfl⟩
      go_wp2_with fail
      refine (rright_yes _ _ h0 h1).mono ?_
      rintro e w' ⟨rfl, rfl⟩
      go_wp2_with fail
      refine (file_flip _ _ h0 h1).mono ?_
      rintro e w' ⟨rfl, rfl⟩
      go_wp2_with fail
      refine (file_yes _ _ h0 h1).mono ?_
      rintro e w' ⟨rfl, rfl⟩
      go_wp2_with fail
      refine (rank_flip _ _ h0 h1).mono ?_
      rintro e w' ⟨rfl, rfl⟩
      go_wp2_with fail
      refine (rank_yes _ _ h0 h1).mono ?_
      rintro e w' ⟨rfl, rfl⟩
      go_wp2_with fail
      refine (flip_flip _ _ h0 h1).mono ?_
      rintro e w' ⟨rfl, rfl⟩
      go_wp2_with fail
      refine (dark_flip _ _ h0 h1).mono ?_
      rintro e w' ⟨rfl, rfl⟩
      go_wp2_with fail
      refine (dark_is _ _ h0 h1).mono ?_
      rintro e w' ⟨rfl, rfl⟩
      go_wp2_with fail
      refine (step_right _ _ h0 h1 h7).mono ?_
      rintro e w' ⟨rfl, rfl⟩
      go_wp2_with fail
      refine (dark_step _ _ h0 h1 h7).mono ?_
      rintro e w' ⟨rfl, rfl⟩
      go_wp2_with fail
      refine (dark_is _ _ h0 h1).mono ?_
      rintro e w' ⟨rfl, rfl⟩
      go_wp2_with fail
      refine (dark_is _ _ h0 h1).mono ?_
      rintro e w' ⟨rfl, rfl⟩
      go_wp2_with fail
      refine (rfile_yes _ _ h0 h1).mono ?_
      rintro e w' ⟨rfl, rfl⟩
      go_wp2_with fail
      refine (rrank_yes _ _ h0 h1).mono ?_
      rintro e w' ⟨rfl, rfl⟩
      go_wp2
      go_ret
      exact ⟨by simp, gw1⟩
    · go_enter Try.func7, Try.ntmps7
      go_wp2_with fail
      refine (wakes _).mono ?_
      rintro e w1 ⟨rfl, gw1⟩
      go_wp2_with fail
      refine (flip_is _ _ h0 h1).mono ?_
      rintro e w' ⟨rfl, rfl⟩
      go_wp2_with fail
      refine (rright_yes _ _ h0 h1).mono ?_
      rintro e w' ⟨rfl, rfl⟩
      go_wp2_with fail
      refine (file_flip _ _ h0 h1).mono ?_
      rintro e w' ⟨rfl, rfl⟩
      go_wp2_with fail
      refine (file_yes _ _ h0 h1).mono ?_
      rintro e w' ⟨rfl, rfl⟩
      go_wp2_with fail
      refine (rank_flip _ _ h0 h1).mono ?_
      rintro e w' ⟨rfl, rfl⟩
      go_wp2_with fail
      refine (rank_yes _ _ h0 h1).mono ?_
      rintro e w' ⟨rfl, rfl⟩
      go_wp2_with fail
      refine (flip_flip _ _ h0 h1).mono ?_
      rintro e w' ⟨rfl, rfl⟩
      go_wp2_with fail
      refine (dark_flip _ _ h0 h1).mono ?_
      rintro e w' ⟨rfl, rfl⟩
      go_wp2_with fail
      refine (dark_is _ _ h0 h1).mono ?_
      rintro e w' ⟨rfl, rfl⟩
      go_wp2_with fail
      refine (step_edge _ _ h0 h1 h7).mono ?_
      rintro e w' ⟨rfl, rfl⟩
      go_wp2_with fail
      refine (dark_is _ _ h0 h1).mono ?_
      rintro e w' ⟨rfl, rfl⟩
      go_wp2_with fail
      refine (rfile_yes _ _ h0 h1).mono ?_
      rintro e w' ⟨rfl, rfl⟩
      go_wp2_with fail
      refine (rrank_yes _ _ h0 h1).mono ?_
      rintro e w' ⟨rfl, rfl⟩
      go_wp2
      go_ret
      exact ⟨by simp, gw1⟩

/-- The distance of any two numbers: -1, if either is no square. -/
def farT (a b : Int) : Int := if 0 ≤ a ∧ a < 64 ∧ 0 ≤ b ∧ b < 64 then farI a b else -1
theorem farT_bd (a b : Int) : -1 ≤ farT a b ∧ farT a b ≤ 7 := by unfold farT farI; split <;> omega
theorem farT_symm (a b : Int) : farT a b = farT b a := by unfold farT farI; split <;> split <;> omega
theorem farI_ge (a b : Int) : a % 8 - b % 8 ≤ farI a b ∧ b % 8 - a % 8 ≤ farI a b ∧ a / 8 - b / 8 ≤ farI a b ∧ b / 8 - a / 8 ≤ farI a b := by unfold farI; omega
theorem farI_tri (a b c : Int) : farI a b ≤ farI a c + farI c b := by
  have h1 := farI_ge a c
  have h2 := farI_ge c b
  generalize farI a c = x at *
  generalize farI c b = y at *
  unfold farI
  generalize a % 8 = a1 at *
  generalize b % 8 = b1 at *
  generalize c % 8 = c1 at *
  generalize a / 8 = a2 at *
  generalize b / 8 = b2 at *
  generalize c / 8 = c2 at *
  omega
theorem farT_tri (a b c : Int) : farT a b < 0 ∨ farT a c < 0 ∨ farT c b < 0 ∨ farT a b ≤ farT a c + farT c b := by
  have h := farI_tri a b c
  unfold farT
  by_cases ha : 0 ≤ a ∧ a < 64
  · by_cases hb : 0 ≤ b ∧ b < 64
    · by_cases hc : 0 ≤ c ∧ c < 64
      · rw [if_pos (by omega), if_pos (by omega), if_pos (by omega)]; exact .inr (.inr (.inr h))
      · rw [if_neg (c := 0 ≤ a ∧ a < 64 ∧ 0 ≤ c ∧ c < 64) (by omega)]; exact .inr (.inl (by omega))
    · rw [if_neg (c := 0 ≤ a ∧ a < 64 ∧ 0 ≤ b ∧ b < 64) (by omega)]; exact .inl (by omega)
  · rw [if_neg (c := 0 ≤ a ∧ a < 64 ∧ 0 ≤ b ∧ b < 64) (by omega)]; exact .inl (by omega)
theorem far_any (a b : Int) (w : World) :
    Calls Try.prog 23 #[.int .i64 a, .int .i64 b] w fun e w' => e = .returned (.int .i64 (farT a b)) ∧ w = w' := by
  by_cases h : 0 ≤ a ∧ a < 64 ∧ 0 ≤ b ∧ b < 64
  · unfold farT; rw [if_pos h]; exact far_yes a b w h.1 h.2.1 h.2.2.1 h.2.2.2
  · unfold farT; rw [if_neg h]; exact far_no a b w (by omega)
theorem rfar_any (a b : Int) (w : World) :
    Calls Try.prog 24 #[.int .i64 a, .int .i64 b] w fun e w' => e = .returned (.int .i64 (farT a b)) ∧ w = w' := by
  by_cases h : 0 ≤ a ∧ a < 64 ∧ 0 ≤ b ∧ b < 64
  · unfold farT; rw [if_pos h]; exact rfar_yes a b w h.1 h.2.1 h.2.2.1 h.2.2.2
  · unfold farT; rw [if_neg h]; exact rfar_no a b w (by omega)
theorem far_back (a b : Int) (w : World) :
    Calls Try.prog 23 #[.int .i64 b, .int .i64 a] w fun e w' => e = .returned (.int .i64 (farT a b)) ∧ w = w' := by
  rw [farT_symm a b]; exact far_any b a w
theorem walkSquareFar (a b c : Int) (w0 : (Lit.int .i64 a).wf = true) (w1 : (Lit.int .i64 b).wf = true) (w2 : (Lit.int .i64 c).wf = true) (w : World) :
    Calls Try.prog 6 #[.int .i64 a, .int .i64 b, .int .i64 c] w fun e w' => e = .returned (.bool true) ∧ Grown w w' := by
  clear w0 w1 w2
  obtain ⟨n0, n1⟩ := farT_bd a b
  obtain ⟨x0, x1⟩ := farT_bd a c
  obtain ⟨y0, y1⟩ := farT_bd c b
  have tri := farT_tri a b c
  by_cases hn : farT a b < 0
  · clear tri
    go_enter Try.func6, Try.ntmps6
    go_wp2_with fail
    refine (wakes _).mono ?_
    rintro e w1 ⟨rfl, gw1⟩
    go_wp2_with fail
    refine (far_any _ _ _).mono ?_
    rintro e w' ⟨rfl, rfl⟩
    go_wp2_with fail
    refine (rfar_any _ _ _).mono ?_
    rintro e w' ⟨rfl, rfl⟩
    go_wp2_with fail
    refine (far_back _ _ _).mono ?_
    rintro e w' ⟨rfl, rfl⟩
    go_wp2_with fail
    refine (far_any _ _ _).mono ?_
    rintro e w' ⟨rfl, rfl⟩
    go_wp2_with fail
    refine (far_any _ _ _).mono ?_
    rintro e w' ⟨rfl, rfl⟩
    go_wp2
    go_ret
    exact ⟨rfl, gw1⟩
  · by_cases hx : farT a c < 0
    · clear tri
      go_enter Try.func6, Try.ntmps6
      go_wp2_with fail
      refine (wakes _).mono ?_
      rintro e w1 ⟨rfl, gw1⟩
      go_wp2_with fail
      refine (far_any _ _ _).mono ?_
      rintro e w' ⟨rfl, rfl⟩
      go_wp2_with fail
      refine (rfar_any _ _ _).mono ?_
      rintro e w' ⟨rfl, rfl⟩
      go_wp2_with fail
      refine (far_back _ _ _).mono ?_
      rintro e w' ⟨rfl, rfl⟩
      go_wp2_with fail
      refine (far_any _ _ _).mono ?_
      rintro e w' ⟨rfl, rfl⟩
      go_wp2_with fail
      refine (far_any _ _ _).mono ?_
      rintro e w' ⟨rfl, rfl⟩
      go_wp2
      go_ret
      exact ⟨rfl, gw1⟩
    · by_cases hy : farT c b < 0
      · clear tri
        go_enter Try.func6, Try.ntmps6
        go_wp2_with fail
        refine (wakes _).mono ?_
        rintro e w1 ⟨rfl, gw1⟩
        go_wp2_with fail
        refine (far_any _ _ _).mono ?_
        rintro e w' ⟨rfl, rfl⟩
        go_wp2_with fail
        refine (rfar_any _ _ _).mono ?_
        rintro e w' ⟨rfl, rfl⟩
        go_wp2_with fail
        refine (far_back _ _ _).mono ?_
        rintro e w' ⟨rfl, rfl⟩
        go_wp2_with fail
        refine (far_any _ _ _).mono ?_
        rintro e w' ⟨rfl, rfl⟩
        go_wp2_with fail
        refine (far_any _ _ _).mono ?_
        rintro e w' ⟨rfl, rfl⟩
        go_wp2
        go_ret
        exact ⟨rfl, gw1⟩
      · have hle : farT a b ≤ farT a c + farT c b := by omega
        clear tri
        go_enter Try.func6, Try.ntmps6
        go_wp2_with fail
        refine (wakes _).mono ?_
        rintro e w1 ⟨rfl, gw1⟩
        go_wp2_with fail
        refine (far_any _ _ _).mono ?_
        rintro e w' ⟨rfl, rfl⟩
        go_wp2_with fail
        refine (rfar_any _ _ _).mono ?_
        rintro e w' ⟨rfl, rfl⟩
        go_wp2_with fail
        refine (far_back _ _ _).mono ?_
        rintro e w' ⟨rfl, rfl⟩
        go_wp2_with fail
        refine (far_any _ _ _).mono ?_
        rintro e w' ⟨rfl, rfl⟩
        go_wp2_with fail
        refine (far_any _ _ _).mono ?_
        rintro e w' ⟨rfl, rfl⟩
        go_wp2
        go_ret
        exact ⟨rfl, gw1⟩

theorem step_back (s f r : Int) (w : World) (h0 : 0 ≤ s) (h1 : s < 64) (f0 : 0 ≤ s % 8 + f) (f1 : s % 8 + f < 8) (r0 : 0 ≤ s / 8 + r) (r1 : s / 8 + r < 8) :
    Calls Try.prog 21 #[.int .i64 ((s / 8 + r) * 8 + (s % 8 + f)), .int .i64 (-f), .int .i64 (-r)] w fun e w' => e = .returned (.tuple #[.int .i64 s, .bool true]) ∧ w = w' := by
  have e1 : ((s / 8 + r) * 8 + (s % 8 + f)) % 8 = s % 8 + f := by omega
  have e2 : ((s / 8 + r) * 8 + (s % 8 + f)) / 8 = s / 8 + r := by omega
  have h := step_yes ((s / 8 + r) * 8 + (s % 8 + f)) (-f) (-r) w (by omega) (by omega) (by omega) (by omega) (by omega) (by omega)
  rw [e1, e2, show (s / 8 + r + -r) * 8 + (s % 8 + f + -f) = s by omega] at h
  exact h
theorem walkSquareSteps1 (s f r : Int) (wf : (Lit.int .i64 f).wf = true) (wr : (Lit.int .i64 r).wf = true) (w : World) (a0 : 0 ≤ f) (a1 : f < 8) (a2 : 0 ≤ r) (a3 : r < 8) (hS : s < 0 ∨ 64 ≤ s) :
    Calls Try.prog 5 #[.int .i64 s, .int .i64 f, .int .i64 r] w fun e w' => e = .returned (.bool true) ∧ Grown w w' := by
  have WF := Lib.hid wf
  have WR := Lib.hid wr
  clear wf wr
  have HS := Lib.hid hS
  clear hS
  go_enter Try.func5, Try.ntmps5
  go_wp2_with fail
  refine (wakes _).mono ?_
  rintro e w1 ⟨rfl, gw1⟩
  go_wp2_with fail
  refine (at_yes _ _ _ a0 a1 a2 a3).mono ?_
  rintro e w' ⟨rfl, rfl⟩
  go_wp2_with fail
  refine (rfind_yes _ _ _ a0 a1 a2 a3).mono ?_
  rintro e w' ⟨rfl, rfl⟩
  go_wp2_with fail
  refine (step_off _ _ _ _ HS.out).mono ?_
  rintro e w' ⟨rfl, rfl⟩
  go_wp2_with fail
  refine (rstep_off _ _ _ _ HS.out).mono ?_
  rintro e w' ⟨rfl, rfl⟩
  go_wp2
  go_ret
  exact ⟨rfl, gw1⟩
theorem walkSquareSteps2 (s f r : Int) (wf : (Lit.int .i64 f).wf = true) (wr : (Lit.int .i64 r).wf = true) (w : World) (a0 : 0 ≤ f) (a1 : f < 8) (a2 : 0 ≤ r) (a3 : r < 8) (h0 : 0 ≤ s) (h1 : s < 64) (f0 : 0 ≤ s % 8 + f) (f1 : s % 8 + f < 8) (r0 : 0 ≤ s / 8 + r) (r1 : s / 8 + r < 8) :
    Calls Try.prog 5 #[.int .i64 s, .int .i64 f, .int .i64 r] w fun e w' => e = .returned (.bool true) ∧ Grown w w' := by
  have WF := Lib.hid wf
  have WR := Lib.hid wr
  clear wf wr
  go_enter Try.func5, Try.ntmps5
  go_wp2_with fail
  refine (wakes _).mono ?_
  rintro e w1 ⟨rfl, gw1⟩
  go_wp2_with fail
  refine (at_yes _ _ _ a0 a1 a2 a3).mono ?_
  rintro e w' ⟨rfl, rfl⟩
  go_wp2_with fail
  refine (rfind_yes _ _ _ a0 a1 a2 a3).mono ?_
  rintro e w' ⟨rfl, rfl⟩
  go_wp2_with fail
  refine (step_yes _ _ _ _ h0 h1 f0 f1 r0 r1).mono ?_
  rintro e w' ⟨rfl, rfl⟩
  go_wp2_with fail
  refine (rstep_yes _ _ _ _ h0 h1 f0 f1 r0 r1).mono ?_
  rintro e w' ⟨rfl, rfl⟩
  go_wp2_with fail
  refine (step_back _ _ _ _ h0 h1 f0 f1 r0 r1).mono ?_
  rintro e w' ⟨rfl, rfl⟩
  go_wp2
  go_ret
  exact ⟨rfl, gw1⟩
theorem walkSquareSteps3 (s f r : Int) (wf : (Lit.int .i64 f).wf = true) (wr : (Lit.int .i64 r).wf = true) (w : World) (a0 : 0 ≤ f) (a1 : f < 8) (a2 : 0 ≤ r) (a3 : r < 8) (h0 : 0 ≤ s) (h1 : s < 64) (hS : s % 8 + f < 0 ∨ 8 ≤ s % 8 + f ∨ s / 8 + r < 0 ∨ 8 ≤ s / 8 + r) :
    Calls Try.prog 5 #[.int .i64 s, .int .i64 f, .int .i64 r] w fun e w' => e = .returned (.bool true) ∧ Grown w w' := by
  have WF := Lib.hid wf
  have WR := Lib.hid wr
  clear wf wr
  have HS := Lib.hid hS
  clear hS
  go_enter Try.func5, Try.ntmps5
  go_wp2_with fail
  refine (wakes _).mono ?_
  rintro e w1 ⟨rfl, gw1⟩
  go_wp2_with fail
  refine (at_yes _ _ _ a0 a1 a2 a3).mono ?_
  rintro e w' ⟨rfl, rfl⟩
  go_wp2_with fail
  refine (rfind_yes _ _ _ a0 a1 a2 a3).mono ?_
  rintro e w' ⟨rfl, rfl⟩
  go_wp2_with fail
  refine (step_no _ _ _ _ h0 h1 WF.out WR.out HS.out).mono ?_
  rintro e w' ⟨rfl, rfl⟩
  go_wp2_with fail
  refine (rstep_no _ _ _ _ h0 h1 HS.out).mono ?_
  rintro e w' ⟨rfl, rfl⟩
  go_wp2
  go_ret
  exact ⟨rfl, gw1⟩
theorem walkSquareSteps4 (s f r : Int) (wf : (Lit.int .i64 f).wf = true) (wr : (Lit.int .i64 r).wf = true) (w : World) (hA : f < 0 ∨ 8 ≤ f ∨ r < 0 ∨ 8 ≤ r) (hS : s < 0 ∨ 64 ≤ s) :
    Calls Try.prog 5 #[.int .i64 s, .int .i64 f, .int .i64 r] w fun e w' => e = .returned (.bool true) ∧ Grown w w' := by
  have WF := Lib.hid wf
  have WR := Lib.hid wr
  clear wf wr
  have HA := Lib.hid hA
  clear hA
  have HS := Lib.hid hS
  clear hS
  go_enter Try.func5, Try.ntmps5
  go_wp2_with fail
  refine (wakes _).mono ?_
  rintro e w1 ⟨rfl, gw1⟩
  go_wp2_with fail
  refine (at_no _ _ _ HA.out).mono ?_
  rintro e w' ⟨rfl, rfl⟩
  go_wp2_with fail
  refine (rfind_no _ _ _ HA.out).mono ?_
  rintro e w' ⟨rfl, rfl⟩
  go_wp2_with fail
  refine (step_off _ _ _ _ HS.out).mono ?_
  rintro e w' ⟨rfl, rfl⟩
  go_wp2_with fail
  refine (rstep_off _ _ _ _ HS.out).mono ?_
  rintro e w' ⟨rfl, rfl⟩
  go_wp2
  go_ret
  exact ⟨rfl, gw1⟩
theorem walkSquareSteps5 (s f r : Int) (wf : (Lit.int .i64 f).wf = true) (wr : (Lit.int .i64 r).wf = true) (w : World) (hA : f < 0 ∨ 8 ≤ f ∨ r < 0 ∨ 8 ≤ r) (h0 : 0 ≤ s) (h1 : s < 64) (f0 : 0 ≤ s % 8 + f) (f1 : s % 8 + f < 8) (r0 : 0 ≤ s / 8 + r) (r1 : s / 8 + r < 8) :
    Calls Try.prog 5 #[.int .i64 s, .int .i64 f, .int .i64 r] w fun e w' => e = .returned (.bool true) ∧ Grown w w' := by
  have WF := Lib.hid wf
  have WR := Lib.hid wr
  clear wf wr
  have HA := Lib.hid hA
  clear hA
  go_enter Try.func5, Try.ntmps5
  go_wp2_with fail
  refine (wakes _).mono ?_
  rintro e w1 ⟨rfl, gw1⟩
  go_wp2_with fail
  refine (at_no _ _ _ HA.out).mono ?_
  rintro e w' ⟨rfl, rfl⟩
  go_wp2_with fail
  refine (rfind_no _ _ _ HA.out).mono ?_
  rintro e w' ⟨rfl, rfl⟩
  go_wp2_with fail
  refine (step_yes _ _ _ _ h0 h1 f0 f1 r0 r1).mono ?_
  rintro e w' ⟨rfl, rfl⟩
  go_wp2_with fail
  refine (rstep_yes _ _ _ _ h0 h1 f0 f1 r0 r1).mono ?_
  rintro e w' ⟨rfl, rfl⟩
  go_wp2_with fail
  refine (step_back _ _ _ _ h0 h1 f0 f1 r0 r1).mono ?_
  rintro e w' ⟨rfl, rfl⟩
  go_wp2
  go_ret
  exact ⟨rfl, gw1⟩
theorem walkSquareSteps6 (s f r : Int) (wf : (Lit.int .i64 f).wf = true) (wr : (Lit.int .i64 r).wf = true) (w : World) (hA : f < 0 ∨ 8 ≤ f ∨ r < 0 ∨ 8 ≤ r) (h0 : 0 ≤ s) (h1 : s < 64) (hS : s % 8 + f < 0 ∨ 8 ≤ s % 8 + f ∨ s / 8 + r < 0 ∨ 8 ≤ s / 8 + r) :
    Calls Try.prog 5 #[.int .i64 s, .int .i64 f, .int .i64 r] w fun e w' => e = .returned (.bool true) ∧ Grown w w' := by
  have WF := Lib.hid wf
  have WR := Lib.hid wr
  clear wf wr
  have HA := Lib.hid hA
  clear hA
  have HS := Lib.hid hS
  clear hS
  go_enter Try.func5, Try.ntmps5
  go_wp2_with fail
  refine (wakes _).mono ?_
  rintro e w1 ⟨rfl, gw1⟩
  go_wp2_with fail
  refine (at_no _ _ _ HA.out).mono ?_
  rintro e w' ⟨rfl, rfl⟩
  go_wp2_with fail
  refine (rfind_no _ _ _ HA.out).mono ?_
  rintro e w' ⟨rfl, rfl⟩
  go_wp2_with fail
  refine (step_no _ _ _ _ h0 h1 WF.out WR.out HS.out).mono ?_
  rintro e w' ⟨rfl, rfl⟩
  go_wp2_with fail
  refine (rstep_no _ _ _ _ h0 h1 HS.out).mono ?_
  rintro e w' ⟨rfl, rfl⟩
  go_wp2
  go_ret
  exact ⟨rfl, gw1⟩
theorem walkSquareSteps (s f r : Int) (w0 : (Lit.int .i64 s).wf = true) (w1 : (Lit.int .i64 f).wf = true) (w2 : (Lit.int .i64 r).wf = true) (w : World) :
    Calls Try.prog 5 #[.int .i64 s, .int .i64 f, .int .i64 r] w fun e w' => e = .returned (.bool true) ∧ Grown w w' := by
  by_cases hA : f < 0 ∨ 8 ≤ f ∨ r < 0 ∨ 8 ≤ r
  · by_cases hS : s < 0 ∨ 64 ≤ s
    · exact walkSquareSteps4 s f r w1 w2 w hA hS
    · by_cases hT : s % 8 + f < 0 ∨ 8 ≤ s % 8 + f ∨ s / 8 + r < 0 ∨ 8 ≤ s / 8 + r
      · exact walkSquareSteps6 s f r w1 w2 w hA (by omega) (by omega) hT
      · exact walkSquareSteps5 s f r w1 w2 w hA (by omega) (by omega) (by omega) (by omega) (by omega) (by omega)
  · by_cases hS : s < 0 ∨ 64 ≤ s
    · exact walkSquareSteps1 s f r w1 w2 w (by omega) (by omega) (by omega) (by omega) hS
    · by_cases hT : s % 8 + f < 0 ∨ 8 ≤ s % 8 + f ∨ s / 8 + r < 0 ∨ 8 ≤ s / 8 + r
      · exact walkSquareSteps3 s f r w1 w2 w (by omega) (by omega) (by omega) (by omega) (by omega) (by omega) hT
      · exact walkSquareSteps2 s f r w1 w2 w (by omega) (by omega) (by omega) (by omega) (by omega) (by omega) (by omega) (by omega) (by omega) (by omega)
end Go.Proofs.Ytjigidifcojmmaa
