/- Ways: steps, the way back, who reaches how far. -/
import Derived.Test.YtkliefojegjhhaaDoorRaS
import Derived.Test.YtkliefojegjhhaaDoorAtM
namespace Go.Proofs.YtkliefojegjhhaaDoor
open Go.RowKit
set_option linter.unusedVariables false
set_option linter.unusedSimpArgs false

theorem wayF_wf (way : Nat) (h : way < 16) : (Lit.int .i64 (wayF way)).wf = true ∧ (Lit.int .i64 (wayR way)).wf = true := by
  have : ∀ i : Fin 16, (Lit.int .i64 (wayF i)).wf = true ∧ (Lit.int .i64 (wayR i)).wf = true := by decide +kernel
  exact this ⟨way, h⟩
theorem wright_yes (way : Nat) (h : way < 16) (w : World) : Calls Tryd.prog 61 #[.int .i64 way] w fun e w' => e = .returned (.bool true) ∧ w = w' := by
  have h1 : (0 : Int) ≤ (way : Int) := by omega
  have h2 : (way : Int) < 16 := by omega
  go_enter Tryd.func61, Tryd.ntmps61
  go_wp2
  go_ret
  exact ⟨rfl, rfl⟩
theorem wstep_is (way : Nat) (h : way < 16) (w : World) (hS : Steps w) :
    Calls Tryd.prog 59 #[.int .i64 way] w fun e w' => e = .returned (.tuple #[.int .i64 (wayF way), .int .i64 (wayR way)]) ∧ Kept w w' := by
  obtain ⟨hc1, hc2⟩ := hS way h
  have h1 : (0 : Int) ≤ (way : Int) := by omega
  have h2 : (way : Int) < 16 := by omega
  generalize wayF way = x at *
  generalize wayR way = y at *
  clear hS
  go_enter Tryd.func59, Tryd.ntmps59
  go_wp2_with fail
  refine (wright_yes way h _).mono ?_
  rintro e w' ⟨rfl, rfl⟩
  go_wp2
  go_quiet (fail)
  go_wp2
  go_ret2
  exact ⟨rfl, (Kept.refl w).drewN _⟩
theorem wback_is (way : Nat) (h : way < 16) (w : World) : Calls Tryd.prog 74 #[.int .i64 way] w fun e w' => e = .returned (.int .i64 (backW way : Nat)) ∧ w = w' := by
  have : ∀ i : Fin 16, ∀ w : World, Calls Tryd.prog 74 #[.int .i64 ((i : Nat) : Int)] w fun e w' => e = .returned (.int .i64 (backW i : Nat)) ∧ w = w' := by
    intro i w
    have hi := i.isLt
    rcases i with ⟨i, h⟩
    have hw : i < 4 ∨ (4 ≤ i ∧ i < 8) ∨ 8 ≤ i := by omega
    have e : ((backW i : Nat) : Int) = if i < 4 then ((i : Int) + 2) % 4 else if i < 8 then 4 + ((i : Int) + 2) % 4 else 8 + ((i : Int) + 4) % 8 := by
      unfold backW
      split
      · omega
      · split <;> omega
    have h16 : (i : Int) < 16 := by omega
    show Calls Tryd.prog 74 #[.int .i64 (i : Int)] w fun e w' => e = .returned (.int .i64 (backW i : Nat)) ∧ w = w'
    generalize backW i = b at *
    rcases hw with h1 | ⟨h1, h2⟩ | h1
    · rw [if_pos h1] at e
      have h1' : (i : Int) < 4 := by omega
      have q : Int.tmod ((i : Int) + 2) 4 = (b : Int) := by rw [e, Int.tmod_eq_emod_of_nonneg (by omega)]
      have HQ := Lib.hid e
      clear e
      go_enter Tryd.func74, Tryd.ntmps74
      go_wp2_with fail
      refine (wright_yes i h _).mono ?_
      rintro e w' ⟨rfl, rfl⟩
      go_wp2
      go_ret
      exact ⟨by rw [HQ.out]; rfl, rfl⟩
    · rw [if_neg (by omega), if_pos h2] at e
      have h1' : ¬ (i : Int) < 4 := by omega
      have h2' : (i : Int) < 8 := by omega
      have HQ := Lib.hid e
      clear e
      go_enter Tryd.func74, Tryd.ntmps74
      go_wp2_with fail
      refine (wright_yes i h _).mono ?_
      rintro e w' ⟨rfl, rfl⟩
      go_wp2
      go_ret
      exact ⟨by rw [HQ.out]; rfl, rfl⟩
    · rw [if_neg (by omega), if_neg (by omega)] at e
      have h1' : ¬ (i : Int) < 4 := by omega
      have h2' : ¬ (i : Int) < 8 := by omega
      have HQ := Lib.hid e
      clear e
      go_enter Tryd.func74, Tryd.ntmps74
      go_wp2_with fail
      refine (wright_yes i h _).mono ?_
      rintro e w' ⟨rfl, rfl⟩
      go_wp2
      go_ret
      exact ⟨by rw [HQ.out]; rfl, rfl⟩
  exact this ⟨way, h⟩ w
/-- A pawn reaches. -/
theorem wreach_pawn (m : Int) (way far : Nat) (h : way < 16) (hf : 1 ≤ far) (hf2 : far ≤ 1000) (w : World) (hS : Steps w) (hm : knd m = 1) :
    Calls Tryd.prog 35 #[.int .i64 m, .int .i64 way, .int .i64 far] w fun e w' => e = .returned (.bool (reachB m way far)) ∧ ∃ d, w' = w.drewN d := by
  have hk := Lib.hid (mknd_any m)
  have hp := knd_pawn hm
  have hc := (hS way h).2
  have e : reachB m way far = ((decide (4 ≤ way ∧ way < 8) && wayR way == (if m < 0 then -1 else 1)) && (far == 1)) := by
    unfold reachB goesB slidesB
    rw [hm]
    simp
  rw [hm] at hk
  have hW : (way : Int) < 16 := by omega
  have hW0 : (0 : Int) ≤ (way : Int) := by omega
  have hF : ¬ (far : Int) < 1 := by omega
  generalize wayR way = y at *
  generalize reachB m way far = b at *
  clear hm hS
  by_cases hfar : far = 1
  · subst hfar
    by_cases h1 : 4 ≤ way
    · have h1' : (4 : Int) ≤ (way : Int) := by omega
      by_cases h2 : way < 8
      · have h2' : (way : Int) < 8 := by omega
        rcases hp with rfl | rfl
        · have HE := Lib.hid (show b = (y == 1) by rw [e]; simp [h1, h2])
          clear e
          go_enter Tryd.func35, Tryd.ntmps35
          go_wp2_with fail
          refine (wright_yes way h _).mono ?_
          rintro e w' ⟨rfl, rfl⟩
          go_wp2_with fail
          refine (hk.out _).mono ?_
          rintro e w' ⟨rfl, rfl⟩
          go_wp2
          go_quiet (first | (go_at_call 57; exact quiet_same (mside_w 1 _ (by omega) (by omega))) | (go_at_call 62; exact quiet_same (ahead_w _)))
          go_wp2
          go_ret
          exact ⟨by rw [HE.out]; rfl, _, rfl⟩
        · have HE := Lib.hid (show b = (y == -1) by rw [e]; simp [h1, h2])
          clear e
          go_enter Tryd.func35, Tryd.ntmps35
          go_wp2_with fail
          refine (wright_yes way h _).mono ?_
          rintro e w' ⟨rfl, rfl⟩
          go_wp2_with fail
          refine (hk.out _).mono ?_
          rintro e w' ⟨rfl, rfl⟩
          go_wp2
          go_quiet (first | (go_at_call 57; exact quiet_same (mside_b (-1) _ (by omega) (by omega))) | (go_at_call 62; exact quiet_same (ahead_b _)))
          go_wp2
          go_ret
          exact ⟨by rw [HE.out]; rfl, _, rfl⟩
      · have h2' : decide ((way : Int) < 8) = false := by simp; omega
        have HE := Lib.hid (show b = false by rw [e]; simp; omega)
        clear e
        go_enter Tryd.func35, Tryd.ntmps35
        go_wp2_with fail
        refine (wright_yes way h _).mono ?_
        rintro e w' ⟨rfl, rfl⟩
        go_wp2_with fail
        refine (hk.out _).mono ?_
        rintro e w' ⟨rfl, rfl⟩
        go_wp2
        go_quiet (fail)
        go_wp2
        go_ret
        exact ⟨by rw [HE.out]; rfl, _, rfl⟩
    · have h1' : ¬ (4 : Int) ≤ (way : Int) := by omega
      have HE := Lib.hid (show b = false by rw [e]; simp; omega)
      clear e
      go_enter Tryd.func35, Tryd.ntmps35
      go_wp2_with fail
      refine (wright_yes way h _).mono ?_
      rintro e w' ⟨rfl, rfl⟩
      go_wp2_with fail
      refine (hk.out _).mono ?_
      rintro e w' ⟨rfl, rfl⟩
      go_wp2
      go_quiet (fail)
      go_wp2
      go_ret
      exact ⟨by rw [HE.out]; rfl, _, rfl⟩
  · have hfar' : ((far : Int) == 1) = false := by simp; omega
    have HE := Lib.hid (show b = false by rw [e]; simp; omega)
    clear e hfar
    by_cases h1 : 4 ≤ way
    · have h1' : (4 : Int) ≤ (way : Int) := by omega
      go_enter Tryd.func35, Tryd.ntmps35
      go_wp2_with fail
      refine (wright_yes way h _).mono ?_
      rintro e w' ⟨rfl, rfl⟩
      go_wp2_with fail
      refine (hk.out _).mono ?_
      rintro e w' ⟨rfl, rfl⟩
      go_wp2
      go_quiet (fail)
      go_wp2
      go_ret
      exact ⟨by rw [HE.out]; rfl, _, rfl⟩
    · have h1' : ¬ (4 : Int) ≤ (way : Int) := by omega
      go_enter Tryd.func35, Tryd.ntmps35
      go_wp2_with fail
      refine (wright_yes way h _).mono ?_
      rintro e w' ⟨rfl, rfl⟩
      go_wp2_with fail
      refine (hk.out _).mono ?_
      rintro e w' ⟨rfl, rfl⟩
      go_wp2
      go_quiet (fail)
      go_wp2
      go_ret
      exact ⟨by rw [HE.out]; rfl, _, rfl⟩
set_option maxHeartbeats 2000000 in
theorem wreach_q (m : Int) (way far : Nat) (h : way < 16) (hf : 1 ≤ far) (hf2 : far ≤ 1000) (w : World) (hS : Steps w) :
    Calls Tryd.prog 35 #[.int .i64 m, .int .i64 way, .int .i64 far] w fun e w' => e = .returned (.bool (reachB m way far)) ∧ ∃ d, w' = w.drewN d := by
  by_cases hm : knd m = 1
  · exact wreach_pawn m way far h hf hf2 w hS hm
  have hk := Lib.hid (mknd_any m)
  have hq := knd_is m
  have e : reachB m way far = ((if knd m = 2 then decide (8 ≤ way) else if knd m = 3 then decide (4 ≤ way ∧ way < 8) else if knd m = 4 then decide (way < 4) else if knd m = 0 then false else decide (way < 8)) && (far == 1 || (knd m == 3 || knd m == 4 || knd m == 5))) := by unfold reachB goesB slidesB; rw [if_neg hm]
  generalize reachB m way far = b at *
  clear hS
  generalize knd m = q at *
  have hw : (way < 4 ∧ way < 8) ∨ (4 ≤ way ∧ way < 8) ∨ (4 ≤ way ∧ 8 ≤ way) := by omega
  have hW : (way : Int) < 16 := by omega
  have hF : ¬ (far : Int) < 1 := by omega
  have hff : (far = 1 ∧ ((far : Int) == 1) = true) ∨ (far ≠ 1 ∧ ((far : Int) == 1) = false) := by
    by_cases h1 : far = 1
    · left; exact ⟨h1, by simp; omega⟩
    · right; exact ⟨h1, by simp; omega⟩
  rcases hq with rfl | rfl | rfl | rfl | rfl | rfl | rfl
  case inr.inl => exact absurd rfl hm
  all_goals
    clear hm
    rcases hw with ⟨h1, h2⟩ | ⟨h1, h2⟩ | ⟨h1, h2⟩ <;> rcases hff with ⟨h3, h4⟩ | ⟨h3, h4⟩
  all_goals
    have hb : b = true ∨ b = false := by cases b <;> simp
    have HE := Lib.hid e
    have H1 := Lib.hid h1
    have H2 := Lib.hid h2
    have H3 := Lib.hid h3
    clear e h3
    go_enter Tryd.func35, Tryd.ntmps35
    go_wp2_with fail
    refine (wright_yes way h _).mono ?_
    rintro e w' ⟨rfl, rfl⟩
    go_wp2_with fail
    refine (hk.out _).mono ?_
    rintro e w' ⟨rfl, rfl⟩
    go_wp2
    all_goals
      have H1 := H1.out
      have H2 := H2.out
      have H3 := H3.out
      have HE := HE.out
      first
        | (exfalso; omega)
        | (go_ret; refine ⟨?_, 0, rfl⟩; rw [HE]; simp [H1, H2, H3]; done)
        | (go_ret; refine ⟨?_, 0, rfl⟩; rw [HE]; simp [H1, H2, H3]; omega)
        | (have H4 : ¬ way < 8 := by omega
           go_ret; refine ⟨?_, 0, rfl⟩; rw [HE]; simp [H3, H4]; done)
        | (have H4 : ¬ way < 8 := by omega
           go_ret; refine ⟨?_, 0, rfl⟩; rw [HE]; simp [H3, H4]; omega)
        | (have H4 : ¬ way < 4 := by omega
           go_ret; refine ⟨?_, 0, rfl⟩; rw [HE]; simp [H2, H3, H4]; done)
        | (have H4 : ¬ 8 ≤ way := by omega
           go_ret; refine ⟨?_, 0, rfl⟩; rw [HE]; simp [H2, H3, H4]; done)
        | (have H4 : ¬ 4 ≤ way := by omega
           go_ret; refine ⟨?_, 0, rfl⟩; rw [HE]; simp [H2, H3, H4]; done)
theorem wreach_is (m : Int) (way far : Nat) (h : way < 16) (hf : 1 ≤ far) (hf2 : far ≤ 1000) (w : World) (hS : Steps w) :
    Calls Tryd.prog 35 #[.int .i64 m, .int .i64 way, .int .i64 far] w fun e w' => e = .returned (.bool (reachB m way far)) ∧ Kept w w' :=
  (wreach_q m way far h hf hf2 w hS).mono fun _ _ ⟨h1, d, h2⟩ => ⟨h1, by rw [h2]; exact (Kept.refl w).drewN d⟩
theorem quiet_more {P : Program} {f : FuncId} {args : Array Value} {w : World} {n : Nat} {v : Value}
    (h : Calls P f args (w.drewN n) fun e w' => e = .returned v ∧ ∃ d, w' = (w.drewN n).drewN d) : Calls P f args (w.drewN n) fun e w'' => e = .returned v ∧ ∃ m, w'' = w.drewN m :=
  h.mono fun _ _ ⟨he, d, hm⟩ => ⟨he, n + d, by rw [hm]; exact World.drewN_drewN _ _ _⟩
theorem reach_one (m : Int) (way : Nat) : reachB m way 1 = goesB m way := by unfold reachB; simp
theorem reach_two {m : Int} {way : Nat} (h : goesB m way = true) : reachB m way 2 = slidesB m := by unfold reachB; rw [h]; simp
theorem reach1_is (m : Int) (way : Nat) (h : way < 16) (w : World) (hS : Steps w) :
    Calls Tryd.prog 35 #[.int .i64 m, .int .i64 way, .int .i64 1] w fun e w' => e = .returned (.bool (goesB m way)) ∧ Kept w w' := by
  have := wreach_is m way 1 h (by omega) (by omega) w hS
  rw [reach_one] at this
  exact this
theorem reach2_is (m : Int) (way : Nat) (h : way < 16) (w : World) (hS : Steps w) (hg : goesB m way = true) :
    Calls Tryd.prog 35 #[.int .i64 m, .int .i64 way, .int .i64 2] w fun e w' => e = .returned (.bool (slidesB m)) ∧ Kept w w' := by
  have := wreach_is m way 2 h (by omega) (by omega) w hS
  rw [reach_two hg] at this
  exact this
theorem Steps.drew {w : World} (h : Steps w) (n : Nat) : Steps (w.drewN n) := h.kept ((Kept.refl w).drewN n)
end Go.Proofs.YtkliefojegjhhaaDoor
