/- goes and along. -/
import Derived.Test.YtjbjkhbioigdaaaDoorRaS
namespace Go.Proofs.YtjbjkhbioigdaaaDoor
open Go.RowKit
set_option linter.unusedVariables false
set_option linter.unusedSimpArgs false

theorem goes_pawn (m : Int) (way : Nat) (h : way < 16) (w : World) (hS : Steps w) (hm : knd m = 1) :
    Calls Tryd.prog 19 #[.int .i64 m, .int .i64 way] w fun e w' => e = .returned (.bool (goesB m way)) ∧ Kept w w' := by
  have hk := Lib.hid (mkind_any m)
  have hp := knd_pawn hm
  have hc := (hS way h).2
  have e : goesB m way = (decide (4 ≤ way ∧ way < 8) && wayR way == (if m < 0 then -1 else 1)) := by unfold goesB; rw [if_pos hm]
  rw [hm] at hk
  rw [e]
  have hW : (way : Int) < 16 := by omega
  generalize wayR way = y at *
  clear e hm hS
  rcases hp with rfl | rfl
  · rw [if_neg (by decide)]
    by_cases h1 : 4 ≤ way
    · by_cases h2 : way < 8
      · rw [decide_eq_true ⟨h1, h2⟩, Bool.true_and]
        have h1' : (4 : Int) ≤ (way : Int) := by omega
        have h2' : (way : Int) < 8 := by omega
        go_enter Tryd.func19, Tryd.ntmps19
        go_wp2_with fail
        refine (hk.out _).mono ?_
        rintro e w' ⟨rfl, rfl⟩
        go_wp2
        go_quiet (first | (go_at_call 30; exact quiet_same (mside_w 1 _ (by omega) (by omega))) | (go_at_call 29; exact quiet_same (ahead_w _)))
        go_wp2
        go_ret
        exact ⟨rfl, (Kept.refl w).drewN _⟩
      · rw [decide_eq_false (by omega), Bool.false_and]
        have h1' : (4 : Int) ≤ (way : Int) := by omega
        have h2' : ¬ (way : Int) < 8 := by omega
        go_enter Tryd.func19, Tryd.ntmps19
        go_wp2_with fail
        refine (hk.out _).mono ?_
        rintro e w' ⟨rfl, rfl⟩
        go_wp2
        go_quiet (fail)
        go_wp2
        go_ret
        exact ⟨rfl, (Kept.refl w).drewN _⟩
    · rw [decide_eq_false (by omega), Bool.false_and]
      have h1' : ¬ (4 : Int) ≤ (way : Int) := by omega
      go_enter Tryd.func19, Tryd.ntmps19
      go_wp2_with fail
      refine (hk.out _).mono ?_
      rintro e w' ⟨rfl, rfl⟩
      go_wp2
      go_quiet (fail)
      go_wp2
      go_ret
      exact ⟨rfl, (Kept.refl w).drewN _⟩
  · rw [if_pos (by decide)]
    by_cases h1 : 4 ≤ way
    · by_cases h2 : way < 8
      · rw [decide_eq_true ⟨h1, h2⟩, Bool.true_and]
        have h1' : (4 : Int) ≤ (way : Int) := by omega
        have h2' : (way : Int) < 8 := by omega
        go_enter Tryd.func19, Tryd.ntmps19
        go_wp2_with fail
        refine (hk.out _).mono ?_
        rintro e w' ⟨rfl, rfl⟩
        go_wp2
        go_quiet (first | (go_at_call 30; exact quiet_same (mside_b (-1) _ (by omega) (by omega))) | (go_at_call 29; exact quiet_same (ahead_b _)))
        go_wp2
        go_ret
        exact ⟨rfl, (Kept.refl w).drewN _⟩
      · rw [decide_eq_false (by omega), Bool.false_and]
        have h1' : (4 : Int) ≤ (way : Int) := by omega
        have h2' : ¬ (way : Int) < 8 := by omega
        go_enter Tryd.func19, Tryd.ntmps19
        go_wp2_with fail
        refine (hk.out _).mono ?_
        rintro e w' ⟨rfl, rfl⟩
        go_wp2
        go_quiet (fail)
        go_wp2
        go_ret
        exact ⟨rfl, (Kept.refl w).drewN _⟩
    · rw [decide_eq_false (by omega), Bool.false_and]
      have h1' : ¬ (4 : Int) ≤ (way : Int) := by omega
      go_enter Tryd.func19, Tryd.ntmps19
      go_wp2_with fail
      refine (hk.out _).mono ?_
      rintro e w' ⟨rfl, rfl⟩
      go_wp2
      go_quiet (fail)
      go_wp2
      go_ret
      exact ⟨rfl, (Kept.refl w).drewN _⟩
theorem goes_is (m : Int) (way : Nat) (h : way < 16) (w : World) (hS : Steps w) :
    Calls Tryd.prog 19 #[.int .i64 m, .int .i64 way] w fun e w' => e = .returned (.bool (goesB m way)) ∧ Kept w w' := by
  by_cases hm : knd m = 1
  · exact goes_pawn m way h w hS hm
  have hk := Lib.hid (mkind_any m)
  have hq := knd_is m
  have e : goesB m way = if knd m = 2 then decide (8 ≤ way) else if knd m = 3 then decide (4 ≤ way ∧ way < 8) else if knd m = 4 then decide (way < 4) else if knd m = 0 then false else decide (way < 8) := by unfold goesB; rw [if_neg hm]
  rw [e]
  clear e hS
  generalize knd m = q at *
  have hw : way < 4 ∨ (4 ≤ way ∧ way < 8) ∨ 8 ≤ way := by omega
  have hW : (way : Int) < 16 := by omega
  rcases hq with rfl | rfl | rfl | rfl | rfl | rfl | rfl
  case inr.inl => exact absurd rfl hm
  all_goals
    clear hm
    rcases hw with h1 | ⟨h1, h2⟩ | h1
  all_goals
    go_enter Tryd.func19, Tryd.ntmps19
    go_wp2_with fail
    refine (hk.out _).mono ?_
    rintro e w' ⟨rfl, rfl⟩
    go_wp2
    all_goals
      first
        | (exfalso; omega)
        | (go_ret; refine ⟨?_, Kept.refl _⟩; simp; done)
        | (go_ret; refine ⟨?_, Kept.refl _⟩; simp; omega)
        | (go_ret; refine ⟨?_, Kept.refl _⟩; simp [h1, h2]; done)
        | (go_ret; refine ⟨?_, Kept.refl _⟩; simp [h1, h2]; omega)
        | (have h3 : ¬ way < 8 := by omega
           go_ret; refine ⟨?_, Kept.refl _⟩; simp [h3]; done)
        | (have h3 : ¬ way < 8 := by omega
           go_ret; refine ⟨?_, Kept.refl _⟩; simp [h3]; omega)
theorem wayF_wf (way : Nat) (h : way < 16) : (Lit.int .i64 (wayF way)).wf = true ∧ (Lit.int .i64 (wayR way)).wf = true := by
  have : ∀ i : Fin 16, (Lit.int .i64 (wayF i)).wf = true ∧ (Lit.int .i64 (wayR i)).wf = true := by decide +kernel
  exact this ⟨way, h⟩
theorem ray_any (s f r : Int) (wf : (Lit.int .i64 f).wf = true ∧ (Lit.int .i64 r).wf = true) (w W : World) (k : Kept W w) :
    Calls Tryd.prog 12 #[.int .i64 s, .int .i64 f, .int .i64 r] w fun e w' => ∃ v, e = .returned v ∧ OwnZ w' W.heap.size v (rayL s f r) ∧ Kept w w' :=
  (ray_is s f r wf.1 wf.2 w).mono fun _ _ ⟨v, h1, h2, h3⟩ => ⟨v, h1, h2.low k.size, h3⟩
/-- A slice that reads so, in memory of its own, is told. -/
def NewL (w : World) (l : List Int) (e : Ending) (w' : World) : Prop := ∃ v g, e = .returned v ∧ LsZ w' g v l ∧ (0 < l.length → w.heap.size ≤ g) ∧ Kept w w'
theorem along_is (way s : Nat) (h : way < 16) (w : World) (hS : Steps w) :
    Calls Tryd.prog 17 #[.int .i64 way, .int .i64 s] w (NewL w (alongL way (s : Int))) := by
  obtain ⟨hc1, hc2⟩ := hS way h
  have HR := Lib.hid (ray_any (s : Int) _ _ (wayF_wf way h))
  have e : alongL way (s : Int) = if 8 ≤ way then (rayL s (wayF way) (wayR way)).take 1 else rayL s (wayF way) (wayR way) := rfl
  generalize alongL way (s : Int) = A at *
  have HE := Lib.hid e
  clear e
  have hW : (way : Int) < 16 := by omega
  have hB1 : 0 ≤ (way : Int) := by omega
  generalize rayL s (wayF way) (wayR way) = L at *
  generalize wayF way = x at *
  generalize wayR way = y at *
  clear hS
  go_enter Tryd.func17, Tryd.ntmps17
  go_wp2
  refine wp_region_held_drew (S := Kept _) (by kernel_rfl) (Kept.refl _).drew (fun hHeld => ?_)
  refine rg_take (i := 0) (v := (.int .i64 (s : Int))) (some 6) rfl rfl (by kernel_rfl) (by kernel_rfl) (by kernel_rfl) (fun _ _ _ h => h) (Or.inl ⟨by rfl, fun _ _ => by go_simp⟩) hHeld ?_
  simp only [Act.put, List.setIfInBounds_toArray, List.set_cons_zero, List.set_cons_succ]
  refine rg_take (i := 1) (v := (.int .i64 (way : Int))) (some 7) rfl rfl (by kernel_rfl) (by kernel_rfl) (by kernel_rfl) (fun _ _ _ h => h) (Or.inl ⟨by rfl, fun _ _ => by go_simp⟩) hHeld ?_
  simp only [Act.put, List.setIfInBounds_toArray, List.set_cons_zero, List.set_cons_succ]
  refine rg_take (i := 2) (v := (.pointer (some ⟨0, way * 2, none⟩))) (some 8) rfl rfl (by kernel_rfl) (by kernel_rfl) (by kernel_rfl) (fun _ _ _ h => h) (Or.inl ⟨by rfl, fun _ _ => by go_simp⟩) hHeld ?_
  simp only [Act.put, List.setIfInBounds_toArray, List.set_cons_zero, List.set_cons_succ]
  refine rg_take (i := 3) (v := (.pointer (some ⟨0, way * 2, none⟩))) (some 9) rfl rfl (by kernel_rfl) (by kernel_rfl) (by kernel_rfl) (fun _ _ _ h => h) (Or.inl ⟨by rfl, fun _ _ => by go_simp⟩) hHeld ?_
  simp only [Act.put, List.setIfInBounds_toArray, List.set_cons_zero, List.set_cons_succ]
  refine rg_take (i := 4) (v := (.int .i64 x)) (some 10) rfl rfl (by kernel_rfl) (by kernel_rfl) (by kernel_rfl) (fun _ _ _ h => h) (Or.inl ⟨by rfl, fun w' h => by have h' := kept_cell h (hc1); go_simp⟩) hHeld ?_
  simp only [Act.put, List.setIfInBounds_toArray, List.set_cons_zero, List.set_cons_succ]
  refine rg_take (i := 5) (v := (.int .i64 (way : Int))) (some 11) rfl rfl (by kernel_rfl) (by kernel_rfl) (by kernel_rfl) (fun _ _ _ h => h) (Or.inl ⟨by rfl, fun _ _ => by go_simp⟩) hHeld ?_
  simp only [Act.put, List.setIfInBounds_toArray, List.set_cons_zero, List.set_cons_succ]
  refine rg_take (i := 6) (v := (.pointer (some ⟨0, way * 2, none⟩))) (some 12) rfl rfl (by kernel_rfl) (by kernel_rfl) (by kernel_rfl) (fun _ _ _ h => h) (Or.inl ⟨by rfl, fun _ _ => by go_simp⟩) hHeld ?_
  simp only [Act.put, List.setIfInBounds_toArray, List.set_cons_zero, List.set_cons_succ]
  refine rg_take (i := 7) (v := (.pointer (some ⟨0, way * 2 + 1, none⟩))) (some 13) rfl rfl (by kernel_rfl) (by kernel_rfl) (by kernel_rfl) (fun _ _ _ h => h) (Or.inl ⟨by rfl, fun _ _ => by go_simp⟩) hHeld ?_
  simp only [Act.put, List.setIfInBounds_toArray, List.set_cons_zero, List.set_cons_succ]
  refine rg_take (i := 8) (v := (.int .i64 y)) (some 14) rfl rfl (by kernel_rfl) (by kernel_rfl) (by kernel_rfl) (fun _ _ _ h => h) (Or.inl ⟨by rfl, fun w' h => by have h' := kept_cell h (hc2); go_simp⟩) hHeld ?_
  simp only [Act.put, List.setIfInBounds_toArray, List.set_cons_zero, List.set_cons_succ]
  refine wpAnyH_ready (rs := [9]) (by kernel_rfl) (by simp) ?_
  refine AllReadyH.cons rfl (fun K hK => ?_) AllReadyH.nil
  go_simp
  refine (HR.out _ w hHeld).mono ?_
  rintro e w1 ⟨v, rfl, hown, g1⟩
  obtain ⟨a, cap, rfl⟩ := hown.slice
  refine hK.out _ _ (hHeld.trans g1) (fun _ => ?_)
  replace hHeld := hHeld.trans g1
  clear hK K g1
  obtain ⟨g, hls, hlow⟩ := hown.ls
  have HLow := Lib.hid (show 0 < L.length → w.heap.size ≤ g from fun h => (hlow h).1)
  have HL := Lib.hid hls
  have HH := Lib.hid hHeld
  clear hown hls hlow
  generalize hn : L.length = n at *
  refine rg_take (i := 10) (v := (.slice a n cap)) (some 5) rfl rfl (by kernel_rfl) (by kernel_rfl) (by kernel_rfl) (fun _ _ _ h => h) (Or.inl ⟨by rfl, fun _ _ => by go_simp⟩) hHeld ?_
  simp only [Act.put, List.setIfInBounds_toArray, List.set_cons_zero, List.set_cons_succ]
  refine wpAnyH_done (by kernel_rfl) ?_ _
  by_cases h8 : 8 ≤ way
  · have h8' : (8 : Int) ≤ (way : Int) := by omega
    go_wp2_with fail
    refine (nearest_is g _ L _ HL.out).mono ?_
    rintro e w2 ⟨⟨v, rfl, hv⟩, rfl⟩
    have HV := Lib.hid hv
    clear hv
    go_wp2
    go_ret
    exact ⟨_, g, rfl, by rw [HE.out, if_pos h8]; exact HV.out, fun hl => HLow.out (by rw [HE.out, if_pos h8, List.length_take] at hl; omega), HH.out⟩
  · have h8' : ¬ (8 : Int) ≤ (way : Int) := by omega
    go_wp2
    go_ret
    exact ⟨_, g, rfl, by rw [HE.out, if_neg h8]; exact HL.out, fun hl => HLow.out (by rw [HE.out, if_neg h8] at hl; omega), HH.out⟩
end Go.Proofs.YtjbjkhbioigdaaaDoor
