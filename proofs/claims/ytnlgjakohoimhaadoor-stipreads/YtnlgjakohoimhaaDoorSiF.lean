/- Stipulations: the small functions. -/
import Derived.Test.YtnlgjakohoimhaaDoorSiD
import Derived.Test.YtnlgjakohoimhaaDoorSiE
import Derived.Deep.QuietTactic
namespace Go.Proofs.YtnlgjakohoimhaaDoor
open Go.RowKit
set_option linter.unusedVariables false
set_option linter.unusedSimpArgs false
set_option maxRecDepth 100000
set_option maxHeartbeats 4000000

theorem okG_t (k g : Int) : okG k g = true ↔ (k = 8 ∧ g = 0) ∨ ((1 ≤ k ∧ k ≤ 7) ∧ (1 ≤ g ∧ g ≤ 2)) := by unfold okG; simp only [Bool.or_eq_true, Bool.and_eq_true, decide_eq_true_eq]
theorem okG_f (k g : Int) : okG k g = false ↔ ¬ ((k = 8 ∧ g = 0) ∨ ((1 ≤ k ∧ k ≤ 7) ∧ (1 ≤ g ∧ g ≤ 2))) := by rw [← okG_t, Bool.not_eq_true]
theorem together_is (k g : Int) (w : World) : Calls Tryd.prog 40 #[.int .i64 k, .int .i64 g] w fun e w' => e = .returned (.bool (okG k g)) ∧ w = w' := by
  by_cases h8 : k = 8
  · have b8 : (k == 8) = true := beq_iff_eq.2 h8
    by_cases h0 : g = 0
    · have b0 : (g == 0) = true := beq_iff_eq.2 h0
      have HE := Lib.hid (show okG k g = true by rw [okG_t]; omega)
      clear h8 h0
      go_enter Tryd.func40, Tryd.ntmps40
      go_wp2
      go_ret
      exact ⟨by rw [HE.out]; first | done | rfl, rfl⟩
    · have b0 : (g == 0) = false := beq_eq_false_iff_ne.2 h0
      have HE := Lib.hid (show okG k g = false by rw [okG_f]; omega)
      clear h8 h0
      go_enter Tryd.func40, Tryd.ntmps40
      go_wp2
      go_ret
      exact ⟨by rw [HE.out]; first | done | rfl, rfl⟩
  · have b8 : (k == 8) = false := beq_eq_false_iff_ne.2 h8
    by_cases h1 : 1 ≤ k
    · by_cases h2 : k < 8
      · by_cases h3 : 1 ≤ g
        · by_cases h4 : g ≤ 2
          · have HE := Lib.hid (show okG k g = true by rw [okG_t]; omega)
            clear h8
            go_enter Tryd.func40, Tryd.ntmps40
            go_wp2
            go_ret
            exact ⟨by rw [HE.out]; first | done | rfl, rfl⟩
          · have HE := Lib.hid (show okG k g = false by rw [okG_f]; omega)
            clear h8
            go_enter Tryd.func40, Tryd.ntmps40
            go_wp2
            go_ret
            exact ⟨by rw [HE.out]; first | done | rfl, rfl⟩
        · have HE := Lib.hid (show okG k g = false by rw [okG_f]; omega)
          clear h8
          go_enter Tryd.func40, Tryd.ntmps40
          go_wp2
          go_ret
          exact ⟨by rw [HE.out]; first | done | rfl, rfl⟩
      · have HE := Lib.hid (show okG k g = false by rw [okG_f]; omega)
        clear h8
        go_enter Tryd.func40, Tryd.ntmps40
        go_wp2
        go_ret
        exact ⟨by rw [HE.out]; first | done | rfl, rfl⟩
    · have HE := Lib.hid (show okG k g = false by rw [okG_f]; omega)
      clear h8
      go_enter Tryd.func40, Tryd.ntmps40
      go_wp2
      go_ret
      exact ⟨by rw [HE.out]; first | done | rfl, rfl⟩
theorem okN_t (k n : Int) : okN k n true = (decide (k = 5) && (decide (0 ≤ n) && decide (n ≤ 64))) := rfl
theorem okN_n (k n : Int) : okN k n false = (decide (0 < n) && decide (n ≤ 64)) := rfl
theorem counted_is (s : Stp) (w : World) : Calls Tryd.prog 41 #[qv s] w fun e w' => e = .returned (.bool (okN s.k s.n s.h)) ∧ Kept w w' := by
  obtain ⟨k, g, n, h⟩ := s
  have HK := Lib.hid ((Kept.refl w).alloc (.cells (ql ⟨k, g, n, h⟩).toArray 24))
  unfold qv
  unfold ql at HK
  dsimp only at HK ⊢
  cases h
  · by_cases h1 : 0 < n
    · by_cases h2 : n ≤ 64
      · have HE := Lib.hid (show okN k n false = true by rw [okN_n]; simp; omega)
        go_enter Tryd.func41, Tryd.ntmps41
        go_wp2
        go_ret
        exact ⟨by rw [HE.out]; first | done | rfl, HK.out⟩
      · have HE := Lib.hid (show okN k n false = false by rw [okN_n]; simp; omega)
        go_enter Tryd.func41, Tryd.ntmps41
        go_wp2
        go_ret
        exact ⟨by rw [HE.out]; first | done | rfl, HK.out⟩
    · have HE := Lib.hid (show okN k n false = false by rw [okN_n]; simp; omega)
      go_enter Tryd.func41, Tryd.ntmps41
      go_wp2
      go_ret
      exact ⟨by rw [HE.out]; first | done | rfl, HK.out⟩
  · by_cases h5 : k = 5
    · have b5 : (k == 5) = true := beq_iff_eq.2 h5
      by_cases h1 : 0 ≤ n
      · by_cases h2 : n ≤ 64
        · have HE := Lib.hid (show okN k n true = true by rw [okN_t]; simp; omega)
          clear h5
          go_enter Tryd.func41, Tryd.ntmps41
          go_wp2
          go_ret
          exact ⟨by rw [HE.out]; first | done | rfl, HK.out⟩
        · have HE := Lib.hid (show okN k n true = false by rw [okN_t]; simp; omega)
          clear h5
          go_enter Tryd.func41, Tryd.ntmps41
          go_wp2
          go_ret
          exact ⟨by rw [HE.out]; first | done | rfl, HK.out⟩
      · have HE := Lib.hid (show okN k n true = false by rw [okN_t]; simp; omega)
        clear h5
        go_enter Tryd.func41, Tryd.ntmps41
        go_wp2
        go_ret
        exact ⟨by rw [HE.out]; first | done | rfl, HK.out⟩
    · have b5 : (k == 5) = false := beq_eq_false_iff_ne.2 h5
      have HE := Lib.hid (show okN k n true = false by rw [okN_t]; simp; omega)
      clear h5
      go_enter Tryd.func41, Tryd.ntmps41
      go_wp2
      go_ret
      exact ⟨by rw [HE.out]; first | done | rfl, HK.out⟩
theorem right_is (s : Stp) (w : World) : Calls Tryd.prog 28 #[qv s] w fun e w' => e = .returned (.bool (okS s)) ∧ Kept w w' := by
  have HW := Lib.hid (TAt.new w s)
  have HK := Lib.hid ((Kept.refl w).alloc (.cells (ql s).toArray 24))
  have HG : Hid (okS s = (okG s.k s.g && okN s.k s.n s.h)) := Lib.hid rfl
  obtain ⟨k, g, n, h⟩ := s
  unfold qv
  unfold ql at HK
  dsimp only at HK HG ⊢
  obtain ⟨b, hb⟩ : ∃ b, okG k g = b := ⟨_, rfl⟩
  have HB := Lib.hid hb
  clear hb
  cases b
  · have HE := Lib.hid (show okS ⟨k, g, n, h⟩ = false by rw [HG.out, HB.out, Bool.false_and])
    go_enter Tryd.func28, Tryd.ntmps28
    go_wp2_with fail
    refine (together_is k g _).mono ?_
    rintro e w' ⟨rfl, rfl⟩
    rw [HB.out]
    go_wp2
    go_ret
    exact ⟨by rw [HE.out]; first | done | rfl, HK.out⟩
  · have HE := Lib.hid (show okS ⟨k, g, n, h⟩ = okN k n h by rw [HG.out, HB.out, Bool.true_and])
    go_enter Tryd.func28, Tryd.ntmps28
    go_wp2_with fail
    refine (together_is k g _).mono ?_
    rintro e w' ⟨rfl, rfl⟩
    rw [HB.out]
    go_wp2_with (refine wpList_load_q (by rfl) _ rfl _ 0 rfl ⟨k, g, n, h⟩ HW.out.range ?_)
    refine (counted_is ⟨k, g, n, h⟩ _).mono ?_
    rintro e w2 ⟨rfl, g2⟩
    have HK2 := Lib.hid (HK.out.trans g2)
    clear g2
    go_wp2
    go_ret
    exact ⟨by rw [HE.out]; first | done | rfl, HK2.out⟩
theorem least_is (s : Stp) (w : World) : Calls Tryd.prog 22 #[qv s] w fun e w' => e = .returned (.int .i64 (lstI (decide (s.k = 5)))) ∧ Kept w w' := by
  have HK := Lib.hid ((Kept.refl w).alloc (.cells (ql s).toArray 24))
  obtain ⟨k, g, n, h⟩ := s
  unfold qv
  unfold ql at HK
  dsimp only at HK ⊢
  by_cases h5 : k = 5
  · have b5 : (k == 5) = true := beq_iff_eq.2 h5
    have HE := Lib.hid (show lstI (decide (k = 5)) = 0 by rw [decide_eq_true h5]; rfl)
    clear h5
    go_enter Tryd.func22, Tryd.ntmps22
    go_wp2
    go_ret
    exact ⟨by rw [HE.out]; first | done | rfl, HK.out⟩
  · have b5 : (k == 5) = false := beq_eq_false_iff_ne.2 h5
    have HE := Lib.hid (show lstI (decide (k = 5)) = 1 by rw [decide_eq_false h5]; rfl)
    clear h5
    go_enter Tryd.func22, Tryd.ntmps22
    go_wp2
    go_ret
    exact ⟨by rw [HE.out]; first | done | rfl, HK.out⟩
end Go.Proofs.YtnlgjakohoimhaaDoor
