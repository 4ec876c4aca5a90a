/- Stipulations: the document's small functions. -/
import Derived.Test.YtnlgjakohoimhaaDoorSiJ
namespace Go.Proofs.YtnlgjakohoimhaaDoor
open Go.RowKit
set_option linter.unusedVariables false
set_option linter.unusedSimpArgs false
set_option maxRecDepth 100000
set_option maxHeartbeats 4000000

theorem okS_tt (k g n : Int) : okS ⟨k, g, n, true⟩ = true ↔ ((k = 8 ∧ g = 0) ∨ ((1 ≤ k ∧ k ≤ 7) ∧ (1 ≤ g ∧ g ≤ 2))) ∧ (k = 5 ∧ 0 ≤ n ∧ n ≤ 64) := by
  unfold okS
  rw [Bool.and_eq_true, okG_t, okN_t]
  simp only [Bool.and_eq_true, decide_eq_true_eq]
theorem okS_tf (k g n : Int) : okS ⟨k, g, n, false⟩ = true ↔ ((k = 8 ∧ g = 0) ∨ ((1 ≤ k ∧ k ≤ 7) ∧ (1 ≤ g ∧ g ≤ 2))) ∧ (0 < n ∧ n ≤ 64) := by
  unfold okS
  rw [Bool.and_eq_true, okG_t, okN_n]
  simp only [Bool.and_eq_true, decide_eq_true_eq]
theorem okS_ft (k g n : Int) : okS ⟨k, g, n, true⟩ = false ↔ ¬ (((k = 8 ∧ g = 0) ∨ ((1 ≤ k ∧ k ≤ 7) ∧ (1 ≤ g ∧ g ≤ 2))) ∧ (k = 5 ∧ 0 ≤ n ∧ n ≤ 64)) := by rw [← okS_tt, Bool.not_eq_true]
theorem okS_ff (k g n : Int) : okS ⟨k, g, n, false⟩ = false ↔ ¬ (((k = 8 ∧ g = 0) ∨ ((1 ≤ k ∧ k ≤ 7) ∧ (1 ≤ g ∧ g ≤ 2))) ∧ (0 < n ∧ n ≤ 64)) := by rw [← okS_tf, Bool.not_eq_true]
theorem rright_q (s : Stp) (w : World) : Calls Tryd.prog 11 #[qv s] w fun e w' => e = .returned (.bool (okS s)) ∧ Kept w w' := by
  have HK := Lib.hid ((Kept.refl w).alloc (.cells (ql s).toArray 24))
  obtain ⟨k, g, n, h⟩ := s
  unfold qv
  unfold ql at HK
  dsimp only at HK ⊢
  cases h
  · skip
    by_cases h0 : k < 1
    · skip
      have HE := Lib.hid (show okS ⟨k, g, n, false⟩ = false by rw [okS_ff]; omega)
      go_enter Tryd.func11, Tryd.ntmps11
      go_wp2
      go_ret
      exact ⟨by rw [HE.out]; first | done | rfl | go_num, HK.out⟩
    · skip
      by_cases h1 : 8 < k
      · skip
        have HE := Lib.hid (show okS ⟨k, g, n, false⟩ = false by rw [okS_ff]; omega)
        go_enter Tryd.func11, Tryd.ntmps11
        go_wp2
        go_ret
        exact ⟨by rw [HE.out]; first | done | rfl | go_num, HK.out⟩
      · skip
        by_cases h2 : n < 0
        · skip
          have HE := Lib.hid (show okS ⟨k, g, n, false⟩ = false by rw [okS_ff]; omega)
          go_enter Tryd.func11, Tryd.ntmps11
          go_wp2
          go_ret
          exact ⟨by rw [HE.out]; first | done | rfl | go_num, HK.out⟩
        · skip
          by_cases h3 : 64 < n
          · skip
            have HE := Lib.hid (show okS ⟨k, g, n, false⟩ = false by rw [okS_ff]; omega)
            go_enter Tryd.func11, Tryd.ntmps11
            go_wp2
            go_ret
            exact ⟨by rw [HE.out]; first | done | rfl | go_num, HK.out⟩
          · skip
            by_cases h4 : k = 8
            · have bh4 : (k == 8) = true := beq_iff_eq.2 h4
              by_cases h5 : g = 0
              · have bh5 : (g == 0) = true := beq_iff_eq.2 h5
                have nh5 : (g != 0) = false := by rw [bne_eq_false_iff_eq]; exact h5
                by_cases h6 : 0 < n
                · skip
                  have HE := Lib.hid (show okS ⟨k, g, n, false⟩ = true by rw [okS_tf]; omega)
                  clear h4 h5
                  go_enter Tryd.func11, Tryd.ntmps11
                  go_wp2
                  go_ret
                  exact ⟨by rw [HE.out]; first | done | rfl | go_num, HK.out⟩
                · skip
                  have HE := Lib.hid (show okS ⟨k, g, n, false⟩ = false by rw [okS_ff]; omega)
                  clear h4 h5
                  go_enter Tryd.func11, Tryd.ntmps11
                  go_wp2
                  go_ret
                  exact ⟨by rw [HE.out]; first | done | rfl | go_num, HK.out⟩
              · have bh5 : (g == 0) = false := beq_eq_false_iff_ne.2 h5
                have nh5 : (g != 0) = true := bne_iff_ne.2 h5
                have HE := Lib.hid (show okS ⟨k, g, n, false⟩ = false by rw [okS_ff]; omega)
                clear h4 h5
                go_enter Tryd.func11, Tryd.ntmps11
                go_wp2
                go_ret
                exact ⟨by rw [HE.out]; first | done | rfl | go_num, HK.out⟩
            · have bh4 : (k == 8) = false := beq_eq_false_iff_ne.2 h4
              by_cases h5 : g = 1
              · have bh5 : (g == 1) = true := beq_iff_eq.2 h5
                have nh5 : (g != 1) = false := by rw [bne_eq_false_iff_eq]; exact h5
                by_cases h6 : 0 < n
                · skip
                  have HE := Lib.hid (show okS ⟨k, g, n, false⟩ = true by rw [okS_tf]; omega)
                  clear h4 h5
                  go_enter Tryd.func11, Tryd.ntmps11
                  go_wp2
                  go_ret
                  exact ⟨by rw [HE.out]; first | done | rfl | go_num, HK.out⟩
                · skip
                  have HE := Lib.hid (show okS ⟨k, g, n, false⟩ = false by rw [okS_ff]; omega)
                  clear h4 h5
                  go_enter Tryd.func11, Tryd.ntmps11
                  go_wp2
                  go_ret
                  exact ⟨by rw [HE.out]; first | done | rfl | go_num, HK.out⟩
              · have bh5 : (g == 1) = false := beq_eq_false_iff_ne.2 h5
                have nh5 : (g != 1) = true := bne_iff_ne.2 h5
                by_cases h6 : g = 2
                · have bh6 : (g == 2) = true := beq_iff_eq.2 h6
                  have nh6 : (g != 2) = false := by rw [bne_eq_false_iff_eq]; exact h6
                  by_cases h7 : 0 < n
                  · skip
                    have HE := Lib.hid (show okS ⟨k, g, n, false⟩ = true by rw [okS_tf]; omega)
                    clear h4 h5 h6
                    go_enter Tryd.func11, Tryd.ntmps11
                    go_wp2
                    go_ret
                    exact ⟨by rw [HE.out]; first | done | rfl | go_num, HK.out⟩
                  · skip
                    have HE := Lib.hid (show okS ⟨k, g, n, false⟩ = false by rw [okS_ff]; omega)
                    clear h4 h5 h6
                    go_enter Tryd.func11, Tryd.ntmps11
                    go_wp2
                    go_ret
                    exact ⟨by rw [HE.out]; first | done | rfl | go_num, HK.out⟩
                · have bh6 : (g == 2) = false := beq_eq_false_iff_ne.2 h6
                  have nh6 : (g != 2) = true := bne_iff_ne.2 h6
                  have HE := Lib.hid (show okS ⟨k, g, n, false⟩ = false by rw [okS_ff]; omega)
                  clear h4 h5 h6
                  go_enter Tryd.func11, Tryd.ntmps11
                  go_wp2
                  go_ret
                  exact ⟨by rw [HE.out]; first | done | rfl | go_num, HK.out⟩
  · skip
    by_cases h0 : k < 1
    · skip
      have HE := Lib.hid (show okS ⟨k, g, n, true⟩ = false by rw [okS_ft]; omega)
      go_enter Tryd.func11, Tryd.ntmps11
      go_wp2
      go_ret
      exact ⟨by rw [HE.out]; first | done | rfl | go_num, HK.out⟩
    · skip
      by_cases h1 : 8 < k
      · skip
        have HE := Lib.hid (show okS ⟨k, g, n, true⟩ = false by rw [okS_ft]; omega)
        go_enter Tryd.func11, Tryd.ntmps11
        go_wp2
        go_ret
        exact ⟨by rw [HE.out]; first | done | rfl | go_num, HK.out⟩
      · skip
        by_cases h2 : n < 0
        · skip
          have HE := Lib.hid (show okS ⟨k, g, n, true⟩ = false by rw [okS_ft]; omega)
          go_enter Tryd.func11, Tryd.ntmps11
          go_wp2
          go_ret
          exact ⟨by rw [HE.out]; first | done | rfl | go_num, HK.out⟩
        · skip
          by_cases h3 : 64 < n
          · skip
            have HE := Lib.hid (show okS ⟨k, g, n, true⟩ = false by rw [okS_ft]; omega)
            go_enter Tryd.func11, Tryd.ntmps11
            go_wp2
            go_ret
            exact ⟨by rw [HE.out]; first | done | rfl | go_num, HK.out⟩
          · skip
            by_cases h4 : k = 8
            · have bh4 : (k == 8) = true := beq_iff_eq.2 h4
              by_cases h5 : g = 0
              · have bh5 : (g == 0) = true := beq_iff_eq.2 h5
                have nh5 : (g != 0) = false := by rw [bne_eq_false_iff_eq]; exact h5
                by_cases h6 : 0 < n
                · skip
                  have HE := Lib.hid (show okS ⟨k, g, n, true⟩ = false by rw [okS_ft]; omega)
                  clear h4 h5
                  go_enter Tryd.func11, Tryd.ntmps11
                  go_wp2
                  go_ret
                  exact ⟨by rw [HE.out]; first | done | rfl | go_num, HK.out⟩
                · skip
                  have HE := Lib.hid (show okS ⟨k, g, n, true⟩ = false by rw [okS_ft]; omega)
                  clear h4 h5
                  go_enter Tryd.func11, Tryd.ntmps11
                  go_wp2
                  go_ret
                  exact ⟨by rw [HE.out]; first | done | rfl | go_num, HK.out⟩
              · have bh5 : (g == 0) = false := beq_eq_false_iff_ne.2 h5
                have nh5 : (g != 0) = true := bne_iff_ne.2 h5
                have HE := Lib.hid (show okS ⟨k, g, n, true⟩ = false by rw [okS_ft]; omega)
                clear h4 h5
                go_enter Tryd.func11, Tryd.ntmps11
                go_wp2
                go_ret
                exact ⟨by rw [HE.out]; first | done | rfl | go_num, HK.out⟩
            · have bh4 : (k == 8) = false := beq_eq_false_iff_ne.2 h4
              by_cases h5 : g = 1
              · have bh5 : (g == 1) = true := beq_iff_eq.2 h5
                have nh5 : (g != 1) = false := by rw [bne_eq_false_iff_eq]; exact h5
                by_cases h6 : k = 5
                · have bh6 : (k == 5) = true := beq_iff_eq.2 h6
                  have HE := Lib.hid (show okS ⟨k, g, n, true⟩ = true by rw [okS_tt]; omega)
                  clear h4 h5 h6
                  go_enter Tryd.func11, Tryd.ntmps11
                  go_wp2
                  go_ret
                  exact ⟨by rw [HE.out]; first | done | rfl | go_num, HK.out⟩
                · have bh6 : (k == 5) = false := beq_eq_false_iff_ne.2 h6
                  have HE := Lib.hid (show okS ⟨k, g, n, true⟩ = false by rw [okS_ft]; omega)
                  clear h4 h5 h6
                  go_enter Tryd.func11, Tryd.ntmps11
                  go_wp2
                  go_ret
                  exact ⟨by rw [HE.out]; first | done | rfl | go_num, HK.out⟩
              · have bh5 : (g == 1) = false := beq_eq_false_iff_ne.2 h5
                have nh5 : (g != 1) = true := bne_iff_ne.2 h5
                by_cases h6 : g = 2
                · have bh6 : (g == 2) = true := beq_iff_eq.2 h6
                  have nh6 : (g != 2) = false := by rw [bne_eq_false_iff_eq]; exact h6
                  by_cases h7 : k = 5
                  · have bh7 : (k == 5) = true := beq_iff_eq.2 h7
                    have HE := Lib.hid (show okS ⟨k, g, n, true⟩ = true by rw [okS_tt]; omega)
                    clear h4 h5 h6 h7
                    go_enter Tryd.func11, Tryd.ntmps11
                    go_wp2
                    go_ret
                    exact ⟨by rw [HE.out]; first | done | rfl | go_num, HK.out⟩
                  · have bh7 : (k == 5) = false := beq_eq_false_iff_ne.2 h7
                    have HE := Lib.hid (show okS ⟨k, g, n, true⟩ = false by rw [okS_ft]; omega)
                    clear h4 h5 h6 h7
                    go_enter Tryd.func11, Tryd.ntmps11
                    go_wp2
                    go_ret
                    exact ⟨by rw [HE.out]; first | done | rfl | go_num, HK.out⟩
                · have bh6 : (g == 2) = false := beq_eq_false_iff_ne.2 h6
                  have nh6 : (g != 2) = true := bne_iff_ne.2 h6
                  have HE := Lib.hid (show okS ⟨k, g, n, true⟩ = false by rw [okS_ft]; omega)
                  clear h4 h5 h6
                  go_enter Tryd.func11, Tryd.ntmps11
                  go_wp2
                  go_ret
                  exact ⟨by rw [HE.out]; first | done | rfl | go_num, HK.out⟩
theorem rbegins_q (s : Stp) (hs : okS s = true) (w : World) : Calls Tryd.prog 15 #[qv s] w fun e w' => e = .returned (.int .i64 (begI s)) ∧ Kept w w' := by
  have HK := Lib.hid ((Kept.refl w).alloc (.cells (ql s).toArray 24))
  have he := begI_is hs
  clear hs
  obtain ⟨k, g, n, h⟩ := s
  unfold qv
  unfold ql at HK
  dsimp only at HK he ⊢
  cases h
  · skip
    by_cases h0 : k = 6
    · have bh0 : (k == 6) = true := beq_iff_eq.2 h0
      have HE := Lib.hid (he.trans (if_pos (.inl h0)))
      clear he h0
      go_enter Tryd.func15, Tryd.ntmps15
      go_wp2
      go_ret
      exact ⟨by rw [HE.out]; first | done | rfl | go_num, HK.out⟩
    · have bh0 : (k == 6) = false := beq_eq_false_iff_ne.2 h0
      by_cases h1 : k = 5
      · have bh1 : (k == 5) = true := beq_iff_eq.2 h1
        have HE := Lib.hid (he.trans (if_pos (.inr ⟨h1, rfl⟩)))
        clear he h0 h1
        go_enter Tryd.func15, Tryd.ntmps15
        go_wp2
        go_ret
        exact ⟨by rw [HE.out]; first | done | rfl | go_num, HK.out⟩
      · have bh1 : (k == 5) = false := beq_eq_false_iff_ne.2 h1
        have HE := Lib.hid (he.trans (if_neg (fun x => x.elim h0 (fun y => h1 y.1))))
        clear he h0 h1
        go_enter Tryd.func15, Tryd.ntmps15
        go_wp2
        go_ret
        exact ⟨by rw [HE.out]; first | done | rfl | go_num, HK.out⟩
  · skip
    by_cases h0 : k = 6
    · have bh0 : (k == 6) = true := beq_iff_eq.2 h0
      have HE := Lib.hid (he.trans (if_pos (.inl h0)))
      clear he h0
      go_enter Tryd.func15, Tryd.ntmps15
      go_wp2
      go_ret
      exact ⟨by rw [HE.out]; first | done | rfl | go_num, HK.out⟩
    · have bh0 : (k == 6) = false := beq_eq_false_iff_ne.2 h0
      by_cases h1 : k = 5
      · have bh1 : (k == 5) = true := beq_iff_eq.2 h1
        have HE := Lib.hid (he.trans (if_neg (fun x => x.elim h0 (fun y => absurd y.2 (by simp)))))
        clear he h0 h1
        go_enter Tryd.func15, Tryd.ntmps15
        go_wp2
        go_ret
        exact ⟨by rw [HE.out]; first | done | rfl | go_num, HK.out⟩
      · have bh1 : (k == 5) = false := beq_eq_false_iff_ne.2 h1
        have HE := Lib.hid (he.trans (if_neg (fun x => x.elim h0 (fun y => h1 y.1))))
        clear he h0 h1
        go_enter Tryd.func15, Tryd.ntmps15
        go_wp2
        go_ret
        exact ⟨by rw [HE.out]; first | done | rfl | go_num, HK.out⟩
theorem rplies_q (s : Stp) (hs : okS s = true) (w : World) : Calls Tryd.prog 16 #[qv s] w fun e w' => e = .returned (.int .i64 (plyI s)) ∧ Kept w w' := by
  have HK := Lib.hid ((Kept.refl w).alloc (.cells (ql s).toArray 24))
  have he := plyI_is hs
  have hb := okS_bounds hs
  obtain ⟨k, g, n, h⟩ := s
  unfold qv
  unfold ql at HK
  dsimp only at HK he hb ⊢
  obtain ⟨_, _, _, _, n0, n1⟩ := hb
  cases h
  · skip
    by_cases h0 : k = 5
    · have bh0 : (k == 5) = true := beq_iff_eq.2 h0
      have c6 : (k == 6) = false := beq_eq_false_iff_ne.2 (by omega)
      have c7 : (k == 7) = false := beq_eq_false_iff_ne.2 (by omega)
      have HE := Lib.hid (show plyI ⟨k, g, n, false⟩ = n + n by rw [he, if_pos h0, if_neg (by simp)]; omega)
      clear he h0
      go_enter Tryd.func16, Tryd.ntmps16
      go_wp2
      go_ret
      exact ⟨by rw [HE.out]; first | done | rfl | go_num, HK.out⟩
    · have bh0 : (k == 5) = false := beq_eq_false_iff_ne.2 h0
      by_cases h1 : k = 6
      · have bh1 : (k == 6) = true := beq_iff_eq.2 h1
        have HE := Lib.hid (he.trans (by rw [if_neg h0, if_pos h1]))
        clear he h0 h1
        go_enter Tryd.func16, Tryd.ntmps16
        go_wp2
        go_ret
        exact ⟨by rw [HE.out]; first | done | rfl | go_num, HK.out⟩
      · have bh1 : (k == 6) = false := beq_eq_false_iff_ne.2 h1
        by_cases h2 : k = 7
        · have bh2 : (k == 7) = true := beq_iff_eq.2 h2
          have HE := Lib.hid (he.trans (by rw [if_neg h0, if_neg h1, if_pos h2]))
          clear he h0 h1 h2
          go_enter Tryd.func16, Tryd.ntmps16
          go_wp2
          go_ret
          exact ⟨by rw [HE.out]; first | done | rfl | go_num, HK.out⟩
        · have bh2 : (k == 7) = false := beq_eq_false_iff_ne.2 h2
          have HE := Lib.hid (he.trans (by rw [if_neg h0, if_neg h1, if_neg h2]))
          clear he h0 h1 h2
          go_enter Tryd.func16, Tryd.ntmps16
          go_wp2
          go_ret
          exact ⟨by rw [HE.out]; first | done | rfl | go_num, HK.out⟩
  · have h5 : k = 5 := ((okS_tt k g n).1 hs).2.1
    have b5 : (k == 5) = true := beq_iff_eq.2 h5
    have c6 : (k == 6) = false := beq_eq_false_iff_ne.2 (by omega)
    have c7 : (k == 7) = false := beq_eq_false_iff_ne.2 (by omega)
    have HE := Lib.hid (show plyI ⟨k, g, n, true⟩ = n + n + 1 by rw [he, if_pos h5, if_pos rfl]; omega)
    clear he h5 hs
    go_enter Tryd.func16, Tryd.ntmps16
    go_wp2
    go_ret
    exact ⟨by rw [HE.out]; first | done | rfl | go_num, HK.out⟩
theorem rkT_is (k : Int) (w : World) : Calls Tryd.prog 31 #[.int .i64 k] w fun e w' => e = .returned (.string (kT k)) ∧ Kept w w' := by
  by_cases h0 : k = 2
  · have bh0 : (k == 2) = true := beq_iff_eq.2 h0
    have HE := Lib.hid (show kT k = ⟨#[115]⟩ by unfold kT; rw [if_pos h0])
    clear h0
    go_enter Tryd.func31, Tryd.ntmps31
    go_wp2
    go_ret
    exact ⟨by rw [HE.out]; first | done | rfl | go_num, Kept.refl _⟩
  · have bh0 : (k == 2) = false := beq_eq_false_iff_ne.2 h0
    by_cases h1 : k = 3
    · have bh1 : (k == 3) = true := beq_iff_eq.2 h1
      have HE := Lib.hid (show kT k = ⟨#[114]⟩ by unfold kT; rw [if_neg h0, if_pos h1])
      clear h0 h1
      go_enter Tryd.func31, Tryd.ntmps31
      go_wp2
      go_ret
      exact ⟨by rw [HE.out]; first | done | rfl | go_num, Kept.refl _⟩
    · have bh1 : (k == 3) = false := beq_eq_false_iff_ne.2 h1
      by_cases h2 : k = 4
      · have bh2 : (k == 4) = true := beq_iff_eq.2 h2
        have HE := Lib.hid (show kT k = ⟨#[115, 101, 109, 105, 45, 114]⟩ by unfold kT; rw [if_neg h0, if_neg h1, if_pos h2])
        clear h0 h1 h2
        go_enter Tryd.func31, Tryd.ntmps31
        go_wp2
        go_ret
        exact ⟨by rw [HE.out]; first | done | rfl | go_num, Kept.refl _⟩
      · have bh2 : (k == 4) = false := beq_eq_false_iff_ne.2 h2
        by_cases h3 : k = 5
        · have bh3 : (k == 5) = true := beq_iff_eq.2 h3
          have HE := Lib.hid (show kT k = ⟨#[104]⟩ by unfold kT; rw [if_neg h0, if_neg h1, if_neg h2, if_pos h3])
          clear h0 h1 h2 h3
          go_enter Tryd.func31, Tryd.ntmps31
          go_wp2
          go_ret
          exact ⟨by rw [HE.out]; first | done | rfl | go_num, Kept.refl _⟩
        · have bh3 : (k == 5) = false := beq_eq_false_iff_ne.2 h3
          by_cases h4 : k = 6
          · have bh4 : (k == 6) = true := beq_iff_eq.2 h4
            have HE := Lib.hid (show kT k = ⟨#[115, 101, 114, 45, 104]⟩ by unfold kT; rw [if_neg h0, if_neg h1, if_neg h2, if_neg h3, if_pos h4])
            clear h0 h1 h2 h3 h4
            go_enter Tryd.func31, Tryd.ntmps31
            go_wp2
            go_ret
            exact ⟨by rw [HE.out]; first | done | rfl | go_num, Kept.refl _⟩
          · have bh4 : (k == 6) = false := beq_eq_false_iff_ne.2 h4
            by_cases h5 : k = 7
            · have bh5 : (k == 7) = true := beq_iff_eq.2 h5
              have HE := Lib.hid (show kT k = ⟨#[115, 101, 114, 45]⟩ by unfold kT; rw [if_neg h0, if_neg h1, if_neg h2, if_neg h3, if_neg h4, if_pos h5])
              clear h0 h1 h2 h3 h4 h5
              go_enter Tryd.func31, Tryd.ntmps31
              go_wp2
              go_ret
              exact ⟨by rw [HE.out]; first | done | rfl | go_num, Kept.refl _⟩
            · have bh5 : (k == 7) = false := beq_eq_false_iff_ne.2 h5
              by_cases h6 : k = 8
              · have bh6 : (k == 8) = true := beq_iff_eq.2 h6
                have HE := Lib.hid (show kT k = ⟨#[100, 105, 97, 32]⟩ by unfold kT; rw [if_neg h0, if_neg h1, if_neg h2, if_neg h3, if_neg h4, if_neg h5, if_pos h6])
                clear h0 h1 h2 h3 h4 h5 h6
                go_enter Tryd.func31, Tryd.ntmps31
                go_wp2
                go_ret
                exact ⟨by rw [HE.out]; first | done | rfl | go_num, Kept.refl _⟩
              · have bh6 : (k == 8) = false := beq_eq_false_iff_ne.2 h6
                have HE := Lib.hid (show kT k = ⟨#[]⟩ by unfold kT; rw [if_neg h0, if_neg h1, if_neg h2, if_neg h3, if_neg h4, if_neg h5, if_neg h6])
                clear h0 h1 h2 h3 h4 h5 h6
                go_enter Tryd.func31, Tryd.ntmps31
                go_wp2
                go_ret
                exact ⟨by rw [HE.out]; first | done | rfl | go_num, Kept.refl _⟩
theorem rgT_is (g : Int) (w : World) : Calls Tryd.prog 32 #[.int .i64 g] w fun e w' => e = .returned (.string (gT g)) ∧ Kept w w' := by
  by_cases h0 : g = 1
  · have bh0 : (g == 1) = true := beq_iff_eq.2 h0
    have nh0 : (g != 1) = false := by rw [bne_eq_false_iff_eq]; exact h0
    have HE := Lib.hid (show gT g = ⟨#[35]⟩ by unfold gT; rw [if_pos h0])
    clear h0
    go_enter Tryd.func32, Tryd.ntmps32
    go_wp2
    go_ret
    exact ⟨by rw [HE.out]; first | done | rfl | go_num, Kept.refl _⟩
  · have bh0 : (g == 1) = false := beq_eq_false_iff_ne.2 h0
    have nh0 : (g != 1) = true := bne_iff_ne.2 h0
    by_cases h1 : g = 2
    · have bh1 : (g == 2) = true := beq_iff_eq.2 h1
      have nh1 : (g != 2) = false := by rw [bne_eq_false_iff_eq]; exact h1
      have HE := Lib.hid (show gT g = ⟨#[61]⟩ by unfold gT; rw [if_neg h0, if_pos h1])
      clear h0 h1
      go_enter Tryd.func32, Tryd.ntmps32
      go_wp2
      go_ret
      exact ⟨by rw [HE.out]; first | done | rfl | go_num, Kept.refl _⟩
    · have bh1 : (g == 2) = false := beq_eq_false_iff_ne.2 h1
      have nh1 : (g != 2) = true := bne_iff_ne.2 h1
      have HE := Lib.hid (show gT g = ⟨#[]⟩ by unfold gT; rw [if_neg h0, if_neg h1])
      clear h0 h1
      go_enter Tryd.func32, Tryd.ntmps32
      go_wp2
      go_ret
      exact ⟨by rw [HE.out]; first | done | rfl | go_num, Kept.refl _⟩
end Go.Proofs.YtnlgjakohoimhaaDoor
