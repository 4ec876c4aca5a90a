/- Stipulations: Begins, Plies, Mover. -/
import Derived.Test.YtnlgjakohoimhaaDoorSiH
import Derived.Test.YtnlgjakohoimhaaDoorMeO
namespace Go.Proofs.YtnlgjakohoimhaaDoor
open Go.RowKit
set_option linter.unusedVariables false
set_option linter.unusedSimpArgs false
set_option maxRecDepth 100000
set_option maxHeartbeats 4000000

theorem begI_no {s : Stp} (h : okS s = false) : begI s = -1 := by unfold begI; rw [if_neg (by rw [h]; simp)]
theorem begI_is {s : Stp} (h : okS s = true) : begI s = if s.k = 6 ∨ (s.k = 5 ∧ s.h = false) then 1 else 0 := by unfold begI; rw [if_pos h]
theorem plyI_no {s : Stp} (h : okS s = false) : plyI s = -1 := by unfold plyI; rw [if_neg (by rw [h]; simp)]
theorem plyI_is {s : Stp} (h : okS s = true) : plyI s = (if s.k = 5 then (if s.h = true then 2 * s.n + 1 else 2 * s.n) else if s.k = 6 then s.n + 1 else if s.k = 7 then s.n else 0) := by unfold plyI; rw [if_pos h]
theorem begins_q (s : Stp) (w : World) : Calls Tryd.prog 12 #[qv s] w fun e w' => e = .returned (.int .i64 (begI s)) ∧ Kept w w' := by
  have HW := Lib.hid (TAt.new w s)
  have HK := Lib.hid ((Kept.refl w).alloc (.cells (ql s).toArray 24))
  obtain ⟨k, g, n, h⟩ := s
  unfold qv
  unfold ql at HK
  dsimp only at HK ⊢
  have HR := Lib.hid (right_is ⟨k, g, n, h⟩)
  obtain ⟨b, hb⟩ : ∃ b, okS ⟨k, g, n, h⟩ = b := ⟨_, rfl⟩
  have HB := Lib.hid hb
  cases b
  · have HE := Lib.hid (begI_no hb)
    clear hb
    go_enter Tryd.func12, Tryd.ntmps12
    go_wp2_with (refine wpList_load_q (by rfl) _ rfl _ 0 rfl ⟨k, g, n, h⟩ HW.out.range ?_)
    refine (HR.out _).mono ?_
    rw [HB.out]
    rintro e w2 ⟨rfl, g2⟩
    have HK2 := Lib.hid (HK.out.trans g2)
    clear g2
    go_wp2
    go_ret
    exact ⟨by rw [HE.out]; first | done | rfl, HK2.out⟩
  · have he := begI_is hb
    dsimp only at he
    clear hb
    by_cases h6 : k = 6
    · have HE := Lib.hid (he.trans (if_pos (.inl h6)))
      have b6 : (k == 6) = true := beq_iff_eq.2 h6
      clear he h6
      go_enter Tryd.func12, Tryd.ntmps12
      go_wp2_with (refine wpList_load_q (by rfl) _ rfl _ 0 rfl ⟨k, g, n, h⟩ HW.out.range ?_)
      refine (HR.out _).mono ?_
      rw [HB.out]
      rintro e w2 ⟨rfl, g2⟩
      have HK2 := Lib.hid (HK.out.trans g2)
      have hk := (HW.out.kept g2).k
      clear g2
      go_wp2
      go_ret
      exact ⟨by rw [HE.out]; first | done | rfl, HK2.out⟩
    · have b6 : (k == 6) = false := beq_eq_false_iff_ne.2 h6
      by_cases h5 : k = 5
      · have b5 : (k == 5) = true := beq_iff_eq.2 h5
        cases h
        · have HE := Lib.hid (he.trans (if_pos (.inr ⟨h5, rfl⟩)))
          clear he h6 h5
          go_enter Tryd.func12, Tryd.ntmps12
          go_wp2_with (refine wpList_load_q (by rfl) _ rfl _ 0 rfl ⟨k, g, n, false⟩ HW.out.range ?_)
          refine (HR.out _).mono ?_
          rw [HB.out]
          rintro e w2 ⟨rfl, g2⟩
          have HK2 := Lib.hid (HK.out.trans g2)
          have hk := (HW.out.kept g2).k
          have hh := (HW.out.kept g2).h
          clear g2
          go_wp2
          go_ret
          exact ⟨by rw [HE.out]; first | done | rfl, HK2.out⟩
        · have HE := Lib.hid (he.trans (if_neg (fun x => x.elim h6 (fun y => absurd y.2 (by simp)))))
          clear he h6 h5
          go_enter Tryd.func12, Tryd.ntmps12
          go_wp2_with (refine wpList_load_q (by rfl) _ rfl _ 0 rfl ⟨k, g, n, true⟩ HW.out.range ?_)
          refine (HR.out _).mono ?_
          rw [HB.out]
          rintro e w2 ⟨rfl, g2⟩
          have HK2 := Lib.hid (HK.out.trans g2)
          have hk := (HW.out.kept g2).k
          have hh := (HW.out.kept g2).h
          clear g2
          go_wp2
          go_ret
          exact ⟨by rw [HE.out]; first | done | rfl, HK2.out⟩
      · have b5 : (k == 5) = false := beq_eq_false_iff_ne.2 h5
        have HE := Lib.hid (he.trans (if_neg (fun x => x.elim h6 (fun y => h5 y.1))))
        clear he h6 h5
        go_enter Tryd.func12, Tryd.ntmps12
        go_wp2_with (refine wpList_load_q (by rfl) _ rfl _ 0 rfl ⟨k, g, n, h⟩ HW.out.range ?_)
        refine (HR.out _).mono ?_
        rw [HB.out]
        rintro e w2 ⟨rfl, g2⟩
        have HK2 := Lib.hid (HK.out.trans g2)
        have hk := (HW.out.kept g2).k
        clear g2
        go_wp2
        go_ret
        exact ⟨by rw [HE.out]; first | done | rfl, HK2.out⟩
theorem plies_q (s : Stp) (w : World) : Calls Tryd.prog 13 #[qv s] w fun e w' => e = .returned (.int .i64 (plyI s)) ∧ Kept w w' := by
  have HW := Lib.hid (TAt.new w s)
  have HK := Lib.hid ((Kept.refl w).alloc (.cells (ql s).toArray 24))
  obtain ⟨k, g, n, h⟩ := s
  unfold qv
  unfold ql at HK
  dsimp only at HK ⊢
  have HR := Lib.hid (right_is ⟨k, g, n, h⟩)
  obtain ⟨b, hb⟩ : ∃ b, okS ⟨k, g, n, h⟩ = b := ⟨_, rfl⟩
  have HB := Lib.hid hb
  cases b
  · have HE := Lib.hid (plyI_no hb)
    clear hb
    go_enter Tryd.func13, Tryd.ntmps13
    go_wp2_with (refine wpList_load_q (by rfl) _ rfl _ 0 rfl ⟨k, g, n, h⟩ HW.out.range ?_)
    refine (HR.out _).mono ?_
    rw [HB.out]
    rintro e w2 ⟨rfl, g2⟩
    have HK2 := Lib.hid (HK.out.trans g2)
    clear g2
    go_wp2
    go_ret
    exact ⟨by rw [HE.out]; first | done | rfl, HK2.out⟩
  · have he := plyI_is hb
    have hn := okS_bounds hb
    dsimp only at he hn
    obtain ⟨_, _, _, _, n0, n1⟩ := hn
    clear hb
    by_cases h5 : k = 5
    · have b5 : (k == 5) = true := beq_iff_eq.2 h5
      rw [if_pos h5] at he
      cases h
      · have HE := Lib.hid (he.trans (if_neg (by simp)))
        clear he h5
        go_enter Tryd.func13, Tryd.ntmps13
        go_wp2_with (refine wpList_load_q (by rfl) _ rfl _ 0 rfl ⟨k, g, n, false⟩ HW.out.range ?_)
        refine (HR.out _).mono ?_
        rw [HB.out]
        rintro e w2 ⟨rfl, g2⟩
        have HK2 := Lib.hid (HK.out.trans g2)
        have hk := (HW.out.kept g2).k
        have hh := (HW.out.kept g2).h
        have hnn := (HW.out.kept g2).n
        clear g2
        go_wp2
        go_ret
        exact ⟨by rw [HE.out]; first | done | rfl | go_num, HK2.out⟩
      · have HE := Lib.hid (he.trans (if_pos rfl))
        clear he h5
        go_enter Tryd.func13, Tryd.ntmps13
        go_wp2_with (refine wpList_load_q (by rfl) _ rfl _ 0 rfl ⟨k, g, n, true⟩ HW.out.range ?_)
        refine (HR.out _).mono ?_
        rw [HB.out]
        rintro e w2 ⟨rfl, g2⟩
        have HK2 := Lib.hid (HK.out.trans g2)
        have hk := (HW.out.kept g2).k
        have hh := (HW.out.kept g2).h
        have hnn := (HW.out.kept g2).n
        clear g2
        go_wp2
        go_ret
        exact ⟨by rw [HE.out]; first | done | rfl | go_num, HK2.out⟩
    · have b5 : (k == 5) = false := beq_eq_false_iff_ne.2 h5
      rw [if_neg h5] at he
      by_cases h6 : k = 6
      · have b6 : (k == 6) = true := beq_iff_eq.2 h6
        have HE := Lib.hid (he.trans (if_pos h6))
        clear he h5 h6
        go_enter Tryd.func13, Tryd.ntmps13
        go_wp2_with (refine wpList_load_q (by rfl) _ rfl _ 0 rfl ⟨k, g, n, h⟩ HW.out.range ?_)
        refine (HR.out _).mono ?_
        rw [HB.out]
        rintro e w2 ⟨rfl, g2⟩
        have HK2 := Lib.hid (HK.out.trans g2)
        have hk := (HW.out.kept g2).k
        have hnn := (HW.out.kept g2).n
        clear g2
        go_wp2
        go_ret
        exact ⟨by rw [HE.out]; first | done | rfl | go_num, HK2.out⟩
      · have b6 : (k == 6) = false := beq_eq_false_iff_ne.2 h6
        rw [if_neg h6] at he
        by_cases h7 : k = 7
        · have b7 : (k == 7) = true := beq_iff_eq.2 h7
          have HE := Lib.hid (he.trans (if_pos h7))
          clear he h5 h6 h7
          go_enter Tryd.func13, Tryd.ntmps13
          go_wp2_with (refine wpList_load_q (by rfl) _ rfl _ 0 rfl ⟨k, g, n, h⟩ HW.out.range ?_)
          refine (HR.out _).mono ?_
          rw [HB.out]
          rintro e w2 ⟨rfl, g2⟩
          have HK2 := Lib.hid (HK.out.trans g2)
          have hk := (HW.out.kept g2).k
          have hnn := (HW.out.kept g2).n
          clear g2
          go_wp2
          go_ret
          exact ⟨by rw [HE.out]; first | done | rfl | go_num, HK2.out⟩
        · have b7 : (k == 7) = false := beq_eq_false_iff_ne.2 h7
          have HE := Lib.hid (he.trans (if_neg h7))
          clear he h5 h6 h7
          go_enter Tryd.func13, Tryd.ntmps13
          go_wp2_with (refine wpList_load_q (by rfl) _ rfl _ 0 rfl ⟨k, g, n, h⟩ HW.out.range ?_)
          refine (HR.out _).mono ?_
          rw [HB.out]
          rintro e w2 ⟨rfl, g2⟩
          have HK2 := Lib.hid (HK.out.trans g2)
          have hk := (HW.out.kept g2).k
          clear g2
          go_wp2
          go_ret
          exact ⟨by rw [HE.out]; first | done | rfl | go_num, HK2.out⟩
end Go.Proofs.YtnlgjakohoimhaaDoor
