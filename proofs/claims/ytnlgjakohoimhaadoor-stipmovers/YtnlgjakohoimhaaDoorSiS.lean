/- The law StipMovers walked. -/
import Derived.Test.YtnlgjakohoimhaaDoorSiP
namespace Go.Proofs.YtnlgjakohoimhaaDoor
open Go.RowKit
set_option linter.unusedVariables false
set_option linter.unusedSimpArgs false
set_option maxRecDepth 100000
set_option maxHeartbeats 4000000

theorem walkStipMovers (s : Stp) (f : Int) (wf : (Lit.int .i64 f).wf = true) (p : Int) (wp : (Lit.int .i64 p).wf = true) (w : World) (hT : TabS w) :
    Calls Tryd.prog 5 #[qv s, .int .i64 f, .int .i64 p] w fun e w' => e = .returned (.bool true) ∧ Kept w w' := by
  have HW := Lib.hid (TAt.new w s)
  have HK := Lib.hid ((Kept.refl w).alloc (.cells (ql s).toArray 24))
  have HWk := Lib.hid (fun w h => stip_wakes w h)
  have HMv := Lib.hid (mover_q s f p wf wp)
  have HRt := Lib.hid (rright_q s)
  have HT := Lib.hid (hT.kept HK.out)
  clear hT
  obtain ⟨b, hb⟩ : ∃ b, okS s = b := ⟨_, rfl⟩
  rw [hb] at HRt
  cases b
  · have hv : movI s f p = -1 := mov_no (by rw [plyI_no hb]; omega)
    rw [hv] at HMv
    obtain ⟨k, g, n, h⟩ := s
    unfold qv
    dsimp only at *
    go_enter Tryd.func5, Tryd.ntmps5
    go_wp2_with fail
    refine (HWk.out _ HT.out).mono ?_
    rintro e w1 ⟨rfl, k1⟩
    have HW1 := Lib.hid (HW.out.kept k1)
    have HK1 := Lib.hid (HK.out.trans k1)
    clear k1
    go_wp2_with ((with_reducible refine wpList_load_q rfl _ rfl w.heap.size 0 ?_ ⟨k, g, n, h⟩ HW1.out.range ?_); exact rfl)
    refine (HMv.out _).mono ?_
    rintro e w2 ⟨rfl, k2⟩
    have HW2 := Lib.hid (HW1.out.kept k2)
    have HK2 := Lib.hid (HK1.out.trans k2)
    clear k2
    go_wp2_with ((with_reducible refine wpList_load_q rfl _ rfl w.heap.size 0 ?_ ⟨k, g, n, h⟩ HW2.out.range ?_); exact rfl)
    refine (HRt.out _).mono ?_
    rintro e w3 ⟨rfl, k3⟩
    have HW3 := Lib.hid (HW2.out.kept k3)
    have HK3 := Lib.hid (HK2.out.trans k3)
    have hk := HW3.out.k
    clear k3
    go_wp2
    go_ret
    exact ⟨rfl, HK3.out⟩
  · have HPl := Lib.hid (rplies_q s hb)
    have hq0 : 0 ≤ plyI s ∧ plyI s ≤ 200 := by
      have := okS_bounds hb
      rw [plyI_is hb]
      repeat' split
      all_goals omega
    have hp6 : s.k = 6 → plyI s = s.n + 1 := fun h => by rw [plyI_is hb, if_neg (by omega), if_pos h]
    have hno : ∀ {x : Int}, movI s f p = x → ¬ ((f = 0 ∨ f = 1) ∧ 0 ≤ p ∧ p < plyI s) → x = -1 := fun h1 h2 => by rw [← h1]; exact mov_no h2
    have hyes : ∀ {x : Int}, movI s f p = x → ((f = 0 ∨ f = 1) ∧ 0 ≤ p ∧ p < plyI s) → x = if (s.k = 5 ∧ p % 2 = 1) ∨ (s.k = 6 ∧ p = s.n) then 1 - f else f := fun h1 h2 => by rw [← h1]; exact mov_yes h2
    obtain ⟨v, hv⟩ : ∃ v, movI s f p = v := ⟨_, rfl⟩
    replace hno := hno hv
    replace hyes := hyes hv
    rw [hv] at HMv
    obtain ⟨q, hq⟩ : ∃ q, plyI s = q := ⟨_, rfl⟩
    rw [hq] at hq0 hp6 hno hyes HPl
    obtain ⟨q0, q1⟩ := hq0
    clear hv hq
    by_cases hf0 : f < 0
    · have hvb : (v == -1) = true := beq_iff_eq.2 (hno (by omega))
      clear hno hyes hp6
      obtain ⟨k, g, n, h⟩ := s
      unfold qv
      dsimp only at *
      go_enter Tryd.func5, Tryd.ntmps5
      go_wp2_with fail
      refine (HWk.out _ HT.out).mono ?_
      rintro e w1 ⟨rfl, k1⟩
      have HW1 := Lib.hid (HW.out.kept k1)
      have HK1 := Lib.hid (HK.out.trans k1)
      clear k1
      go_wp2_with ((with_reducible refine wpList_load_q rfl _ rfl w.heap.size 0 ?_ ⟨k, g, n, h⟩ HW1.out.range ?_); exact rfl)
      refine (HMv.out _).mono ?_
      rintro e w2 ⟨rfl, k2⟩
      have HW2 := Lib.hid (HW1.out.kept k2)
      have HK2 := Lib.hid (HK1.out.trans k2)
      clear k2
      go_wp2_with ((with_reducible refine wpList_load_q rfl _ rfl w.heap.size 0 ?_ ⟨k, g, n, h⟩ HW2.out.range ?_); exact rfl)
      refine (HRt.out _).mono ?_
      rintro e w3 ⟨rfl, k3⟩
      have HW3 := Lib.hid (HW2.out.kept k3)
      have HK3 := Lib.hid (HK2.out.trans k3)
      have hk := HW3.out.k
      clear k3
      go_wp2
      go_ret
      exact ⟨rfl, HK3.out⟩
    · by_cases hf1 : 1 < f
      · have hvb : (v == -1) = true := beq_iff_eq.2 (hno (by omega))
        clear hno hyes hp6
        obtain ⟨k, g, n, h⟩ := s
        unfold qv
        dsimp only at *
        go_enter Tryd.func5, Tryd.ntmps5
        go_wp2_with fail
        refine (HWk.out _ HT.out).mono ?_
        rintro e w1 ⟨rfl, k1⟩
        have HW1 := Lib.hid (HW.out.kept k1)
        have HK1 := Lib.hid (HK.out.trans k1)
        clear k1
        go_wp2_with ((with_reducible refine wpList_load_q rfl _ rfl w.heap.size 0 ?_ ⟨k, g, n, h⟩ HW1.out.range ?_); exact rfl)
        refine (HMv.out _).mono ?_
        rintro e w2 ⟨rfl, k2⟩
        have HW2 := Lib.hid (HW1.out.kept k2)
        have HK2 := Lib.hid (HK1.out.trans k2)
        clear k2
        go_wp2_with ((with_reducible refine wpList_load_q rfl _ rfl w.heap.size 0 ?_ ⟨k, g, n, h⟩ HW2.out.range ?_); exact rfl)
        refine (HRt.out _).mono ?_
        rintro e w3 ⟨rfl, k3⟩
        have HW3 := Lib.hid (HW2.out.kept k3)
        have HK3 := Lib.hid (HK2.out.trans k3)
        have hk := HW3.out.k
        clear k3
        go_wp2
        go_ret
        exact ⟨rfl, HK3.out⟩
      · by_cases hp0 : p < 0
        · have hvb : (v == -1) = true := beq_iff_eq.2 (hno (by omega))
          clear hno hyes hp6
          obtain ⟨k, g, n, h⟩ := s
          unfold qv
          dsimp only at *
          go_enter Tryd.func5, Tryd.ntmps5
          go_wp2_with fail
          refine (HWk.out _ HT.out).mono ?_
          rintro e w1 ⟨rfl, k1⟩
          have HW1 := Lib.hid (HW.out.kept k1)
          have HK1 := Lib.hid (HK.out.trans k1)
          clear k1
          go_wp2_with ((with_reducible refine wpList_load_q rfl _ rfl w.heap.size 0 ?_ ⟨k, g, n, h⟩ HW1.out.range ?_); exact rfl)
          refine (HMv.out _).mono ?_
          rintro e w2 ⟨rfl, k2⟩
          have HW2 := Lib.hid (HW1.out.kept k2)
          have HK2 := Lib.hid (HK1.out.trans k2)
          clear k2
          go_wp2_with ((with_reducible refine wpList_load_q rfl _ rfl w.heap.size 0 ?_ ⟨k, g, n, h⟩ HW2.out.range ?_); exact rfl)
          refine (HRt.out _).mono ?_
          rintro e w3 ⟨rfl, k3⟩
          have HW3 := Lib.hid (HW2.out.kept k3)
          have HK3 := Lib.hid (HK2.out.trans k3)
          have hk := HW3.out.k
          clear k3
          go_wp2
          go_ret
          exact ⟨rfl, HK3.out⟩
        · have d0 : decide (f < 0) = false := decide_eq_false hf0
          have d1 : decide (1 < f) = false := decide_eq_false hf1
          have d2 : decide (p < 0) = false := decide_eq_false hp0
          by_cases hpq : q ≤ p
          · have hvb : (v == -1) = true := beq_iff_eq.2 (hno (by omega))
            clear hno hyes hp6
            obtain ⟨k, g, n, h⟩ := s
            unfold qv
            dsimp only at *
            go_enter Tryd.func5, Tryd.ntmps5
            go_wp2_with fail
            refine (HWk.out _ HT.out).mono ?_
            rintro e w1 ⟨rfl, k1⟩
            have HW1 := Lib.hid (HW.out.kept k1)
            have HK1 := Lib.hid (HK.out.trans k1)
            clear k1
            go_wp2_with ((with_reducible refine wpList_load_q rfl _ rfl w.heap.size 0 ?_ ⟨k, g, n, h⟩ HW1.out.range ?_); exact rfl)
            refine (HMv.out _).mono ?_
            rintro e w2 ⟨rfl, k2⟩
            have HW2 := Lib.hid (HW1.out.kept k2)
            have HK2 := Lib.hid (HK1.out.trans k2)
            clear k2
            go_wp2_with ((with_reducible refine wpList_load_q rfl _ rfl w.heap.size 0 ?_ ⟨k, g, n, h⟩ HW2.out.range ?_); exact rfl)
            refine (HRt.out _).mono ?_
            rintro e w3 ⟨rfl, k3⟩
            have HW3 := Lib.hid (HW2.out.kept k3)
            have HK3 := Lib.hid (HK2.out.trans k3)
            have hk := HW3.out.k
            clear k3
            go_wp2_with (refine wpList_load_q (by rfl) _ rfl w.heap.size 0 rfl ⟨k, g, n, h⟩ HW3.out.range ?_)
            refine (HPl.out _).mono ?_
            rintro e w4 ⟨rfl, k4⟩
            have HW4 := Lib.hid (HW3.out.kept k4)
            have HK4 := Lib.hid (HK3.out.trans k4)
            have hk4 := HW4.out.k
            clear k4
            go_wp2
            go_ret
            exact ⟨rfl, HK4.out⟩
          · have he := hyes ⟨by omega, by omega, by omega⟩
            clear hno hyes
            obtain ⟨P, rfl⟩ : ∃ P : Nat, p = P := ⟨p.toNat, by omega⟩
            have h5f := @he
            by_cases h5 : s.k = 5
            · have b5 : (s.k == 5) = true := beq_iff_eq.2 h5
              have b6 : (s.k == 6) = false := beq_eq_false_iff_ne.2 (by omega)
              by_cases h2 : (P : Int) % 2 = 1
              · have b2 : ((P : Int) % 2 == 1) = true := beq_iff_eq.2 h2
                have hvb : (v == 1 - f) = true := beq_iff_eq.2 (he.trans (if_pos (.inl ⟨h5, h2⟩)))
                clear he h5f h5 h2 hp6
                obtain ⟨k, g, n, h⟩ := s
                unfold qv
                dsimp only at *
                go_enter Tryd.func5, Tryd.ntmps5
                go_wp2_with fail
                refine (HWk.out _ HT.out).mono ?_
                rintro e w1 ⟨rfl, k1⟩
                have HW1 := Lib.hid (HW.out.kept k1)
                have HK1 := Lib.hid (HK.out.trans k1)
                clear k1
                go_wp2_with ((with_reducible refine wpList_load_q rfl _ rfl w.heap.size 0 ?_ ⟨k, g, n, h⟩ HW1.out.range ?_); exact rfl)
                refine (HMv.out _).mono ?_
                rintro e w2 ⟨rfl, k2⟩
                have HW2 := Lib.hid (HW1.out.kept k2)
                have HK2 := Lib.hid (HK1.out.trans k2)
                clear k2
                go_wp2_with ((with_reducible refine wpList_load_q rfl _ rfl w.heap.size 0 ?_ ⟨k, g, n, h⟩ HW2.out.range ?_); exact rfl)
                refine (HRt.out _).mono ?_
                rintro e w3 ⟨rfl, k3⟩
                have HW3 := Lib.hid (HW2.out.kept k3)
                have HK3 := Lib.hid (HK2.out.trans k3)
                have hk := HW3.out.k
                clear k3
                go_wp2_with (refine wpList_load_q (by rfl) _ rfl w.heap.size 0 rfl ⟨k, g, n, h⟩ HW3.out.range ?_)
                refine (HPl.out _).mono ?_
                rintro e w4 ⟨rfl, k4⟩
                have HW4 := Lib.hid (HW3.out.kept k4)
                have HK4 := Lib.hid (HK3.out.trans k4)
                have hk4 := HW4.out.k
                clear k4
                go_wp2
                go_ret
                exact ⟨rfl, HK4.out⟩
              · have b2 : ((P : Int) % 2 == 1) = false := beq_eq_false_iff_ne.2 h2
                have hvb : (v == f) = true := beq_iff_eq.2 (he.trans (if_neg (by rintro (x | x); exact h2 x.2; have := x.1; omega)))
                clear he h5f h5 h2 hp6
                obtain ⟨k, g, n, h⟩ := s
                unfold qv
                dsimp only at *
                go_enter Tryd.func5, Tryd.ntmps5
                go_wp2_with fail
                refine (HWk.out _ HT.out).mono ?_
                rintro e w1 ⟨rfl, k1⟩
                have HW1 := Lib.hid (HW.out.kept k1)
                have HK1 := Lib.hid (HK.out.trans k1)
                clear k1
                go_wp2_with ((with_reducible refine wpList_load_q rfl _ rfl w.heap.size 0 ?_ ⟨k, g, n, h⟩ HW1.out.range ?_); exact rfl)
                refine (HMv.out _).mono ?_
                rintro e w2 ⟨rfl, k2⟩
                have HW2 := Lib.hid (HW1.out.kept k2)
                have HK2 := Lib.hid (HK1.out.trans k2)
                clear k2
                go_wp2_with ((with_reducible refine wpList_load_q rfl _ rfl w.heap.size 0 ?_ ⟨k, g, n, h⟩ HW2.out.range ?_); exact rfl)
                refine (HRt.out _).mono ?_
                rintro e w3 ⟨rfl, k3⟩
                have HW3 := Lib.hid (HW2.out.kept k3)
                have HK3 := Lib.hid (HK2.out.trans k3)
                have hk := HW3.out.k
                clear k3
                go_wp2_with (refine wpList_load_q (by rfl) _ rfl w.heap.size 0 rfl ⟨k, g, n, h⟩ HW3.out.range ?_)
                refine (HPl.out _).mono ?_
                rintro e w4 ⟨rfl, k4⟩
                have HW4 := Lib.hid (HW3.out.kept k4)
                have HK4 := Lib.hid (HK3.out.trans k4)
                have hk4 := HW4.out.k
                clear k4
                go_wp2
                go_ret
                exact ⟨rfl, HK4.out⟩
            · have b5 : (s.k == 5) = false := beq_eq_false_iff_ne.2 h5
              by_cases h6 : s.k = 6
              · have b6 : (s.k == 6) = true := beq_iff_eq.2 h6
                have hq6 := hp6 h6
                by_cases hn : (P : Int) = s.n
                · have bn : ((P : Int) == q - 1) = true := beq_iff_eq.2 (by omega)
                  have hvb : (v == 1 - f) = true := beq_iff_eq.2 (he.trans (if_pos (.inr ⟨h6, hn⟩)))
                  clear he h5f h5 h6 hn hq6 hp6
                  obtain ⟨k, g, n, h⟩ := s
                  unfold qv
                  dsimp only at *
                  go_enter Tryd.func5, Tryd.ntmps5
                  go_wp2_with fail
                  refine (HWk.out _ HT.out).mono ?_
                  rintro e w1 ⟨rfl, k1⟩
                  have HW1 := Lib.hid (HW.out.kept k1)
                  have HK1 := Lib.hid (HK.out.trans k1)
                  clear k1
                  go_wp2_with ((with_reducible refine wpList_load_q rfl _ rfl w.heap.size 0 ?_ ⟨k, g, n, h⟩ HW1.out.range ?_); exact rfl)
                  refine (HMv.out _).mono ?_
                  rintro e w2 ⟨rfl, k2⟩
                  have HW2 := Lib.hid (HW1.out.kept k2)
                  have HK2 := Lib.hid (HK1.out.trans k2)
                  clear k2
                  go_wp2_with ((with_reducible refine wpList_load_q rfl _ rfl w.heap.size 0 ?_ ⟨k, g, n, h⟩ HW2.out.range ?_); exact rfl)
                  refine (HRt.out _).mono ?_
                  rintro e w3 ⟨rfl, k3⟩
                  have HW3 := Lib.hid (HW2.out.kept k3)
                  have HK3 := Lib.hid (HK2.out.trans k3)
                  have hk := HW3.out.k
                  clear k3
                  go_wp2_with (refine wpList_load_q (by rfl) _ rfl w.heap.size 0 rfl ⟨k, g, n, h⟩ HW3.out.range ?_)
                  refine (HPl.out _).mono ?_
                  rintro e w4 ⟨rfl, k4⟩
                  have HW4 := Lib.hid (HW3.out.kept k4)
                  have HK4 := Lib.hid (HK3.out.trans k4)
                  have hk4 := HW4.out.k
                  clear k4
                  go_wp2_with (refine wpList_load_q (by rfl) _ rfl w.heap.size 0 rfl ⟨k, g, n, h⟩ HW4.out.range ?_)
                  refine (HPl.out _).mono ?_
                  rintro e w5 ⟨rfl, k5⟩
                  have HW5 := Lib.hid (HW4.out.kept k5)
                  have HK5 := Lib.hid (HK4.out.trans k5)
                  have hk5 := HW5.out.k
                  clear k5
                  go_wp2
                  go_ret
                  exact ⟨rfl, HK5.out⟩
                · have bn : ((P : Int) == q - 1) = false := beq_eq_false_iff_ne.2 (by omega)
                  have hvb : (v == f) = true := beq_iff_eq.2 (he.trans (if_neg (by rintro (x | x); exact h5 x.1; exact hn x.2)))
                  clear he h5f h5 h6 hn hq6 hp6
                  obtain ⟨k, g, n, h⟩ := s
                  unfold qv
                  dsimp only at *
                  go_enter Tryd.func5, Tryd.ntmps5
                  go_wp2_with fail
                  refine (HWk.out _ HT.out).mono ?_
                  rintro e w1 ⟨rfl, k1⟩
                  have HW1 := Lib.hid (HW.out.kept k1)
                  have HK1 := Lib.hid (HK.out.trans k1)
                  clear k1
                  go_wp2_with ((with_reducible refine wpList_load_q rfl _ rfl w.heap.size 0 ?_ ⟨k, g, n, h⟩ HW1.out.range ?_); exact rfl)
                  refine (HMv.out _).mono ?_
                  rintro e w2 ⟨rfl, k2⟩
                  have HW2 := Lib.hid (HW1.out.kept k2)
                  have HK2 := Lib.hid (HK1.out.trans k2)
                  clear k2
                  go_wp2_with ((with_reducible refine wpList_load_q rfl _ rfl w.heap.size 0 ?_ ⟨k, g, n, h⟩ HW2.out.range ?_); exact rfl)
                  refine (HRt.out _).mono ?_
                  rintro e w3 ⟨rfl, k3⟩
                  have HW3 := Lib.hid (HW2.out.kept k3)
                  have HK3 := Lib.hid (HK2.out.trans k3)
                  have hk := HW3.out.k
                  clear k3
                  go_wp2_with (refine wpList_load_q (by rfl) _ rfl w.heap.size 0 rfl ⟨k, g, n, h⟩ HW3.out.range ?_)
                  refine (HPl.out _).mono ?_
                  rintro e w4 ⟨rfl, k4⟩
                  have HW4 := Lib.hid (HW3.out.kept k4)
                  have HK4 := Lib.hid (HK3.out.trans k4)
                  have hk4 := HW4.out.k
                  clear k4
                  go_wp2_with (refine wpList_load_q (by rfl) _ rfl w.heap.size 0 rfl ⟨k, g, n, h⟩ HW4.out.range ?_)
                  refine (HPl.out _).mono ?_
                  rintro e w5 ⟨rfl, k5⟩
                  have HW5 := Lib.hid (HW4.out.kept k5)
                  have HK5 := Lib.hid (HK4.out.trans k5)
                  have hk5 := HW5.out.k
                  clear k5
                  go_wp2
                  go_ret
                  exact ⟨rfl, HK5.out⟩
              · have b6 : (s.k == 6) = false := beq_eq_false_iff_ne.2 h6
                have hvb : (v == f) = true := beq_iff_eq.2 (he.trans (if_neg (by rintro (x | x); exact h5 x.1; exact h6 x.1)))
                clear he h5f h5 h6 hp6
                obtain ⟨k, g, n, h⟩ := s
                unfold qv
                dsimp only at *
                go_enter Tryd.func5, Tryd.ntmps5
                go_wp2_with fail
                refine (HWk.out _ HT.out).mono ?_
                rintro e w1 ⟨rfl, k1⟩
                have HW1 := Lib.hid (HW.out.kept k1)
                have HK1 := Lib.hid (HK.out.trans k1)
                clear k1
                go_wp2_with ((with_reducible refine wpList_load_q rfl _ rfl w.heap.size 0 ?_ ⟨k, g, n, h⟩ HW1.out.range ?_); exact rfl)
                refine (HMv.out _).mono ?_
                rintro e w2 ⟨rfl, k2⟩
                have HW2 := Lib.hid (HW1.out.kept k2)
                have HK2 := Lib.hid (HK1.out.trans k2)
                clear k2
                go_wp2_with ((with_reducible refine wpList_load_q rfl _ rfl w.heap.size 0 ?_ ⟨k, g, n, h⟩ HW2.out.range ?_); exact rfl)
                refine (HRt.out _).mono ?_
                rintro e w3 ⟨rfl, k3⟩
                have HW3 := Lib.hid (HW2.out.kept k3)
                have HK3 := Lib.hid (HK2.out.trans k3)
                have hk := HW3.out.k
                clear k3
                go_wp2_with (refine wpList_load_q (by rfl) _ rfl w.heap.size 0 rfl ⟨k, g, n, h⟩ HW3.out.range ?_)
                refine (HPl.out _).mono ?_
                rintro e w4 ⟨rfl, k4⟩
                have HW4 := Lib.hid (HW3.out.kept k4)
                have HK4 := Lib.hid (HK3.out.trans k4)
                have hk4 := HW4.out.k
                clear k4
                go_wp2
                go_ret
                exact ⟨rfl, HK4.out⟩
end Go.Proofs.YtnlgjakohoimhaaDoor
