/- Stipulations: Mover. -/
import Derived.Test.YtnlgjakohoimhaaDoorSiI
namespace Go.Proofs.YtnlgjakohoimhaaDoor
open Go.RowKit
set_option linter.unusedVariables false
set_option linter.unusedSimpArgs false
set_option maxRecDepth 100000
set_option maxHeartbeats 4000000

theorem other_side (f : Int) (h : f = 0 ∨ f = 1) (w : World) : Calls Tryd.prog 34 #[.int .i64 f] w fun e w' => e = .returned (.int .i64 (1 - f)) ∧ w = w' := by
  rcases h with rfl | rfl
  · exact other_w w
  · exact other_b w
theorem mov_no {s : Stp} {f p : Int} (h : ¬ ((f = 0 ∨ f = 1) ∧ 0 ≤ p ∧ p < plyI s)) : movI s f p = -1 := by unfold movI; rw [if_neg h]
theorem mov_yes {s : Stp} {f p : Int} (h : (f = 0 ∨ f = 1) ∧ 0 ≤ p ∧ p < plyI s) : movI s f p = if (s.k = 5 ∧ p % 2 = 1) ∨ (s.k = 6 ∧ p = s.n) then 1 - f else f := by unfold movI; rw [if_pos h]
theorem mover_q (s : Stp) (f p : Int) (wf : (Lit.int .i64 f).wf = true) (wp : (Lit.int .i64 p).wf = true) (w : World) : Calls Tryd.prog 17 #[qv s, .int .i64 f, .int .i64 p] w fun e w' => e = .returned (.int .i64 (movI s f p)) ∧ Kept w w' := by
  have HW := Lib.hid (TAt.new w s)
  have HK := Lib.hid ((Kept.refl w).alloc (.cells (ql s).toArray 24))
  obtain ⟨k, g, n, h⟩ := s
  unfold qv
  unfold ql at HK
  dsimp only at HK ⊢
  have HP := Lib.hid (plies_q ⟨k, g, n, h⟩)
  obtain ⟨q, hq⟩ : ∃ q, plyI ⟨k, g, n, h⟩ = q := ⟨_, rfl⟩
  rw [hq] at HP
  by_cases hf : f = 0 ∨ f = 1
  · have HO := Lib.hid (other_side f hf)
    have o0 : 0 ≤ 1 - f := by omega
    obtain ⟨o, ho⟩ : ∃ o, 1 - f = o := ⟨_, rfl⟩
    rw [ho] at HO o0
    by_cases hp : 0 ≤ p
    · obtain ⟨P, rfl⟩ : ∃ P : Nat, p = P := ⟨p.toNat, by omega⟩
      by_cases hpq : (P : Int) < q
      · have he := mov_yes (s := ⟨k, g, n, h⟩) (f := f) (p := P) ⟨hf, by omega, by rw [hq]; exact hpq⟩
        rw [ho] at he
        dsimp only at he
        have hpq' : ¬ q ≤ (P : Int) := by omega
        clear hf hp
        by_cases h5 : k = 5
        · have b5 : (k == 5) = true := beq_iff_eq.2 h5
          by_cases h2 : (P : Int) % 2 = 1
          · have b2 : ((P : Int) % 2 == 1) = true := beq_iff_eq.2 h2
            have HE := Lib.hid (he.trans (if_pos (.inl ⟨h5, h2⟩)))
            clear he h5 h2 ho
            go_enter Tryd.func17, Tryd.ntmps17
            go_wp2_with fail
            refine (HO.out _).mono ?_
            rintro e w' ⟨rfl, rfl⟩
            go_wp2_with (refine wpList_load_q (by rfl) _ rfl _ 0 rfl ⟨k, g, n, h⟩ HW.out.range ?_)
            refine (HP.out _).mono ?_
            rintro e w2 ⟨rfl, g2⟩
            have HK2 := Lib.hid (HK.out.trans g2)
            have hk := (HW.out.kept g2).k
            have hnn := (HW.out.kept g2).n
            clear g2
            go_wp2
            go_ret
            exact ⟨by rw [HE.out]; first | done | rfl, HK2.out⟩
          · have b2 : ((P : Int) % 2 == 1) = false := beq_eq_false_iff_ne.2 h2
            have b6 : (k == 6) = false := beq_eq_false_iff_ne.2 (by omega)
            have HE := Lib.hid (he.trans (if_neg (by rintro (x | x); exact h2 x.2; have := x.1; omega)))
            clear he h5 h2 ho
            go_enter Tryd.func17, Tryd.ntmps17
            go_wp2_with fail
            refine (HO.out _).mono ?_
            rintro e w' ⟨rfl, rfl⟩
            go_wp2_with (refine wpList_load_q (by rfl) _ rfl _ 0 rfl ⟨k, g, n, h⟩ HW.out.range ?_)
            refine (HP.out _).mono ?_
            rintro e w2 ⟨rfl, g2⟩
            have HK2 := Lib.hid (HK.out.trans g2)
            have hk := (HW.out.kept g2).k
            have hnn := (HW.out.kept g2).n
            clear g2
            go_wp2
            go_ret
            exact ⟨by rw [HE.out]; first | done | rfl, HK2.out⟩
        · have b5 : (k == 5) = false := beq_eq_false_iff_ne.2 h5
          by_cases h6 : k = 6
          · have b6 : (k == 6) = true := beq_iff_eq.2 h6
            by_cases hn : (P : Int) = n
            · have bn : ((P : Int) == n) = true := beq_iff_eq.2 hn
              have HE := Lib.hid (he.trans (if_pos (.inr ⟨h6, hn⟩)))
              clear he h5 h6 hn ho
              go_enter Tryd.func17, Tryd.ntmps17
              go_wp2_with fail
              refine (HO.out _).mono ?_
              rintro e w' ⟨rfl, rfl⟩
              go_wp2_with (refine wpList_load_q (by rfl) _ rfl _ 0 rfl ⟨k, g, n, h⟩ HW.out.range ?_)
              refine (HP.out _).mono ?_
              rintro e w2 ⟨rfl, g2⟩
              have HK2 := Lib.hid (HK.out.trans g2)
              have hk := (HW.out.kept g2).k
              have hnn := (HW.out.kept g2).n
              clear g2
              go_wp2
              go_ret
              exact ⟨by rw [HE.out]; first | done | rfl, HK2.out⟩
            · have bn : ((P : Int) == n) = false := beq_eq_false_iff_ne.2 hn
              have HE := Lib.hid (he.trans (if_neg (by rintro (x | x); exact h5 x.1; exact hn x.2)))
              clear he h5 h6 hn ho
              go_enter Tryd.func17, Tryd.ntmps17
              go_wp2_with fail
              refine (HO.out _).mono ?_
              rintro e w' ⟨rfl, rfl⟩
              go_wp2_with (refine wpList_load_q (by rfl) _ rfl _ 0 rfl ⟨k, g, n, h⟩ HW.out.range ?_)
              refine (HP.out _).mono ?_
              rintro e w2 ⟨rfl, g2⟩
              have HK2 := Lib.hid (HK.out.trans g2)
              have hk := (HW.out.kept g2).k
              have hnn := (HW.out.kept g2).n
              clear g2
              go_wp2
              go_ret
              exact ⟨by rw [HE.out]; first | done | rfl, HK2.out⟩
          · have b6 : (k == 6) = false := beq_eq_false_iff_ne.2 h6
            have HE := Lib.hid (he.trans (if_neg (by rintro (x | x); exact h5 x.1; exact h6 x.1)))
            clear he h5 h6 ho
            go_enter Tryd.func17, Tryd.ntmps17
            go_wp2_with fail
            refine (HO.out _).mono ?_
            rintro e w' ⟨rfl, rfl⟩
            go_wp2_with (refine wpList_load_q (by rfl) _ rfl _ 0 rfl ⟨k, g, n, h⟩ HW.out.range ?_)
            refine (HP.out _).mono ?_
            rintro e w2 ⟨rfl, g2⟩
            have HK2 := Lib.hid (HK.out.trans g2)
            have hk := (HW.out.kept g2).k
            have hnn := (HW.out.kept g2).n
            clear g2
            go_wp2
            go_ret
            exact ⟨by rw [HE.out]; first | done | rfl, HK2.out⟩
      · have HE := Lib.hid (mov_no (s := ⟨k, g, n, h⟩) (f := f) (p := P) (by rw [hq]; omega))
        have hpq' : q ≤ (P : Int) := by omega
        clear hf hp hpq ho
        go_enter Tryd.func17, Tryd.ntmps17
        go_wp2_with fail
        refine (HO.out _).mono ?_
        rintro e w' ⟨rfl, rfl⟩
        go_wp2_with (refine wpList_load_q (by rfl) _ rfl _ 0 rfl ⟨k, g, n, h⟩ HW.out.range ?_)
        refine (HP.out _).mono ?_
        rintro e w2 ⟨rfl, g2⟩
        have HK2 := Lib.hid (HK.out.trans g2)
        clear g2
        go_wp2
        go_ret
        exact ⟨by rw [HE.out]; first | done | rfl, HK2.out⟩
    · have HE := Lib.hid (mov_no (s := ⟨k, g, n, h⟩) (f := f) (p := p) (by omega))
      have hp' : p < 0 := by omega
      clear hf hp ho
      go_enter Tryd.func17, Tryd.ntmps17
      go_wp2_with fail
      refine (HO.out _).mono ?_
      rintro e w' ⟨rfl, rfl⟩
      go_wp2
      go_ret
      exact ⟨by rw [HE.out]; first | done | rfl, HK.out⟩
  · have HE := Lib.hid (mov_no (s := ⟨k, g, n, h⟩) (f := f) (p := p) (fun x => hf x.1))
    have HO := Lib.hid (fun w => other_no f w (fun x => hf (.inl x)) (fun x => hf (.inr x)))
    clear hf
    go_enter Tryd.func17, Tryd.ntmps17
    go_wp2_with fail
    refine (HO.out _).mono ?_
    rintro e w' ⟨rfl, rfl⟩
    go_wp2
    go_ret
    exact ⟨by rw [HE.out]; first | done | rfl, HK.out⟩
end Go.Proofs.YtnlgjakohoimhaaDoor
