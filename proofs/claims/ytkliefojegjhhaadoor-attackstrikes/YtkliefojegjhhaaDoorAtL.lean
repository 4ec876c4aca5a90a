/- The example; walks of AttackStrikes and AttackCheck. -/
import Derived.Test.YtkliefojegjhhaaDoorAtH
namespace Go.Proofs.YtkliefojegjhhaaDoor
open Go.RowKit
set_option linter.unusedVariables false
set_option linter.unusedSimpArgs false

theorem new_is (w : World) : Calls Tryd.prog 23 #[] w fun e w' => (∃ a, e = .returned (.pointer (some a))) ∧ Kept w w' := by
  go_enter Tryd.func23, Tryd.ntmps23
  go_wp2
  go_ret
  exact ⟨⟨_, rfl⟩, (Kept.refl _).alloc _⟩
/-- A rook on a1 alone. -/
def Rb : List Int := 4 :: List.replicate 63 0
theorem Rb_brd : Brd Rb := by
  refine ⟨rfl, ?_⟩
  have : ∀ i : Fin 64, -128 ≤ Rb.getD i.val 0 ∧ Rb.getD i.val 0 ≤ 127 := by decide +kernel
  exact fun i hi => this ⟨i, hi⟩
theorem Rb_len : (if okS 0 && rightB Rb then zn (strikesN Rb 0) else ([] : List Int)).length = 14 := by decide +kernel
theorem attack_wake (w : World) (hS : Steps w) : Calls Tryd.prog 22 #[] w fun e w' => e = .returned (.bool true) ∧ Kept w w' := by
  have HS := Lib.hid hS
  clear hS
  go_enter Tryd.func22, Tryd.ntmps22
  go_wp2_with fail
  refine (new_is _).mono ?_
  rintro e w1 ⟨⟨a, rfl⟩, k1⟩
  have HK1 := Lib.hid k1
  clear k1
  go_wp2_with (refine wpList_built rfl 40 _ rfl (cl Rb).toArray (by kernel_rfl) ?_)
  refine (strikes_is a Rb Rb_brd 0 _ (HS.out.kept HK1.out)).mono ?_
  rintro e w2 ⟨v, rfl, ho, k2⟩
  obtain ⟨av, cv, rfl⟩ := ho.slice
  rw [Rb_len]
  have HK2 := Lib.hid (HK1.out.trans k2)
  clear ho k2
  go_wp2
  go_ret
  exact ⟨rfl, HK2.out⟩
set_option maxRecDepth 100000 in
set_option maxHeartbeats 4000000 in
theorem walkAttackStrikes (B : List Int) (hB : Brd B) (s : Int) (w1 : (Lit.int .i64 s).wf = true) (side : Int) (w2 : (Lit.int .i64 side).wf = true) (w : World) (hS : Steps w) :
    Calls Tryd.prog 7 #[.agg (cl B).toArray, .int .i64 s, .int .i64 side] w fun e w' => e = .returned (.bool true) ∧ Kept w w' := by
  have hz := Lib.hid (size_cl hB.1)
  have HB := Lib.hid hB
  have hbl := Lib.hid (heap_alloc_new w (.cells (cl B).toArray 40))
  have HSt := Lib.hid (hS.kept ((Kept.refl w).alloc (.cells (cl B).toArray 40)))
  have HSB := Lib.hid (struck_by B s side)
  have HStr := Lib.hid (fun a w hS => strikes_is a B hB s w hS)
  have HRStr := Lib.hid (fun w => rstrikes_is B hB s w)
  have HBy := Lib.hid (fun a w hS => by_is a B hB s side w hS)
  have HRBy := Lib.hid (fun w => rby_is B hB s side w)
  have HSk := Lib.hid (fun a w hS => struck_is a B hB s side w hS)
  clear hB hS w1 w2
  generalize (if okS s && rightB B then zn (strikesN B s) else ([] : List Int)) = LS at *
  generalize (if okS s && rightB B then zn (byN B s side) else ([] : List Int)) = LB at *
  generalize struckB B s side = sb at *
  go_enter Tryd.func7, Tryd.ntmps7
  go_wp2_with fail
  refine (attack_wake _ HSt.out).mono ?_
  rintro e w1 ⟨rfl, k1⟩
  have HK1 := Lib.hid k1
  clear k1
  go_wp2_with fail
  refine (new_is _).mono ?_
  rintro e w2 ⟨⟨a, rfl⟩, k2⟩
  have HK2 := Lib.hid (HK1.out.trans k2)
  clear k2
  go_wp2_with (refine wpList_load_w (by rfl) _ rfl _ rfl _ (HK2.out.heap hbl.out) hz.out ?_)
  refine (HRBy.out _).mono ?_
  rintro e w3 ⟨v3, rfl, ho3, k3⟩
  obtain ⟨a3, c3, rfl⟩ := ho3.slice
  have HO3 := Lib.hid ho3
  have HK3 := Lib.hid (HK2.out.trans k3)
  have hb3 := Lib.hid (HK3.out.heap hbl.out)
  have hS3 := Lib.hid (HSt.out.kept HK3.out)
  have hN : decide (0 < (LB.length : Int)) = sb := by rw [← HSB.out]; congr 1; simp
  have hq : (sb == sb) = true := by simp
  clear ho3 k3
  generalize hNN : LB.length = N at *
  have HNN := Lib.hid hNN
  clear hNN
  go_wp2
  refine wp_region_held_drew (S := Kept _) (by kernel_rfl) (Kept.refl _).drew (fun hHeld => ?_)
  refine rg_take (i := 0) (v := (.pointer (some a))) (some 16) rfl rfl (by kernel_rfl) (by kernel_rfl) (by kernel_rfl) (fun _ _ _ h => h) (Or.inl ⟨by rfl, fun _ _ => by go_simp⟩) hHeld ?_
  simp only [Act.put, List.setIfInBounds_toArray, List.set_cons_zero, List.set_cons_succ]
  refine rg_take (i := 1) (some 17) rfl rfl (by kernel_rfl) (by kernel_rfl) (by kernel_rfl) (fun _ _ _ h => h) (take_load (by rfl) _ rfl _ rfl B HB.out.1 (fun _ h => h.heap (hb3.out))) hHeld ?_
  simp only [Act.put, List.setIfInBounds_toArray, List.set_cons_zero, List.set_cons_succ]
  refine rg_take (i := 2) (v := (.int .i64 s)) (some 18) rfl rfl (by kernel_rfl) (by kernel_rfl) (by kernel_rfl) (fun _ _ _ h => h) (Or.inl ⟨by rfl, fun _ _ => by go_simp⟩) hHeld ?_
  simp only [Act.put, List.setIfInBounds_toArray, List.set_cons_zero, List.set_cons_succ]
  refine rg_take (i := 4) (some 20) rfl rfl (by kernel_rfl) (by kernel_rfl) (by kernel_rfl) (fun _ _ _ h => h) (take_load (by rfl) _ rfl _ rfl B HB.out.1 (fun _ h => h.heap (hb3.out))) hHeld ?_
  simp only [Act.put, List.setIfInBounds_toArray, List.set_cons_zero, List.set_cons_succ]
  refine rg_take (i := 5) (v := (.int .i64 s)) (some 21) rfl rfl (by kernel_rfl) (by kernel_rfl) (by kernel_rfl) (fun _ _ _ h => h) (Or.inl ⟨by rfl, fun _ _ => by go_simp⟩) hHeld ?_
  simp only [Act.put, List.setIfInBounds_toArray, List.set_cons_zero, List.set_cons_succ]
  refine wpAnyH_ready (rs := [3]) (by kernel_rfl) (by simp) ?_
  refine AllReadyH.cons rfl (fun K hK => ?_) AllReadyH.nil
  go_simp
  refine (HStr.out a _ (hS3.out.kept hHeld)).mono ?_
  rintro e x1 ⟨vx1, rfl, hox1, gx1⟩
  obtain ⟨ax1, cx1, rfl⟩ := hox1.slice
  have HOx1 := Lib.hid hox1
  clear hox1
  refine hK.out _ _ (hHeld.trans gx1) (fun _ => ?_)
  replace hHeld := hHeld.trans gx1
  clear hK K
  refine wpAnyH_ready (rs := [6]) (by kernel_rfl) (by simp) ?_
  refine AllReadyH.cons rfl (fun K hK => ?_) AllReadyH.nil
  go_simp
  refine (HRStr.out _).mono ?_
  rintro e x2 ⟨vx2, rfl, hox2, gx2⟩
  obtain ⟨ax2, cx2, rfl⟩ := hox2.slice
  have HOx2 := Lib.hid hox2
  clear hox2
  refine hK.out _ _ (hHeld.trans gx2) (fun _ => ?_)
  replace hHeld := hHeld.trans gx2
  clear hK K
  have HLs := Lib.hid (HOx1.out.kept gx2)
  obtain ⟨gg1, hg1, _⟩ := HLs.out.ls
  obtain ⟨gg2, hg2, _⟩ := HOx2.out.ls
  refine wpAnyH_ready (rs := [7]) (by kernel_rfl) (by simp) ?_
  refine AllReadyH.cons rfl (fun K hK => ?_) AllReadyH.nil
  go_simp
  refine (sameZ_yes gg1 gg2 _ _ LS _ hg1 hg2).mono ?_
  rintro e x3 ⟨rfl, gx3⟩
  refine hK.out _ _ (hHeld.trans gx3) (fun _ => ?_)
  replace hHeld := hHeld.trans gx3
  clear hK K
  refine rg_take (i := 8) (v := (.bool true)) (some 24) rfl rfl (by kernel_rfl) (by kernel_rfl) (by kernel_rfl) (fun _ _ _ h => h) (Or.inl ⟨by rfl, fun _ _ => by go_simp⟩) hHeld ?_
  simp only [Act.put, List.setIfInBounds_toArray, List.set_cons_zero, List.set_cons_succ]
  refine rg_take (i := 9) (v := (.pointer (some a))) (some 25) rfl rfl (by kernel_rfl) (by kernel_rfl) (by kernel_rfl) (fun _ _ _ h => h) (Or.inl ⟨by rfl, fun _ _ => by go_simp⟩) hHeld ?_
  simp only [Act.put, List.setIfInBounds_toArray, List.set_cons_zero, List.set_cons_succ]
  refine rg_take (i := 10) (some 26) rfl rfl (by kernel_rfl) (by kernel_rfl) (by kernel_rfl) (fun _ _ _ h => h) (take_load (by rfl) _ rfl _ rfl B HB.out.1 (fun _ h => h.heap (hb3.out))) hHeld ?_
  simp only [Act.put, List.setIfInBounds_toArray, List.set_cons_zero, List.set_cons_succ]
  refine rg_take (i := 11) (v := (.int .i64 s)) (some 27) rfl rfl (by kernel_rfl) (by kernel_rfl) (by kernel_rfl) (fun _ _ _ h => h) (Or.inl ⟨by rfl, fun _ _ => by go_simp⟩) hHeld ?_
  simp only [Act.put, List.setIfInBounds_toArray, List.set_cons_zero, List.set_cons_succ]
  refine rg_take (i := 12) (v := (.int .i64 side)) (some 28) rfl rfl (by kernel_rfl) (by kernel_rfl) (by kernel_rfl) (fun _ _ _ h => h) (Or.inl ⟨by rfl, fun _ _ => by go_simp⟩) hHeld ?_
  simp only [Act.put, List.setIfInBounds_toArray, List.set_cons_zero, List.set_cons_succ]
  refine rg_take (i := 14) (v := (.slice a3 N c3)) (some 30) rfl rfl (by kernel_rfl) (by kernel_rfl) (by kernel_rfl) (fun _ _ _ h => h) (Or.inl ⟨by rfl, fun _ _ => by go_simp⟩) hHeld ?_
  simp only [Act.put, List.setIfInBounds_toArray, List.set_cons_zero, List.set_cons_succ]
  refine wpAnyH_ready (rs := [13]) (by kernel_rfl) (by simp) ?_
  refine AllReadyH.cons rfl (fun K hK => ?_) AllReadyH.nil
  go_simp
  refine (HBy.out a _ (hS3.out.kept hHeld)).mono ?_
  rintro e x4 ⟨vx4, rfl, hox4, gx4⟩
  obtain ⟨ax4, cx4, rfl⟩ := hox4.slice
  have HOx4 := Lib.hid hox4
  clear hox4
  refine hK.out _ _ (hHeld.trans gx4) (fun _ => ?_)
  replace hHeld := hHeld.trans gx4
  clear hK K
  obtain ⟨gg3, hg3, _⟩ := (HO3.out.kept hHeld).ls
  obtain ⟨gg4, hg4, _⟩ := HOx4.out.ls
  rw [HNN.out] at *
  refine wpAnyH_ready (rs := [15]) (by kernel_rfl) (by simp) ?_
  refine AllReadyH.cons rfl (fun K hK => ?_) AllReadyH.nil
  go_simp
  refine (sameZ_yes gg4 gg3 _ _ LB _ hg4 hg3).mono ?_
  rintro e x5 ⟨rfl, gx5⟩
  refine hK.out _ _ (hHeld.trans gx5) (fun _ => ?_)
  replace hHeld := hHeld.trans gx5
  clear hK K
  refine rg_take (i := 16) (v := (.bool true)) (some 32) rfl rfl (by kernel_rfl) (by kernel_rfl) (by kernel_rfl) (fun _ _ _ h => h) (Or.inl ⟨by rfl, fun _ _ => by go_simp⟩) hHeld ?_
  simp only [Act.put, List.setIfInBounds_toArray, List.set_cons_zero, List.set_cons_succ]
  refine rg_take (i := 17) (v := (.bool true)) (some 33) rfl rfl (by kernel_rfl) (by kernel_rfl) (by kernel_rfl) (fun _ _ _ h => h) (Or.inl ⟨by rfl, fun _ _ => by go_simp⟩) hHeld ?_
  simp only [Act.put, List.setIfInBounds_toArray, List.set_cons_zero, List.set_cons_succ]
  refine rg_take (i := 18) (v := (.pointer (some a))) (some 34) rfl rfl (by kernel_rfl) (by kernel_rfl) (by kernel_rfl) (fun _ _ _ h => h) (Or.inl ⟨by rfl, fun _ _ => by go_simp⟩) hHeld ?_
  simp only [Act.put, List.setIfInBounds_toArray, List.set_cons_zero, List.set_cons_succ]
  refine rg_take (i := 19) (some 35) rfl rfl (by kernel_rfl) (by kernel_rfl) (by kernel_rfl) (fun _ _ _ h => h) (take_load (by rfl) _ rfl _ rfl B HB.out.1 (fun _ h => h.heap (hb3.out))) hHeld ?_
  simp only [Act.put, List.setIfInBounds_toArray, List.set_cons_zero, List.set_cons_succ]
  refine rg_take (i := 20) (v := (.int .i64 s)) (some 36) rfl rfl (by kernel_rfl) (by kernel_rfl) (by kernel_rfl) (fun _ _ _ h => h) (Or.inl ⟨by rfl, fun _ _ => by go_simp⟩) hHeld ?_
  simp only [Act.put, List.setIfInBounds_toArray, List.set_cons_zero, List.set_cons_succ]
  refine rg_take (i := 21) (v := (.int .i64 side)) (some 37) rfl rfl (by kernel_rfl) (by kernel_rfl) (by kernel_rfl) (fun _ _ _ h => h) (Or.inl ⟨by rfl, fun _ _ => by go_simp⟩) hHeld ?_
  simp only [Act.put, List.setIfInBounds_toArray, List.set_cons_zero, List.set_cons_succ]
  refine rg_take (i := 23) (v := (.slice a3 N c3)) (some 39) rfl rfl (by kernel_rfl) (by kernel_rfl) (by kernel_rfl) (fun _ _ _ h => h) (Or.inl ⟨by rfl, fun _ _ => by go_simp⟩) hHeld ?_
  simp only [Act.put, List.setIfInBounds_toArray, List.set_cons_zero, List.set_cons_succ]
  refine rg_take (i := 24) (v := (.int .i64 (N : Int))) (some 40) rfl rfl (by kernel_rfl) (by kernel_rfl) (by kernel_rfl) (fun _ _ _ h => h) (Or.inl ⟨by rfl, fun _ _ => by go_simp⟩) hHeld ?_
  simp only [Act.put, List.setIfInBounds_toArray, List.set_cons_zero, List.set_cons_succ]
  have hN' := HSB.out
  refine rg_take (i := 25) (v := (.bool sb)) (some 41) rfl rfl (by kernel_rfl) (by kernel_rfl) (by kernel_rfl) (fun _ _ _ h => h) (Or.inl ⟨by rfl, fun _ _ => by go_simp⟩) hHeld ?_
  simp only [Act.put, List.setIfInBounds_toArray, List.set_cons_zero, List.set_cons_succ]
  refine wpAnyH_ready (rs := [22]) (by kernel_rfl) (by simp) ?_
  refine AllReadyH.cons rfl (fun K hK => ?_) AllReadyH.nil
  go_simp
  refine (HSk.out a _ (hS3.out.kept hHeld)).mono ?_
  rintro e x6 ⟨rfl, gx6⟩
  refine hK.out _ _ (hHeld.trans gx6) (fun _ => ?_)
  replace hHeld := hHeld.trans gx6
  clear hK K
  refine rg_take (i := 26) (v := (.bool true)) (some 42) rfl rfl (by kernel_rfl) (by kernel_rfl) (by kernel_rfl) (fun _ _ _ h => h) (Or.inl ⟨by rfl, fun _ _ => by go_simp⟩) hHeld ?_
  simp only [Act.put, List.setIfInBounds_toArray, List.set_cons_zero, List.set_cons_succ]
  refine rg_take (i := 27) (v := (.bool true)) (some 43) rfl rfl (by kernel_rfl) (by kernel_rfl) (by kernel_rfl) (fun _ _ _ h => h) (Or.inl ⟨by rfl, fun _ _ => by go_simp⟩) hHeld ?_
  simp only [Act.put, List.setIfInBounds_toArray, List.set_cons_zero, List.set_cons_succ]
  refine rg_take (i := 28) (v := (.bool true)) (some 6) rfl rfl (by kernel_rfl) (by kernel_rfl) (by kernel_rfl) (fun _ _ _ h => h) (Or.inl ⟨by rfl, fun _ _ => by go_simp⟩) hHeld ?_
  simp only [Act.put, List.setIfInBounds_toArray, List.set_cons_zero, List.set_cons_succ]
  refine wpAnyH_done (by kernel_rfl) ?_ _
  go_wp2
  go_ret
  exact ⟨rfl, ((Kept.refl _).alloc _).trans (HK3.out.trans hHeld)⟩
end Go.Proofs.YtkliefojegjhhaaDoor
